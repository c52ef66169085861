/-
  PassFor, GivePass, GivePut.
-/
import Derived.Test.YtfgglainjaplgaaMEh

namespace Go.Proofs.Ytfgglainjaplgaa
open Go.RowKit

/-- A scan and a square in their boxes. -/
structure Tf (w W : World) (sx : Array Value) (q : Nat) (ys : List Int) : Prop where
  sb : W.heap[w.heap.size]? = some (.cells sx 26 (0, 0))
  qb : W.heap[q]? = some (.cells (sq ys) 73 (0, 0))
  lo : w.heap.size + 2 ≤ q
  grown : w.grownBy W none
theorem Tf.new {w W W' : World} {sx : Array Value} {q : Nat} {ys : List Int} (h : Tf w W sx q ys) (g : W.grownBy W' none) : Tf w W' sx q ys := ⟨grown_atT g h.sb (by simp), grown_atT g h.qb (by simp), h.lo, grown_trans h.grown g⟩
theorem Tf.wr {w W W' : World} {sx : Array Value} {q : Nat} {ys : List Int} (h : Tf w W sx q ys) (g : W.grownBy W' (some (w.heap.size + 1))) : Tf w W' sx q ys := by
  have := h.lo
  exact ⟨grown_atT g h.sb (by simp), grown_atT g h.qb (by simp; omega), h.lo, grown_new h.grown g (fun x e => by simp at e; omega)⟩

set_option maxRecDepth 20000 in
set_option maxHeartbeats 6400000 in
theorem forPass (ao : Option Addr) (n cap : Nat) (zs : List Int) (w : World) (hr : Rd .i64 w ao n zs) (v0 : Value) (cs : List Int) (fr to hi lo kind : Int) (b1 b2 : Bool) (k : Int) (HB1 : Hid (levB (-16383) 16383 zs = b1)) (HB2 : Hid (passB ⟨cs, fr, to, hi, lo⟩ = b2)) (HK : Hid ((if hi = 0 then 0 else 1) = k)) (t : Bool) (HT : Hid ((b1 && b2 && (k == kind)) = t)) :
    Calls Try.prog 52 #[.slice ao n cap, scV v0 ⟨cs, fr, to, hi, lo⟩, .int .i64 kind] w fun e w' => (∃ ys, e = .returned (.tuple #[.agg (sq ys), .bool t]) ∧ ys.length = 64 ∧ (n = 64 → ys = zs)) ∧ w.grownBy w' none := by
  unfold scV
  dsimp only
  obtain ⟨W2, HW2⟩ : ∃ W2, Hid ((w.alloc (.cells #[v0, .int .i64 fr, .int .i64 to, .int .i64 hi, .int .i64 lo] 26)).alloc (.cells #[.int .i64 0, .int .i64 0, .int .i64 0, .int .i64 0, .int .i64 0, .int .i64 0, .int .i64 0, .int .i64 0, .int .i64 0, .int .i64 0, .int .i64 0, .int .i64 0, .int .i64 0, .int .i64 0, .int .i64 0, .int .i64 0, .int .i64 0, .int .i64 0, .int .i64 0, .int .i64 0, .int .i64 0, .int .i64 0, .int .i64 0, .int .i64 0, .int .i64 0, .int .i64 0, .int .i64 0, .int .i64 0, .int .i64 0, .int .i64 0, .int .i64 0, .int .i64 0, .int .i64 0, .int .i64 0, .int .i64 0, .int .i64 0, .int .i64 0, .int .i64 0, .int .i64 0, .int .i64 0, .int .i64 0, .int .i64 0, .int .i64 0, .int .i64 0, .int .i64 0, .int .i64 0, .int .i64 0, .int .i64 0, .int .i64 0, .int .i64 0, .int .i64 0, .int .i64 0, .int .i64 0, .int .i64 0, .int .i64 0, .int .i64 0, .int .i64 0, .int .i64 0, .int .i64 0, .int .i64 0, .int .i64 0, .int .i64 0, .int .i64 0, .int .i64 0] 73) = W2) := ⟨_, rfl⟩
  have hg0 : w.grownBy W2 none := by rw [← unhide HW2]; exact grown_alloc (World.grownBy_alloc _ _ _) _
  have hb0 : W2.heap[w.heap.size]? = some (.cells #[v0, .int .i64 fr, .int .i64 to, .int .i64 hi, .int .i64 lo] 26 (0, 0)) := by rw [← unhide HW2, Below.heap_alloc _ _ _ (by simp)]; exact heap_alloc_new w _
  have hr0 : W2.heap[w.heap.size + 1]? = some (.cells (sq zs64) 73 (0, 0)) := by
    rw [← unhide HW2, sq_z64]
    have := heap_alloc_new (w.alloc (.cells #[v0, .int .i64 fr, .int .i64 to, .int .i64 hi, .int .i64 lo] 26)) (.cells #[.int .i64 0, .int .i64 0, .int .i64 0, .int .i64 0, .int .i64 0, .int .i64 0, .int .i64 0, .int .i64 0, .int .i64 0, .int .i64 0, .int .i64 0, .int .i64 0, .int .i64 0, .int .i64 0, .int .i64 0, .int .i64 0, .int .i64 0, .int .i64 0, .int .i64 0, .int .i64 0, .int .i64 0, .int .i64 0, .int .i64 0, .int .i64 0, .int .i64 0, .int .i64 0, .int .i64 0, .int .i64 0, .int .i64 0, .int .i64 0, .int .i64 0, .int .i64 0, .int .i64 0, .int .i64 0, .int .i64 0, .int .i64 0, .int .i64 0, .int .i64 0, .int .i64 0, .int .i64 0, .int .i64 0, .int .i64 0, .int .i64 0, .int .i64 0, .int .i64 0, .int .i64 0, .int .i64 0, .int .i64 0, .int .i64 0, .int .i64 0, .int .i64 0, .int .i64 0, .int .i64 0, .int .i64 0, .int .i64 0, .int .i64 0, .int .i64 0, .int .i64 0, .int .i64 0, .int .i64 0, .int .i64 0, .int .i64 0, .int .i64 0, .int .i64 0] 73)
    simpa using this
  have HFX := hide (fixLevels ao n cap zs W2 (hr.grown hg0) b1 HB1)
  have HG0 := hide hg0
  have HB0 := hide hb0
  have HR0 := hide hr0
  clear hr hg0 hb0 hr0
  go_enter Try.func52, Try.ntmps52
  go_wp2_with fail
  rw [unhide HW2]
  clear HW2
  refine (unhide HFX).mono ?_
  rintro e w1 ⟨⟨ys, rfl, hyl, hye⟩, g1⟩
  have HYL := hide hyl
  have HYE := hide hye
  have HYS : Hid ((sq ys).size = 64) := by unfold Hid; rw [sq_size]; exact hyl
  have HG1 := hide (grown_trans (unhide HG0) g1)
  have HB1' := hide (grown_atT g1 (unhide HB0) (by simp))
  have HR1 := hide (grown_atT g1 (unhide HR0) (by simp))
  have hs1 := (Array.getElem?_eq_some_iff.1 (unhide HR1)).1
  clear hyl hye g1 HG0 HB0 HR0 HFX
  go_wp2_with (refine store_row rfl 73 _ _ rfl w1.heap.size rfl (sq ys) rfl #[.int .i64 0, .int .i64 0, .int .i64 0, .int .i64 0, .int .i64 0, .int .i64 0, .int .i64 0, .int .i64 0, .int .i64 0, .int .i64 0, .int .i64 0, .int .i64 0, .int .i64 0, .int .i64 0, .int .i64 0, .int .i64 0, .int .i64 0, .int .i64 0, .int .i64 0, .int .i64 0, .int .i64 0, .int .i64 0, .int .i64 0, .int .i64 0, .int .i64 0, .int .i64 0, .int .i64 0, .int .i64 0, .int .i64 0, .int .i64 0, .int .i64 0, .int .i64 0, .int .i64 0, .int .i64 0, .int .i64 0, .int .i64 0, .int .i64 0, .int .i64 0, .int .i64 0, .int .i64 0, .int .i64 0, .int .i64 0, .int .i64 0, .int .i64 0, .int .i64 0, .int .i64 0, .int .i64 0, .int .i64 0, .int .i64 0, .int .i64 0, .int .i64 0, .int .i64 0, .int .i64 0, .int .i64 0, .int .i64 0, .int .i64 0, .int .i64 0, .int .i64 0, .int .i64 0, .int .i64 0, .int .i64 0, .int .i64 0, .int .i64 0, .int .i64 0] 73 (heap_alloc_new _ _) (by rw [unhide HYS]; rfl) (by rw [unhide HYS]; kernel_rfl) (sq_one _) ?_; intro WB hBB gB)
  obtain ⟨q, HQ⟩ : ∃ q, Hid (w1.heap.size = q) := ⟨_, rfl⟩
  have TB : Hid (Tf w WB #[v0, .int .i64 fr, .int .i64 to, .int .i64 hi, .int .i64 lo] q ys) := by
    rw [← unhide HQ]
    exact ⟨grown_atT gB (grown_atT (World.grownBy_alloc _ _ none) (unhide HB1') (by simp)) (by simp; omega), hBB, by omega, grown_new (grown_alloc (unhide HG1) _) gB (fun x e => by simp at e; omega)⟩
  have RB := hide (grown_atT gB (grown_atT (World.grownBy_alloc _ _ none) (unhide HR1) (by simp)) (by simp; omega))
  rw [unhide HQ]
  clear hBB gB HG1 HB1' HR1 HQ hs1
  refine wp_region_noPanic ?_
  have T0 := hide ((unhide TB).new (grown_drew (World.grownBy.refl WB none)))
  have R0 := hide (grown_atT (grown_drew (World.grownBy.refl WB none)) (unhide RB) (by simp))
  clear TB RB
  cases b1 with
  | false =>
    obtain rfl : t = false := by rw [← unhide HT]; rfl
    refine wp_region_raw (fun W => Tf w W #[v0, .int .i64 fr, .int .i64 to, .int .i64 hi, .int .i64 lo] q ys) [true, true, true, true, false, false, false, false, false, false, false, false, false, false] (by kernel_rfl) (fun _ _ _ _ _ h => h) rfl (by kernel_rfl) (unhide T0) ?_
    generalize WB.drew = W0 at *
    refine heldF_take (v := .agg (sq ys)) (Or.inl ⟨by rfl, ?_⟩) ?_
    · intro w' hSw
      exact exec_row 73 _ rfl q rfl (sq ys) 73 hSw.qb _ Try.underlying73 rfl (by rw [unhide HYS]; kernel_rfl)
    try simp only [Act.put, List.setIfInBounds_toArray, List.set_cons_zero, List.set_cons_succ]
    refine heldF_take (v := ?_) (Or.inl ⟨by rfl, ?_⟩) ?_
    rotate_left 1
    · intro w' hSw
      clear hSw
      go_simp
      try with_reducible rfl
    try simp only [Act.put, List.setIfInBounds_toArray, List.set_cons_zero, List.set_cons_succ]
    refine heldF_take (v := ?_) (Or.inl ⟨by rfl, ?_⟩) ?_
    rotate_left 1
    · intro w' hSw
      clear hSw
      go_simp
      try with_reducible rfl
    try simp only [Act.put, List.setIfInBounds_toArray, List.set_cons_zero, List.set_cons_succ]
    refine heldF_take (v := undef) (Or.inr ⟨by rfl, rfl⟩) ?_
    try simp only [Act.put, List.setIfInBounds_toArray, List.set_cons_zero, List.set_cons_succ]
    refine heldF_skip (heldF_skip (heldF_skip (heldF_skip (heldF_skip (heldF_skip (heldF_skip (heldF_skip (heldF_skip (heldF_skip (heldF_nil ?_))))))))))
    refine anyH_take1 (i := 4) (v := undef) rfl (by kernel_rfl) (fun _ _ _ _ _ h => h) (unhide T0) (Or.inr ⟨by rfl, rfl⟩) ?_
    try simp only [Act.put, List.setIfInBounds_toArray, List.set_cons_zero, List.set_cons_succ]
    refine anyH_take1 (i := 5) (v := ?_) rfl (by kernel_rfl) (fun _ _ _ _ _ h => h) (unhide T0) (Or.inl ⟨by rfl, ?_⟩) ?_
    rotate_left 1
    · intro w' hSw
      clear hSw
      go_simp
      try with_reducible rfl
    try simp only [Act.put, List.setIfInBounds_toArray, List.set_cons_zero, List.set_cons_succ]
    refine anyH_take1 (i := 6) (v := ?_) rfl (by kernel_rfl) (fun _ _ _ _ _ h => h) (unhide T0) (Or.inl ⟨by rfl, ?_⟩) ?_
    rotate_left 1
    · intro w' hSw
      clear hSw
      go_simp
      try with_reducible rfl
    try simp only [Act.put, List.setIfInBounds_toArray, List.set_cons_zero, List.set_cons_succ]
    refine anyH_take1 (i := 7) (v := undef) rfl (by kernel_rfl) (fun _ _ _ _ _ h => h) (unhide T0) (Or.inr ⟨by rfl, rfl⟩) ?_
    try simp only [Act.put, List.setIfInBounds_toArray, List.set_cons_zero, List.set_cons_succ]
    refine anyH_take1 (i := 9) (v := undef) rfl (by kernel_rfl) (fun _ _ _ _ _ h => h) (unhide T0) (Or.inr ⟨by rfl, rfl⟩) ?_
    try simp only [Act.put, List.setIfInBounds_toArray, List.set_cons_zero, List.set_cons_succ]
    refine anyH_take1 (i := 8) (v := undef) rfl (by kernel_rfl) (fun _ _ _ _ _ h => h) (unhide T0) (Or.inr ⟨by rfl, rfl⟩) ?_
    try simp only [Act.put, List.setIfInBounds_toArray, List.set_cons_zero, List.set_cons_succ]
    refine anyH_take1 (i := 10) (v := undef) rfl (by kernel_rfl) (fun _ _ _ _ _ h => h) (unhide T0) (Or.inr ⟨by rfl, rfl⟩) ?_
    try simp only [Act.put, List.setIfInBounds_toArray, List.set_cons_zero, List.set_cons_succ]
    refine anyH_take1 (i := 11) (v := ?_) rfl (by kernel_rfl) (fun _ _ _ _ _ h => h) (unhide T0) (Or.inl ⟨by rfl, ?_⟩) ?_
    rotate_left 1
    · intro w' hSw
      clear hSw
      go_simp
      try with_reducible rfl
    try simp only [Act.put, List.setIfInBounds_toArray, List.set_cons_zero, List.set_cons_succ]
    refine anyH_step1 (i := 12) rfl (by kernel_rfl) (fun K hK => ?_)
    refine step_store_row (by rfl) 73 _ _ rfl (w.heap.size + 1) rfl (sq ys) rfl (sq zs64) 73 (unhide R0) (by rw [unhide HYS, sq_size, zs64_len]) (by rw [unhide HYS]; kernel_rfl) (sq_one _) ?_
    intro W1 hB1 g1
    have T1 := hide ((unhide T0).wr g1)
    have R1 := hide hB1
    refine hK.out _ _ (unhide T1) ?_
    clear hK K g1 hB1
    try simp only [Act.put]
    refine anyH_step1 (i := 13) rfl (by kernel_rfl) (fun K hK => ?_)
    go_simp
    refine hK.out _ _ (unhide T1) ?_
    clear hK K
    try simp only [Act.put, List.setIfInBounds_toArray, List.set_cons_zero, List.set_cons_succ]
    refine wpAnyH_done (by kernel_rfl) (NoPanic.normal ?_) _
    go_wp2
    refine bodyPost_ret (v := .tuple #[.agg (sq ys), .bool false]) ?_ rfl ⟨⟨ys, rfl, unhide HYL, unhide HYE⟩, (unhide T1).grown⟩
    exact results_c2 (p := 6) (q := 7) (ty := 73) rfl _ _ _ (w.heap.size + 1) rfl _ (run_loadVar_row W1 _ 73 73 _ (0, 0) _ (unhide R1) Try.underlying73 rfl (by rw [unhide HYS]; kernel_rfl))
  | true =>
    refine wp_region_raw (fun W => Tf w W #[v0, .int .i64 fr, .int .i64 to, .int .i64 hi, .int .i64 lo] q ys) [true, true, true, true, false, false, false, false, false, false, false, false, false, false] (by kernel_rfl) (fun _ _ _ _ _ h => h) rfl (by kernel_rfl) (unhide T0) ?_
    generalize WB.drew = W0 at *
    refine heldF_take (v := .agg (sq ys)) (Or.inl ⟨by rfl, ?_⟩) ?_
    · intro w' hSw
      exact exec_row 73 _ rfl q rfl (sq ys) 73 hSw.qb _ Try.underlying73 rfl (by rw [unhide HYS]; kernel_rfl)
    try simp only [Act.put, List.setIfInBounds_toArray, List.set_cons_zero, List.set_cons_succ]
    refine heldF_take (v := ?_) (Or.inl ⟨by rfl, ?_⟩) ?_
    rotate_left 1
    · intro w' hSw
      clear hSw
      go_simp
      try with_reducible rfl
    try simp only [Act.put, List.setIfInBounds_toArray, List.set_cons_zero, List.set_cons_succ]
    refine heldF_take (v := ?_) (Or.inl ⟨by rfl, ?_⟩) ?_
    rotate_left 1
    · intro w' hSw
      clear hSw
      go_simp
      try with_reducible rfl
    try simp only [Act.put, List.setIfInBounds_toArray, List.set_cons_zero, List.set_cons_succ]
    refine heldF_take (v := .agg #[v0, .int .i64 fr, .int .i64 to, .int .i64 hi, .int .i64 lo]) (Or.inl ⟨by rfl, ?_⟩) ?_
    · intro w' hSw
      exact exec_row 26 _ rfl w.heap.size rfl #[v0, .int .i64 fr, .int .i64 to, .int .i64 hi, .int .i64 lo] 26 hSw.sb _ Try.underlying26 rfl (by kernel_rfl)
    try simp only [Act.put, List.setIfInBounds_toArray, List.set_cons_zero, List.set_cons_succ]
    refine heldF_skip (heldF_skip (heldF_skip (heldF_skip (heldF_skip (heldF_skip (heldF_skip (heldF_skip (heldF_skip (heldF_skip (heldF_nil ?_))))))))))
    refine anyH_step1 (i := 4) rfl (by kernel_rfl) (fun K hK => ?_)
    go_simp
    refine (passOk W0 v0 ⟨cs, fr, to, hi, lo⟩ b2 HB2).mono ?_
    rintro e W1 ⟨rfl, g1⟩
    have T1 := hide ((unhide T0).new g1)
    have R1 := hide (grown_atT g1 (unhide R0) (by simp))
    refine hK.out _ _ (unhide T1) ?_
    clear hK K g1
    try simp only [Act.put, List.setIfInBounds_toArray, List.set_cons_zero, List.set_cons_succ]
    cases b2 with
    | false =>
      obtain rfl : t = false := by rw [← unhide HT]; rfl
      refine anyH_take1 (i := 5) (v := ?_) rfl (by kernel_rfl) (fun _ _ _ _ _ h => h) (unhide T1) (Or.inl ⟨by rfl, ?_⟩) ?_
      rotate_left 1
      · intro w' hSw
        clear hSw
        go_simp
        try with_reducible rfl
      try simp only [Act.put, List.setIfInBounds_toArray, List.set_cons_zero, List.set_cons_succ]
      refine anyH_take1 (i := 6) (v := ?_) rfl (by kernel_rfl) (fun _ _ _ _ _ h => h) (unhide T1) (Or.inl ⟨by rfl, ?_⟩) ?_
      rotate_left 1
      · intro w' hSw
        clear hSw
        go_simp
        try with_reducible rfl
      try simp only [Act.put, List.setIfInBounds_toArray, List.set_cons_zero, List.set_cons_succ]
      refine anyH_take1 (i := 7) (v := undef) rfl (by kernel_rfl) (fun _ _ _ _ _ h => h) (unhide T1) (Or.inr ⟨by rfl, rfl⟩) ?_
      try simp only [Act.put, List.setIfInBounds_toArray, List.set_cons_zero, List.set_cons_succ]
      refine anyH_take1 (i := 9) (v := undef) rfl (by kernel_rfl) (fun _ _ _ _ _ h => h) (unhide T1) (Or.inr ⟨by rfl, rfl⟩) ?_
      try simp only [Act.put, List.setIfInBounds_toArray, List.set_cons_zero, List.set_cons_succ]
      refine anyH_take1 (i := 8) (v := undef) rfl (by kernel_rfl) (fun _ _ _ _ _ h => h) (unhide T1) (Or.inr ⟨by rfl, rfl⟩) ?_
      try simp only [Act.put, List.setIfInBounds_toArray, List.set_cons_zero, List.set_cons_succ]
      refine anyH_take1 (i := 10) (v := undef) rfl (by kernel_rfl) (fun _ _ _ _ _ h => h) (unhide T1) (Or.inr ⟨by rfl, rfl⟩) ?_
      try simp only [Act.put, List.setIfInBounds_toArray, List.set_cons_zero, List.set_cons_succ]
      refine anyH_take1 (i := 11) (v := ?_) rfl (by kernel_rfl) (fun _ _ _ _ _ h => h) (unhide T1) (Or.inl ⟨by rfl, ?_⟩) ?_
      rotate_left 1
      · intro w' hSw
        clear hSw
        go_simp
        try with_reducible rfl
      try simp only [Act.put, List.setIfInBounds_toArray, List.set_cons_zero, List.set_cons_succ]
      refine anyH_step1 (i := 12) rfl (by kernel_rfl) (fun K hK => ?_)
      refine step_store_row (by rfl) 73 _ _ rfl (w.heap.size + 1) rfl (sq ys) rfl (sq zs64) 73 (unhide R1) (by rw [unhide HYS, sq_size, zs64_len]) (by rw [unhide HYS]; kernel_rfl) (sq_one _) ?_
      intro W2 hB2 g2
      have T2 := hide ((unhide T1).wr g2)
      have R2 := hide hB2
      refine hK.out _ _ (unhide T2) ?_
      clear hK K g2 hB2
      try simp only [Act.put]
      refine anyH_step1 (i := 13) rfl (by kernel_rfl) (fun K hK => ?_)
      go_simp
      refine hK.out _ _ (unhide T2) ?_
      clear hK K
      try simp only [Act.put, List.setIfInBounds_toArray, List.set_cons_zero, List.set_cons_succ]
      refine wpAnyH_done (by kernel_rfl) (NoPanic.normal ?_) _
      go_wp2
      refine bodyPost_ret (v := .tuple #[.agg (sq ys), .bool false]) ?_ rfl ⟨⟨ys, rfl, unhide HYL, unhide HYE⟩, (unhide T2).grown⟩
      exact results_c2 (p := 6) (q := 7) (ty := 73) rfl _ _ _ (w.heap.size + 1) rfl _ (run_loadVar_row W2 _ 73 73 _ (0, 0) _ (unhide R2) Try.underlying73 rfl (by rw [unhide HYS]; kernel_rfl))
    | true =>
      obtain rfl : (k == kind) = t := by rw [← unhide HT]; simp
      clear HT
      refine anyH_take1 (i := 5) (v := ?_) rfl (by kernel_rfl) (fun _ _ _ _ _ h => h) (unhide T1) (Or.inl ⟨by rfl, ?_⟩) ?_
      rotate_left 1
      · intro w' hSw
        clear hSw
        go_simp
        try with_reducible rfl
      try simp only [Act.put, List.setIfInBounds_toArray, List.set_cons_zero, List.set_cons_succ]
      refine anyH_take1 (i := 6) (v := ?_) rfl (by kernel_rfl) (fun _ _ _ _ _ h => h) (unhide T1) (Or.inl ⟨by rfl, ?_⟩) ?_
      rotate_left 1
      · intro w' hSw
        clear hSw
        go_simp
        try with_reducible rfl
      try simp only [Act.put, List.setIfInBounds_toArray, List.set_cons_zero, List.set_cons_succ]
      refine anyH_take1 (i := 7) (v := .agg #[v0, .int .i64 fr, .int .i64 to, .int .i64 hi, .int .i64 lo]) rfl (by kernel_rfl) (fun _ _ _ _ _ h => h) (unhide T1) (Or.inl ⟨by rfl, ?_⟩) ?_
      · intro w' hSw
        exact exec_row 26 _ rfl w.heap.size rfl #[v0, .int .i64 fr, .int .i64 to, .int .i64 hi, .int .i64 lo] 26 hSw.sb _ Try.underlying26 rfl (by kernel_rfl)
      try simp only [Act.put, List.setIfInBounds_toArray, List.set_cons_zero, List.set_cons_succ]
      refine anyH_take1 (i := 9) (v := ?_) rfl (by kernel_rfl) (fun _ _ _ _ _ h => h) (unhide T1) (Or.inl ⟨by rfl, ?_⟩) ?_
      rotate_left 1
      · intro w' hSw
        clear hSw
        go_simp
        try with_reducible rfl
      try simp only [Act.put, List.setIfInBounds_toArray, List.set_cons_zero, List.set_cons_succ]
      refine anyH_step1 (i := 8) rfl (by kernel_rfl) (fun K hK => ?_)
      go_simp
      refine (kindOfPass W1 v0 ⟨cs, fr, to, hi, lo⟩ k HK).mono ?_
      rintro e W2 ⟨rfl, g2⟩
      have T2 := hide ((unhide T1).new g2)
      have R2 := hide (grown_atT g2 (unhide R1) (by simp))
      refine hK.out _ _ (unhide T2) ?_
      clear hK K g2
      try simp only [Act.put, List.setIfInBounds_toArray, List.set_cons_zero, List.set_cons_succ]
      refine anyH_take1 (i := 10) (v := ?_) rfl (by kernel_rfl) (fun _ _ _ _ _ h => h) (unhide T2) (Or.inl ⟨by rfl, ?_⟩) ?_
      rotate_left 1
      · intro w' hSw
        clear hSw
        go_simp
        try with_reducible rfl
      try simp only [Act.put, List.setIfInBounds_toArray, List.set_cons_zero, List.set_cons_succ]
      refine anyH_take1 (i := 11) (v := ?_) rfl (by kernel_rfl) (fun _ _ _ _ _ h => h) (unhide T2) (Or.inl ⟨by rfl, ?_⟩) ?_
      rotate_left 1
      · intro w' hSw
        clear hSw
        go_simp
        try with_reducible rfl
      try simp only [Act.put, List.setIfInBounds_toArray, List.set_cons_zero, List.set_cons_succ]
      refine anyH_step1 (i := 12) rfl (by kernel_rfl) (fun K hK => ?_)
      refine step_store_row (by rfl) 73 _ _ rfl (w.heap.size + 1) rfl (sq ys) rfl (sq zs64) 73 (unhide R2) (by rw [unhide HYS, sq_size, zs64_len]) (by rw [unhide HYS]; kernel_rfl) (sq_one _) ?_
      intro W3 hB3 g3
      have T3 := hide ((unhide T2).wr g3)
      have R3 := hide hB3
      refine hK.out _ _ (unhide T3) ?_
      clear hK K g3 hB3
      try simp only [Act.put]
      refine anyH_step1 (i := 13) rfl (by kernel_rfl) (fun K hK => ?_)
      go_simp
      refine hK.out _ _ (unhide T3) ?_
      clear hK K
      try simp only [Act.put, List.setIfInBounds_toArray, List.set_cons_zero, List.set_cons_succ]
      refine wpAnyH_done (by kernel_rfl) (NoPanic.normal ?_) _
      go_wp2
      refine bodyPost_ret (v := .tuple #[.agg (sq ys), .bool (k == kind)]) ?_ rfl ⟨⟨ys, rfl, unhide HYL, unhide HYE⟩, (unhide T3).grown⟩
      exact results_c2 (p := 6) (q := 7) (ty := 73) rfl _ _ _ (w.heap.size + 1) rfl _ (run_loadVar_row W3 _ 73 73 _ (0, 0) _ (unhide R3) Try.underlying73 rfl (by rw [unhide HYS]; kernel_rfl))

end Go.Proofs.Ytfgglainjaplgaa

namespace Go.Proofs.Ytfgglainjaplgaa
open Go.RowKit

theorem lev_zz {zs : List Int} (h : levB (-16383) 16383 zs = true) : ∀ j, j < 64 → -16383 ≤ (zigged zs).getD j 0 ∧ (zigged zs).getD j 0 ≤ 16383 := fun j hj => by
  unfold zigged
  rw [made_at _ j hj]
  exact (lev_at h).2 _ (zz_lt j hj)
/-- What is so of a scan that is a pass. -/
theorem pass_in {cs : List Int} {fr to hi lo : Int} (h : passB ⟨cs, fr, to, hi, lo⟩ = true) : ∃ k0 k1 l0 : Nat, fr = k0 ∧ to = k1 ∧ lo = l0 ∧ k0 ≤ k1 ∧ k1 ≤ 63 ∧ l0 ≤ 13 ∧ (hi = 0 ∨ hi = ((l0 + 1 : Nat) : Int)) := by
  unfold passB at h
  simp only [Bool.and_eq_true, Bool.or_eq_true, decide_eq_true_eq] at h
  obtain ⟨⟨⟨⟨f0, f1⟩, f2⟩, f3, f4⟩, f5⟩ := h
  exact ⟨fr.toNat, to.toNat, lo.toNat, by omega, by omega, by omega, by omega, by omega, by omega, by omega⟩

theorem nil13 {w W : World} (h : w.grownBy W none) {L : List Int} (hL : L = []) : Row13 w L (.returned (.slice none 0 0)) W := by
  subst hL
  exact ⟨none, 0, rfl, ⟨rfl, .inl ⟨rfl, rfl⟩⟩, h⟩

theorem toldFirst (zs : List Int) (hz : levB (-16383) 16383 zs = true) (v0 : Value) (cs : List Int) (fr to lo : Int) (hp : passB ⟨cs, fr, to, 0, lo⟩ = true) (w : World) :
    Calls Try.prog 53 #[.agg (sq zs), scV v0 ⟨cs, fr, to, 0, lo⟩] w (Row13 w (firstL (zigged zs) fr.toNat (to - fr + 1).toNat lo.toNat)) := by
  obtain ⟨k0, k1, l0, rfl, rfl, rfl, h1, h2, h3, _⟩ := pass_in hp
  have em : ((k1 : Int) - (k0 : Int) + 1).toNat = k1 + 1 - k0 := by omega
  rw [em, Int.toNat_natCast, Int.toNat_natCast]
  exact told zs (lev_at hz).1 v0 cs k0 k1 0 l0 h1 h2 _ 0 72 (.agg #[.int .i64 l0]) (fun n => cutI n l0) (fun W => tellTable W v0 cs k0 k1 0 l0) (fun W => kindOfPass W v0 ⟨cs, k0, k1, 0, l0⟩ 0 rfl) (fun w => by kernel_rfl)
    (enters_of Try.func72 (by kernel_rfl) rfl) (fun j hj W => firstTell _ l0 (lev_zz hz j hj) h3 W) _ rfl w

theorem toldRefine (zs : List Int) (hz : levB (-16383) 16383 zs = true) (v0 : Value) (cs : List Int) (fr to hi lo : Int) (h0 : hi ≠ 0) (hp : passB ⟨cs, fr, to, hi, lo⟩ = true) (w : World) :
    Calls Try.prog 53 #[.agg (sq zs), scV v0 ⟨cs, fr, to, hi, lo⟩] w (Row13 w (refineL (zigged zs) fr.toNat (to - fr + 1).toNat hi.toNat lo.toNat)) := by
  obtain ⟨k0, k1, l0, rfl, rfl, rfl, h1, h2, h3, h4⟩ := pass_in hp
  obtain rfl : hi = ((l0 + 1 : Nat) : Int) := by
    rcases h4 with h4 | h4
    · exact absurd h4 h0
    · exact h4
  have em : ((k1 : Int) - (k0 : Int) + 1).toNat = k1 + 1 - k0 := by omega
  rw [em, Int.toNat_natCast, Int.toNat_natCast, Int.toNat_natCast]
  exact told zs (lev_at hz).1 v0 cs k0 k1 _ l0 h1 h2 _ 1 73 (.agg #[.int .i64 ((l0 + 1 : Nat) : Int), .int .i64 l0]) (fun n => bitI n (l0 + 1) l0) (fun W => tellTable W v0 cs k0 k1 _ l0) (fun W => kindOfPass W v0 ⟨cs, k0, k1, _, l0⟩ 1 (if_neg h0)) (fun w => by kernel_rfl)
    (enters_of Try.func73 (by kernel_rfl) rfl) (fun j hj W => refTell _ (l0 + 1) l0 (lev_zz hz j hj) (by omega) h3 W) _ rfl w

set_option maxRecDepth 20000 in
set_option maxHeartbeats 1600000 in
theorem tellPass (ao : Option Addr) (n cap : Nat) (zs : List Int) (w : World) (hr : Rd .i64 w ao n zs) (vo : Option Addr) (vn vc : Nat) (cs : List Int) (fr to hi lo kind : Int) (b1 b2 : Bool) (k : Int) (HB1 : Hid (levB (-16383) 16383 zs = b1)) (HB2 : Hid (passB ⟨cs, fr, to, hi, lo⟩ = b2)) (HK : Hid ((if hi = 0 then 0 else 1) = k)) (L : List Int)
    (HY : Hid ((b1 && b2 && (k == kind)) = true → ∀ W, Calls Try.prog 53 #[.agg (sq zs), scV (.slice vo vn vc) ⟨cs, fr, to, hi, lo⟩] W (Row13 W L))) (HN : Hid ((b1 && b2 && (k == kind)) = false → L = [])) :
    Calls Try.prog 37 #[.slice ao n cap, scV (.slice vo vn vc) ⟨cs, fr, to, hi, lo⟩, .int .i64 kind] w (Row13 w L) := by
  obtain ⟨t, HT⟩ : ∃ t, Hid ((b1 && b2 && (k == kind)) = t) := ⟨_, rfl⟩
  have HG0 : Hid (w.grownBy (w.alloc (.cells #[.slice vo vn vc, .int .i64 fr, .int .i64 to, .int .i64 hi, .int .i64 lo] 26)) none) := World.grownBy_alloc _ _ _
  have HB0 := hide (heap_alloc_new w (.cells #[.slice vo vn vc, .int .i64 fr, .int .i64 to, .int .i64 hi, .int .i64 lo] 26))
  have HFP := hide (forPass ao n cap zs _ (hr.grown (unhide HG0)) (.slice vo vn vc) cs fr to hi lo kind b1 b2 k HB1 HB2 HK t HT)
  have h64 : t = true → n = 64 ∧ zs.length = 64 := fun e => by
    have h := unhide HT
    rw [e] at h
    simp only [Bool.and_eq_true] at h
    have h2 := unhide HB1
    rw [h.1.1] at h2
    have h3 := (lev_at h2).1
    exact ⟨hr.1.symm.trans h3, h3⟩
  have H64 := hide h64
  rw [unhide HT] at HY HN
  unfold scV at HFP HY ⊢
  dsimp only at HFP HY ⊢
  have c0 := scanCells (unhide HB0)
  clear hr h64 HB1 HB2 HK HT
  go_enter Try.func37, Try.ntmps37
  go_wp2_with fail
  refine (unhide HFP).mono ?_
  rintro e w1 ⟨⟨ys, rfl, hyl, hye⟩, g1⟩
  have HYS : Hid ((sq ys).size = 64) := by unfold Hid; rw [sq_size]; exact hyl
  have HYE := hide hye
  have HG1 := hide (grown_trans (unhide HG0) g1)
  have HB1 := hide (grown_atT g1 (unhide HB0) (by simp))
  have hs1 := (Array.getElem?_eq_some_iff.1 (unhide HB1)).1
  clear hyl hye g1 c0 HG0 HB0 HFP
  cases t with
  | false =>
    have HL0 := hide (unhide HN rfl)
    clear HY HN H64
    go_wp2_with (refine store_row rfl 73 _ _ rfl w1.heap.size rfl (sq ys) rfl #[.int .i64 0, .int .i64 0, .int .i64 0, .int .i64 0, .int .i64 0, .int .i64 0, .int .i64 0, .int .i64 0, .int .i64 0, .int .i64 0, .int .i64 0, .int .i64 0, .int .i64 0, .int .i64 0, .int .i64 0, .int .i64 0, .int .i64 0, .int .i64 0, .int .i64 0, .int .i64 0, .int .i64 0, .int .i64 0, .int .i64 0, .int .i64 0, .int .i64 0, .int .i64 0, .int .i64 0, .int .i64 0, .int .i64 0, .int .i64 0, .int .i64 0, .int .i64 0, .int .i64 0, .int .i64 0, .int .i64 0, .int .i64 0, .int .i64 0, .int .i64 0, .int .i64 0, .int .i64 0, .int .i64 0, .int .i64 0, .int .i64 0, .int .i64 0, .int .i64 0, .int .i64 0, .int .i64 0, .int .i64 0, .int .i64 0, .int .i64 0, .int .i64 0, .int .i64 0, .int .i64 0, .int .i64 0, .int .i64 0, .int .i64 0, .int .i64 0, .int .i64 0, .int .i64 0, .int .i64 0, .int .i64 0, .int .i64 0, .int .i64 0, .int .i64 0] 73 (heap_alloc_new _ _) (by rw [unhide HYS]; rfl) (by rw [unhide HYS]; kernel_rfl) (sq_one _) ?_; intro w2 hB2 g2)
    have HE := hide (nil13 (show w.grownBy w2 none from grown_new (grown_alloc (unhide HG1) _) g2 (fun x e => by simp at e; omega)) (unhide HL0))
    clear hB2 g2
    go_ret
    exact unhide HE
  | true =>
    obtain ⟨e64, hz64⟩ := unhide H64 rfl
    obtain rfl : ys = zs := unhide HYE e64
    have HTL := hide (unhide HY rfl)
    clear e64 hz64 HY HN H64 HYE
    go_wp2_with (first | (refine store_row rfl 73 _ _ rfl w1.heap.size rfl (sq ys) rfl #[.int .i64 0, .int .i64 0, .int .i64 0, .int .i64 0, .int .i64 0, .int .i64 0, .int .i64 0, .int .i64 0, .int .i64 0, .int .i64 0, .int .i64 0, .int .i64 0, .int .i64 0, .int .i64 0, .int .i64 0, .int .i64 0, .int .i64 0, .int .i64 0, .int .i64 0, .int .i64 0, .int .i64 0, .int .i64 0, .int .i64 0, .int .i64 0, .int .i64 0, .int .i64 0, .int .i64 0, .int .i64 0, .int .i64 0, .int .i64 0, .int .i64 0, .int .i64 0, .int .i64 0, .int .i64 0, .int .i64 0, .int .i64 0, .int .i64 0, .int .i64 0, .int .i64 0, .int .i64 0, .int .i64 0, .int .i64 0, .int .i64 0, .int .i64 0, .int .i64 0, .int .i64 0, .int .i64 0, .int .i64 0, .int .i64 0, .int .i64 0, .int .i64 0, .int .i64 0, .int .i64 0, .int .i64 0, .int .i64 0, .int .i64 0, .int .i64 0, .int .i64 0, .int .i64 0, .int .i64 0, .int .i64 0, .int .i64 0, .int .i64 0, .int .i64 0] 73 (heap_alloc_new _ _) (by rw [unhide HYS]; rfl) (by rw [unhide HYS]; kernel_rfl) (sq_one _) ?_; intro w2 hB2 g2; have HQ2 := hide hB2; have HB2 := hide (grown_atT g2 (grown_atT (World.grownBy_alloc _ _ none) (unhide HB1) (by simp)) (by simp; omega)); have HG2 : Hid (w.grownBy w2 none) := grown_new (grown_alloc (unhide HG1) _) g2 (fun x e => by simp at e; omega); have c0 := scanCells (unhide HB2); clear hB2 g2) | (refine load_row rfl 73 _ rfl w1.heap.size rfl (sq ys) 73 (unhide HQ2) _ Try.underlying73 rfl (by rw [unhide HYS]; kernel_rfl) ?_))
    refine (unhide HTL w2).mono ?_
    rintro e w3 ⟨so, sc, rfl, o3, g3⟩
    have HE : Hid (Row13 w L (.returned (.slice so L.length sc)) w3) := ⟨so, sc, rfl, own_base o3 (unhide HG2).size, grown_trans (unhide HG2) g3⟩
    clear o3 g3 c0 HTL
    go_wp2
    go_ret
    exact unhide HE

theorem giveFirst : ImplFirst := by
  rintro ao n cap zs w hr - vo vn vc ⟨cs, fr, to, hi, lo⟩ - - L HL
  have HG0 : Hid (w.grownBy (w.alloc (.cells #[.slice vo vn vc, .int .i64 fr, .int .i64 to, .int .i64 hi, .int .i64 lo] 26)) none) := World.grownBy_alloc _ _ _
  have hp := unhide HL
  unfold firstG at hp
  have e0 : ((if hi = 0 then 0 else 1) == (0 : Int)) = decide (hi = 0) := by by_cases h : hi = 0 <;> simp [h]
  have HTP := hide (tellPass ao n cap zs _ (hr.grown (unhide HG0)) vo vn vc cs fr to hi lo 0 _ _ _ rfl rfl rfl L (fun h W => by
      rw [e0] at h
      dsimp only at hp
      rw [if_pos h] at hp
      simp only [Bool.and_eq_true, decide_eq_true_eq] at h
      obtain ⟨⟨h1, h2⟩, rfl⟩ := h
      rw [← hp]
      exact toldFirst zs h1 _ cs fr to lo h2 W) (fun h => by
      rw [e0] at h
      dsimp only at hp
      rw [if_neg (by rw [h]; decide)] at hp
      exact hp.symm))
  unfold scV at HTP
  dsimp only at HTP ⊢
  have c0 := scanCells (heap_alloc_new w (.cells #[.slice vo vn vc, .int .i64 fr, .int .i64 to, .int .i64 hi, .int .i64 lo] 26))
  clear hr hp e0 HL
  go_enter Try.func12, Try.ntmps12
  go_wp2_with fail
  refine (unhide HTP).mono ?_
  rintro e w3 ⟨so, sc, rfl, o3, g3⟩
  have HE : Hid (Row13 w L (.returned (.slice so L.length sc)) w3) := ⟨so, sc, rfl, own_base o3 (unhide HG0).size, grown_trans (unhide HG0) g3⟩
  clear o3 g3 c0 HTP
  go_wp2
  go_ret
  exact unhide HE

theorem giveRefine : ImplRefine := by
  rintro ao n cap zs w hr - vo vn vc ⟨cs, fr, to, hi, lo⟩ - - L HL
  have HG0 : Hid (w.grownBy (w.alloc (.cells #[.slice vo vn vc, .int .i64 fr, .int .i64 to, .int .i64 hi, .int .i64 lo] 26)) none) := World.grownBy_alloc _ _ _
  have hp := unhide HL
  unfold refineG at hp
  have e0 : ((if hi = 0 then 0 else 1) == (1 : Int)) = !decide (hi = 0) := by by_cases h : hi = 0 <;> simp [h]
  have HTP := hide (tellPass ao n cap zs _ (hr.grown (unhide HG0)) vo vn vc cs fr to hi lo 1 _ _ _ rfl rfl rfl L (fun h W => by
      rw [e0] at h
      dsimp only at hp
      rw [if_pos h] at hp
      simp only [Bool.and_eq_true, Bool.not_eq_true', decide_eq_false_iff_not] at h
      obtain ⟨⟨h1, h2⟩, h3⟩ := h
      rw [← hp]
      exact toldRefine zs h1 _ cs fr to hi lo h3 h2 W) (fun h => by
      rw [e0] at h
      dsimp only at hp
      rw [if_neg (by rw [h]; decide)] at hp
      exact hp.symm))
  unfold scV at HTP
  dsimp only at HTP ⊢
  have c0 := scanCells (heap_alloc_new w (.cells #[.slice vo vn vc, .int .i64 fr, .int .i64 to, .int .i64 hi, .int .i64 lo] 26))
  clear hr hp e0 HL
  go_enter Try.func16, Try.ntmps16
  go_wp2_with fail
  refine (unhide HTP).mono ?_
  rintro e w3 ⟨so, sc, rfl, o3, g3⟩
  have HE : Hid (Row13 w L (.returned (.slice so L.length sc)) w3) := ⟨so, sc, rfl, own_base o3 (unhide HG0).size, grown_trans (unhide HG0) g3⟩
  clear o3 g3 c0 HTP
  go_wp2
  go_ret
  exact unhide HE

end Go.Proofs.Ytfgglainjaplgaa

namespace Go.Proofs.Ytfgglainjaplgaa
open Go.RowKit

def fFirst (lo : Nat) (_x t : Int) : Option Int := if inLev t && inLev (t * 2 ^ lo) then some (t * 2 ^ lo) else none
def fRef (lo : Nat) (x t : Int) : Option Int := if refB lo x t then some (finer lo t x) else none
theorem step_first (lo : Nat) : stepO (fFirst lo) = stepF lo := by
  funext k n z
  unfold stepO fFirst stepF
  split <;> rfl
theorem step_ref (lo : Nat) : stepO (fRef lo) = stepR lo := by
  funext k n z
  unfold stepO fRef stepR refB
  split <;> rfl
theorem lev_of {n : Int} (h : inLev n = true) : -16383 ≤ n ∧ n ≤ 16383 := of_decide_eq_true h
theorem fFirst_lev (lo : Nat) : ∀ x t y : Int, fFirst lo x t = some y → -16383 ≤ y ∧ y ≤ 16383 := fun x t y h => by
  unfold fFirst at h
  split at h
  · rename_i hb
    rw [Bool.and_eq_true] at hb
    rw [← Option.some.inj h]
    exact lev_of hb.2
  · cases h
theorem fRef_lev (lo : Nat) : ∀ x t y : Int, fRef lo x t = some y → -16383 ≤ y ∧ y ≤ 16383 := fun x t y h => by
  unfold fRef at h
  split at h
  · rename_i hb
    unfold refB at hb
    rw [Bool.and_eq_true] at hb
    rw [← Option.some.inj h]
    exact lev_of hb.2
  · cases h

theorem withFirst (zs : List Int) (hz : levB (-16383) 16383 zs = true) (v0 : Value) (cs : List Int) (fr to lo : Int) (hp : passB ⟨cs, fr, to, 0, lo⟩ = true) (bo : Option Addr) (ln lc : Nat) (ls : List Int) (w : World) (hr : Rd .i64 w bo ln ls) (hln : ln ≤ 1048576) (R : Option (List Int)) (HR : Hid ((if (ln : Int) = to - fr + 1 then putT (stepF lo.toNat) fr.toNat ls (zigged zs) ln else none) = R)) :
    Calls Try.prog 55 #[.agg (sq zs), scV v0 ⟨cs, fr, to, 0, lo⟩, .slice bo ln lc] w fun e w' => (∃ ys, e = .returned (.tuple #[.agg (sq ys), .bool R.isSome]) ∧ ys.length = 64 ∧ (∀ z, R = some z → ys = unzigged z)) ∧ w.grownBy w' none := by
  obtain ⟨k0, k1, l0, rfl, rfl, rfl, h1, h2, h3, _⟩ := pass_in hp
  rw [Int.toNat_natCast, Int.toNat_natCast, ← step_first] at HR
  refine withTold zs (lev_at hz).1 (lev_zz hz) v0 cs k0 k1 0 l0 h1 h2 _ 0 75 (.agg #[.int .i64 l0]) (fFirst l0) (fun W => putTable W v0 cs k0 k1 0 l0) (fun W => kindOfPass W v0 ⟨cs, k0, k1, 0, l0⟩ 0 rfl) (fun w => by kernel_rfl)
    (enters_of Try.func75 (by kernel_rfl) rfl) (fFirst_lev l0) (fun x t hx W => (firstPut x t l0 h3 _ rfl W).mono ?_) bo ln lc ls w hr hln R HR
  rintro e W' ⟨y, ⟨rfl, hy⟩, g⟩
  unfold fFirst
  cases hb : (inLev t && inLev (t * 2 ^ l0)) with
  | false => exact ⟨y, ⟨rfl, fun h => by cases h⟩, g⟩
  | true => exact ⟨y, ⟨rfl, fun _ => by rw [hy hb]; rfl⟩, g⟩

theorem withRefine (zs : List Int) (hz : levB (-16383) 16383 zs = true) (v0 : Value) (cs : List Int) (fr to hi lo : Int) (h0 : hi ≠ 0) (hp : passB ⟨cs, fr, to, hi, lo⟩ = true) (bo : Option Addr) (ln lc : Nat) (ls : List Int) (w : World) (hr : Rd .i64 w bo ln ls) (hln : ln ≤ 1048576) (R : Option (List Int)) (HR : Hid ((if (ln : Int) = to - fr + 1 then putT (stepR lo.toNat) fr.toNat ls (zigged zs) ln else none) = R)) :
    Calls Try.prog 55 #[.agg (sq zs), scV v0 ⟨cs, fr, to, hi, lo⟩, .slice bo ln lc] w fun e w' => (∃ ys, e = .returned (.tuple #[.agg (sq ys), .bool R.isSome]) ∧ ys.length = 64 ∧ (∀ z, R = some z → ys = unzigged z)) ∧ w.grownBy w' none := by
  obtain ⟨k0, k1, l0, rfl, rfl, rfl, h1, h2, h3, h4⟩ := pass_in hp
  obtain rfl : hi = ((l0 + 1 : Nat) : Int) := by
    rcases h4 with h4 | h4
    · exact absurd h4 h0
    · exact h4
  rw [Int.toNat_natCast, Int.toNat_natCast, ← step_ref] at HR
  refine withTold zs (lev_at hz).1 (lev_zz hz) v0 cs k0 k1 _ l0 h1 h2 _ 1 76 (.agg #[.int .i64 ((l0 + 1 : Nat) : Int), .int .i64 l0]) (fRef l0) (fun W => putTable W v0 cs k0 k1 _ l0) (fun W => kindOfPass W v0 ⟨cs, k0, k1, _, l0⟩ 1 (if_neg h0)) (fun w => by kernel_rfl)
    (enters_of Try.func76 (by kernel_rfl) rfl) (fRef_lev l0) (fun x t hx W => (refPut x t (l0 + 1) l0 hx h3 _ rfl W).mono ?_) bo ln lc ls w hr hln R HR
  rintro e W' ⟨y, ⟨rfl, hy⟩, g⟩
  unfold fRef
  cases hb : refB l0 x t with
  | false => exact ⟨y, ⟨rfl, fun h => by cases h⟩, g⟩
  | true => exact ⟨y, ⟨rfl, fun _ => by rw [hy hb]; rfl⟩, g⟩

set_option maxRecDepth 20000 in
set_option maxHeartbeats 3200000 in
theorem putPass (ao : Option Addr) (n cap : Nat) (zs : List Int) (w : World) (hr : Rd .i64 w ao n zs) (vo : Option Addr) (vn vc : Nat) (cs : List Int) (fr to hi lo kind : Int) (bo : Option Addr) (ln lc : Nat) (ls : List Int) (hl : Rd .i64 w bo ln ls) (b1 b2 : Bool) (k : Int) (HB1 : Hid (levB (-16383) 16383 zs = b1)) (HB2 : Hid (passB ⟨cs, fr, to, hi, lo⟩ = b2)) (HK : Hid ((if hi = 0 then 0 else 1) = k)) (R : Option (List Int))
    (HY : Hid ((b1 && b2 && (k == kind)) = true → ∀ W, Rd .i64 W bo ln ls → Calls Try.prog 55 #[.agg (sq zs), scV (.slice vo vn vc) ⟨cs, fr, to, hi, lo⟩, .slice bo ln lc] W fun e w' => (∃ ys, e = .returned (.tuple #[.agg (sq ys), .bool R.isSome]) ∧ ys.length = 64 ∧ (∀ z, R = some z → ys = unzigged z)) ∧ W.grownBy w' none)) (L : List Int) (HL : Hid ((if (b1 && b2 && (k == kind)) = true then ofO R else []) = L)) :
    Calls Try.prog 41 #[.slice ao n cap, scV (.slice vo vn vc) ⟨cs, fr, to, hi, lo⟩, .slice bo ln lc, .int .i64 kind] w (Row13 w L) := by
  obtain ⟨t, HT⟩ : ∃ t, Hid ((b1 && b2 && (k == kind)) = t) := ⟨_, rfl⟩
  have HG0 : Hid (w.grownBy (w.alloc (.cells #[.slice vo vn vc, .int .i64 fr, .int .i64 to, .int .i64 hi, .int .i64 lo] 26)) none) := World.grownBy_alloc _ _ _
  have HB0 := hide (heap_alloc_new w (.cells #[.slice vo vn vc, .int .i64 fr, .int .i64 to, .int .i64 hi, .int .i64 lo] 26))
  have HFP := hide (forPass ao n cap zs _ (hr.grown (unhide HG0)) (.slice vo vn vc) cs fr to hi lo kind b1 b2 k HB1 HB2 HK t HT)
  have h64 : t = true → n = 64 ∧ zs.length = 64 := fun e => by
    have h := unhide HT
    rw [e] at h
    simp only [Bool.and_eq_true] at h
    have h2 := unhide HB1
    rw [h.1.1] at h2
    have h3 := (lev_at h2).1
    exact ⟨hr.1.symm.trans h3, h3⟩
  have H64 := hide h64
  have HLS := hide hl
  rw [unhide HT] at HY HL
  unfold scV at HFP HY ⊢
  dsimp only at HFP HY ⊢
  have c0 := scanCells (unhide HB0)
  clear hr hl h64 HB1 HB2 HK HT
  go_enter Try.func41, Try.ntmps41
  go_wp2_with fail
  refine (unhide HFP).mono ?_
  rintro e w1 ⟨⟨ys, rfl, hyl, hye⟩, g1⟩
  have HYS : Hid ((sq ys).size = 64) := by unfold Hid; rw [sq_size]; exact hyl
  have HYE := hide hye
  have HG1 := hide (grown_trans (unhide HG0) g1)
  have HB1 := hide (grown_atT g1 (unhide HB0) (by simp))
  have hs1 := (Array.getElem?_eq_some_iff.1 (unhide HB1)).1
  clear hyl hye g1 c0 HG0 HB0 HFP
  cases t with
  | false =>
    have HL0 : Hid (L = []) := (unhide HL).symm
    clear HY H64 HL
    go_wp2_with (refine store_row rfl 73 _ _ rfl w1.heap.size rfl (sq ys) rfl #[.int .i64 0, .int .i64 0, .int .i64 0, .int .i64 0, .int .i64 0, .int .i64 0, .int .i64 0, .int .i64 0, .int .i64 0, .int .i64 0, .int .i64 0, .int .i64 0, .int .i64 0, .int .i64 0, .int .i64 0, .int .i64 0, .int .i64 0, .int .i64 0, .int .i64 0, .int .i64 0, .int .i64 0, .int .i64 0, .int .i64 0, .int .i64 0, .int .i64 0, .int .i64 0, .int .i64 0, .int .i64 0, .int .i64 0, .int .i64 0, .int .i64 0, .int .i64 0, .int .i64 0, .int .i64 0, .int .i64 0, .int .i64 0, .int .i64 0, .int .i64 0, .int .i64 0, .int .i64 0, .int .i64 0, .int .i64 0, .int .i64 0, .int .i64 0, .int .i64 0, .int .i64 0, .int .i64 0, .int .i64 0, .int .i64 0, .int .i64 0, .int .i64 0, .int .i64 0, .int .i64 0, .int .i64 0, .int .i64 0, .int .i64 0, .int .i64 0, .int .i64 0, .int .i64 0, .int .i64 0, .int .i64 0, .int .i64 0, .int .i64 0, .int .i64 0] 73 (heap_alloc_new _ _) (by rw [unhide HYS]; rfl) (by rw [unhide HYS]; kernel_rfl) (sq_one _) ?_; intro w2 hB2 g2)
    have HE := hide (nil13 (show w.grownBy w2 none from grown_new (grown_alloc (unhide HG1) _) g2 (fun x e => by simp at e; omega)) (unhide HL0))
    clear hB2 g2
    go_ret
    exact unhide HE
  | true =>
    obtain ⟨e64, hz64⟩ := unhide H64 rfl
    obtain rfl : ys = zs := unhide HYE e64
    have HTL := hide (unhide HY rfl)
    have HL0 : Hid (ofO R = L) := unhide HL
    clear e64 hz64 HY HL H64 HYE
    go_wp2_with (first | (refine store_row rfl 73 _ _ rfl w1.heap.size rfl (sq ys) rfl #[.int .i64 0, .int .i64 0, .int .i64 0, .int .i64 0, .int .i64 0, .int .i64 0, .int .i64 0, .int .i64 0, .int .i64 0, .int .i64 0, .int .i64 0, .int .i64 0, .int .i64 0, .int .i64 0, .int .i64 0, .int .i64 0, .int .i64 0, .int .i64 0, .int .i64 0, .int .i64 0, .int .i64 0, .int .i64 0, .int .i64 0, .int .i64 0, .int .i64 0, .int .i64 0, .int .i64 0, .int .i64 0, .int .i64 0, .int .i64 0, .int .i64 0, .int .i64 0, .int .i64 0, .int .i64 0, .int .i64 0, .int .i64 0, .int .i64 0, .int .i64 0, .int .i64 0, .int .i64 0, .int .i64 0, .int .i64 0, .int .i64 0, .int .i64 0, .int .i64 0, .int .i64 0, .int .i64 0, .int .i64 0, .int .i64 0, .int .i64 0, .int .i64 0, .int .i64 0, .int .i64 0, .int .i64 0, .int .i64 0, .int .i64 0, .int .i64 0, .int .i64 0, .int .i64 0, .int .i64 0, .int .i64 0, .int .i64 0, .int .i64 0, .int .i64 0] 73 (heap_alloc_new _ _) (by rw [unhide HYS]; rfl) (by rw [unhide HYS]; kernel_rfl) (sq_one _) ?_; intro w2 hB2 g2; have HQ2 := hide hB2; have HB2 := hide (grown_atT g2 (grown_atT (World.grownBy_alloc _ _ none) (unhide HB1) (by simp)) (by simp; omega)); have HG2 : Hid (w.grownBy w2 none) := grown_new (grown_alloc (unhide HG1) _) g2 (fun x e => by simp at e; omega); have c0 := scanCells (unhide HB2); clear hB2 g2) | (refine load_row rfl 73 _ rfl w1.heap.size rfl (sq ys) 73 (unhide HQ2) _ Try.underlying73 rfl (by rw [unhide HYS]; kernel_rfl) ?_))
    refine (unhide HTL w2 ((unhide HLS).grown (unhide HG2))).mono ?_
    rintro e w3 ⟨⟨xs, rfl, hxl, hxe⟩, g3⟩
    have HXS : Hid ((sq xs).size = 64) := by unfold Hid; rw [sq_size]; exact hxl
    have HXL := hide hxl
    have HXE := hide hxe
    have HG3 := hide (grown_trans (unhide HG2) g3)
    have HQ3 := hide (grown_atT g3 (unhide HQ2) (by simp))
    clear hxl hxe g3 c0 HTL HG2 HQ2 HB2
    cases R with
    | none =>
      have HL1 : Hid (L = []) := (unhide HL0).symm
      go_wp2_with (refine store_row rfl 73 _ _ rfl w1.heap.size rfl (sq xs) rfl (sq ys) 73 (unhide HQ3) (by rw [unhide HXS, unhide HYS]) (by rw [unhide HXS]; kernel_rfl) (sq_one _) ?_; intro w4 hB4 g4)
      have HE := hide (nil13 (show w.grownBy w4 none from grown_new (unhide HG3) g4 (fun x e => by simp at e; omega)) (unhide HL1))
      clear hB4 g4
      go_ret
      exact unhide HE
    | some z =>
      have HL1 : Hid (xs = L) := (unhide HXE z rfl).trans (unhide HL0)
      have HLI := hide (list xs (unhide HXL))
      go_wp2_with (first | (refine store_row rfl 73 _ _ rfl w1.heap.size rfl (sq xs) rfl (sq ys) 73 (unhide HQ3) (by rw [unhide HXS, unhide HYS]) (by rw [unhide HXS]; kernel_rfl) (sq_one _) ?_; intro w4 hB4 g4; have HQ4 := hide hB4; have HG4 : Hid (w.grownBy w4 none) := grown_new (unhide HG3) g4 (fun x e => by simp at e; omega); clear hB4 g4) | (refine load_row rfl 73 _ rfl w1.heap.size rfl (sq xs) 73 (unhide HQ4) _ Try.underlying73 rfl (by rw [unhide HXS]; kernel_rfl) ?_))
      refine (unhide HLI w4).mono ?_
      rintro e w5 ⟨v, rfl, o5, g5⟩
      obtain ⟨so, sc, rfl⟩ := own_form o5
      have HE : Hid (Row13 w L (.returned (.slice so 64 sc)) w5) := by
        have hl := unhide HXL
        rw [unhide HL1] at o5 hl
        refine ⟨so, sc, by rw [hl], ?_, grown_trans (unhide HG4) g5⟩
        rw [hl]
        exact own_base o5 (unhide HG4).size
      clear o5 g5 HLI
      go_wp2
      go_ret
      exact unhide HE

theorem givePutF : ImplPutF := by
  rintro ao n cap zs w hr - vo vn vc ⟨cs, fr, to, hi, lo⟩ - - bo ln lc ls hl hln L HL
  have HG0 : Hid (w.grownBy (w.alloc (.cells #[.slice vo vn vc, .int .i64 fr, .int .i64 to, .int .i64 hi, .int .i64 lo] 26)) none) := World.grownBy_alloc _ _ _
  have hp := unhide HL
  unfold putFirstG at hp
  dsimp only at hp
  have e0 : ((if hi = 0 then 0 else 1) == (0 : Int)) = decide (hi = 0) := by by_cases h : hi = 0 <;> simp [h]
  have epl : placesOf ⟨cs, fr, to, hi, lo⟩ = (to - fr + 1).toNat := rfl
  rw [epl, hl.1] at hp
  have HPP := hide (putPass ao n cap zs _ (hr.grown (unhide HG0)) vo vn vc cs fr to hi lo 0 bo ln lc ls (hl.grown (unhide HG0)) _ _ _ rfl rfl rfl (if (ln : Int) = to - fr + 1 then putT (stepF lo.toNat) fr.toNat ls (zigged zs) ln else none) (fun h W hW => by
      rw [e0] at h
      simp only [Bool.and_eq_true, decide_eq_true_eq] at h
      obtain ⟨⟨h1, h2⟩, rfl⟩ := h
      exact withFirst zs h1 _ cs fr to lo h2 bo ln lc ls W hW hln _ rfl) L (by
      unfold Hid
      rw [e0, ← hp]
      by_cases h : (levB (-16383) 16383 zs && passB ⟨cs, fr, to, hi, lo⟩ && decide (hi = 0)) = true
      · rw [if_pos h, h, Bool.true_and]
        by_cases h2 : (ln : Int) = to - fr + 1
        · rw [if_pos h2, decide_eq_true h2, if_pos rfl]
          have em : (to - fr + 1).toNat = ln := by omega
          rw [em]
        · rw [if_neg h2, decide_eq_false h2, if_neg (by decide)]
          rfl
      · rw [if_neg h, Bool.eq_false_iff.2 h, Bool.false_and, if_neg (by decide)]))
  unfold scV at HPP
  dsimp only at HPP ⊢
  have c0 := scanCells (heap_alloc_new w (.cells #[.slice vo vn vc, .int .i64 fr, .int .i64 to, .int .i64 hi, .int .i64 lo] 26))
  clear hr hl hp e0 epl HL
  go_enter Try.func15, Try.ntmps15
  go_wp2_with fail
  refine (unhide HPP).mono ?_
  rintro e w3 ⟨so, sc, rfl, o3, g3⟩
  have HE : Hid (Row13 w L (.returned (.slice so L.length sc)) w3) := ⟨so, sc, rfl, own_base o3 (unhide HG0).size, grown_trans (unhide HG0) g3⟩
  clear o3 g3 c0 HPP
  go_wp2
  go_ret
  exact unhide HE

theorem givePutR : ImplPutR := by
  rintro ao n cap zs w hr - vo vn vc ⟨cs, fr, to, hi, lo⟩ - - bo ln lc ls hl hln L HL
  have HG0 : Hid (w.grownBy (w.alloc (.cells #[.slice vo vn vc, .int .i64 fr, .int .i64 to, .int .i64 hi, .int .i64 lo] 26)) none) := World.grownBy_alloc _ _ _
  have hp := unhide HL
  unfold putRefineG at hp
  dsimp only at hp
  have e0 : ((if hi = 0 then 0 else 1) == (1 : Int)) = !decide (hi = 0) := by by_cases h : hi = 0 <;> simp [h]
  have epl : placesOf ⟨cs, fr, to, hi, lo⟩ = (to - fr + 1).toNat := rfl
  rw [epl, hl.1] at hp
  have HPP := hide (putPass ao n cap zs _ (hr.grown (unhide HG0)) vo vn vc cs fr to hi lo 1 bo ln lc ls (hl.grown (unhide HG0)) _ _ _ rfl rfl rfl (if (ln : Int) = to - fr + 1 then putT (stepR lo.toNat) fr.toNat ls (zigged zs) ln else none) (fun h W hW => by
      rw [e0] at h
      simp only [Bool.and_eq_true, Bool.not_eq_true', decide_eq_false_iff_not] at h
      obtain ⟨⟨h1, h2⟩, h3⟩ := h
      exact withRefine zs h1 _ cs fr to hi lo h3 h2 bo ln lc ls W hW hln _ rfl) L (by
      unfold Hid
      rw [e0, ← hp]
      by_cases h : (levB (-16383) 16383 zs && passB ⟨cs, fr, to, hi, lo⟩ && !decide (hi = 0)) = true
      · rw [if_pos h, h, Bool.true_and]
        by_cases h2 : (ln : Int) = to - fr + 1
        · rw [if_pos h2, decide_eq_true h2, if_pos rfl]
          have em : (to - fr + 1).toNat = ln := by omega
          rw [em]
        · rw [if_neg h2, decide_eq_false h2, if_neg (by decide)]
          rfl
      · rw [if_neg h, Bool.eq_false_iff.2 h, Bool.false_and, if_neg (by decide)]))
  unfold scV at HPP
  dsimp only at HPP ⊢
  have c0 := scanCells (heap_alloc_new w (.cells #[.slice vo vn vc, .int .i64 fr, .int .i64 to, .int .i64 hi, .int .i64 lo] 26))
  clear hr hl hp e0 epl HL
  go_enter Try.func18, Try.ntmps18
  go_wp2_with fail
  refine (unhide HPP).mono ?_
  rintro e w3 ⟨so, sc, rfl, o3, g3⟩
  have HE : Hid (Row13 w L (.returned (.slice so L.length sc)) w3) := ⟨so, sc, rfl, own_base o3 (unhide HG0).size, grown_trans (unhide HG0) g3⟩
  clear o3 g3 c0 HPP
  go_wp2
  go_ret
  exact unhide HE

end Go.Proofs.Ytfgglainjaplgaa
