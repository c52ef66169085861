/-
  PlanesHas, PlanesCoefs, FillPure, LoadIn.
-/
import Derived.Test.YtibgldanmhckiaaMFj

namespace Go.Proofs.Ytibgldanmhckiaa
open Go.RowKit Go.Shelf

theorem exec_mid {P : Program} {ev : Operand → Value} {op : Oper} {w : World} (ty : TypeId) (x : Operand) (ho : op.op = .load ty x) (b o : Nat) (hx : ev x = .pointer (some ⟨b, o, none⟩)) (X : Array Value) (hb : ∀ j v, X[j]? = some v → w.cell? ⟨b, o + j, none⟩ = some v) (d : TypeDesc)
    (hu : P.underlying ty = some d) (hd : d.isRow = true) (hi : (P.info? ty).map (·.size) = some X.size) : (execOp ev op).run P w = .ok (.value (.agg X)) w := by
  unfold execOp
  have := run_loadAt_mid (P := P) w b o ty X.toList d (fun j v hv => hb j v (by simpa using hv)) hu hd (by simpa using hi)
  simp only [ho, hx, Sem.run_bind, this, Result.andThen_ok, Sem.run_pure, Array.toArray_toList]

theorem anyH_take {P : Program} {md : Region.Mode} {S : World → Prop} {Q : Exit → Act → World → Prop} {l : List Oper} {i f : Nat} {o : Oper} {v : Value} {listed : Array Bool} {a : Act} {w : World} (ho : l[i]? = some o)
    (hB : (Region.noSelect l.toArray && Region.free md l.toArray listed i && (Region.ready md l.toArray listed).contains i) = true) (hQ : ∀ c a w, Q (.panic c) (a.put o.dst v) w → Q (.panic c) a w) (hy : YieldsIf P l.toArray S o v a) (hS : S w)
    (h : wpAnyH P md l.toArray Q S f (listed.setIfInBounds i true) (a.put o.dst v) w) : wpAnyH P md l.toArray Q S (f + 1) listed a w := by
  simp only [Bool.and_eq_true] at hB
  exact wpAnyH_take (by simpa using ho) hB.1.1 hB.1.2 hB.2 hQ hy hS h

set_option maxRecDepth 20000 in
set_option maxHeartbeats 3200000 in
theorem planesShows (X : Array Value) (p wd ht rs : Int) (n : Nat) (C : Nat → Nat → Int) (hX : Fx X p wd ht rs n C) (hg : Geo wd ht n C (mostA 1 C 1 n) (mostA 1 C 2 n)) (gv : Value) (co ro cl : Int) (t : Bool) (HT : Hid ((decide (0 ≤ co ∧ co ≤ (n : Int) - 1) && (decide (0 ≤ ro ∧ ro ≤ (nhG ht n C co.toNat : Int) - 1) && decide (0 ≤ cl ∧ cl ≤ (nwG wd n C co.toNat : Int) - 1))) = t)) (w : World) :
    Calls Try.prog 42 #[.agg (plV X gv), .agg #[.int .i64 co, .int .i64 ro, .int .i64 cl]] w fun e w' => e = .returned (.bool t) ∧ w.grownBy w' none := by
  have hs := hX.size
  have hn4 := hg.n4
  obtain ⟨t1, HT1⟩ : ∃ t1, Hid (decide (0 ≤ co ∧ co ≤ (n : Int) - 1) = t1) := ⟨_, rfl⟩
  obtain ⟨t2, HT2⟩ : ∃ t2, Hid ((decide (0 ≤ ro ∧ ro ≤ (nhG ht n C co.toNat : Int) - 1) && decide (0 ≤ cl ∧ cl ≤ (nwG wd n C co.toNat : Int) - 1)) = t2) := ⟨_, rfl⟩
  have HTT : Hid ((t1 && t2) = t) := by unfold Hid; rw [← unhide HT1, ← unhide HT2]; exact unhide HT
  clear HT
  have HX := hide hX
  have HGE := hide hg
  have HSX := hide hs
  clear hX hg hs
  obtain ⟨W0, hW0⟩ : ∃ W0, ((w.alloc (.cells (plV X gv) 76)).alloc (.cells #[.int .i64 co, .int .i64 ro, .int .i64 cl] 31)) = W0 := ⟨_, rfl⟩
  have G0 : w.grownBy W0 none := by rw [← hW0]; exact grown_alloc (grown_alloc (World.grownBy.refl _ _) _) _
  have b0 : W0.heap[w.heap.size]? = some (.cells (plV X gv) 76 (0, 0)) := by
    rw [← hW0, Below.heap_alloc _ _ _ (by simp <;> omega)]
    have := heap_alloc_new w (.cells (plV X gv) 76)
    simpa using this
  have B0 := hide b0
  have b1 : W0.heap[w.heap.size + 1]? = some (.cells #[.int .i64 co, .int .i64 ro, .int .i64 cl] 31 (0, 0)) := by
    rw [← hW0]
    have := heap_alloc_new (w.alloc (.cells (plV X gv) 76)) (.cells #[.int .i64 co, .int .i64 ro, .int .i64 cl] 31)
    simpa using this
  have B1 := hide b1
  have s0 : W0.heap.size = w.heap.size + 2 := by rw [← hW0]; simp
  have HW := hide hW0
  have HG0 := hide G0
  clear hW0 G0 b0 b1
  go_enter Try.func42, Try.ntmps42
  go_wp2
  rw [unhide HW]
  clear HW
  refine wp_region_noPanic ?_
  refine wp_region_raw (fun W => W0.drew.grownBy W none) [true, true, true, true, false, false, false, false, false, false, false, false, false, false, false, false, false, false] (by kernel_rfl) (fun _ _ _ _ _ h => h) rfl (by kernel_rfl) (World.grownBy.refl _ _) ?_
  have BD0 : Hid (W0.drew.heap[w.heap.size]? = some (.cells (plV X gv) 76 (0, 0))) := unhide B0
  have BD1 : Hid (W0.drew.heap[w.heap.size + 1]? = some (.cells #[.int .i64 co, .int .i64 ro, .int .i64 cl] 31 (0, 0))) := unhide B1
  have gD : w.grownBy W0.drew none := grown_drew (unhide HG0)
  have sD : W0.drew.heap.size = w.heap.size + 2 := s0
  generalize W0.drew = W1 at *
  clear B0 B1 HG0 s0 W0
  have C0 : Hid (W1.cell? ⟨w.heap.size + 1, 0, none⟩ = some (.int .i64 co)) := by unfold Hid; rw [cell_of_row W1 _ 0 _ _ (0, 0) (unhide BD1)]; rfl
  have C1 : Hid (W1.cell? ⟨w.heap.size + 1, 1, none⟩ = some (.int .i64 ro)) := by unfold Hid; rw [cell_of_row W1 _ 1 _ _ (0, 0) (unhide BD1)]; rfl
  have C2 : Hid (W1.cell? ⟨w.heap.size + 1, 2, none⟩ = some (.int .i64 cl)) := by unfold Hid; rw [cell_of_row W1 _ 2 _ _ (0, 0) (unhide BD1)]; rfl
  refine heldF_take (v := ?_) (Or.inl ⟨by rfl, ?_⟩) ?_
  rotate_left 1
  · intro w' hSw
    go_simp
    try with_reducible rfl
  simp only [Act.put, List.setIfInBounds_toArray, List.set_cons_zero, List.set_cons_succ]
  refine heldF_take (v := .agg X) (Or.inl ⟨by rfl, ?_⟩) ?_
  · intro w' hSw
    exact exec_mid 73 _ rfl w.heap.size 0 rfl X (pl_frame (grown_atT hSw (unhide BD0) (by simp))) _ Try.underlying73 rfl (by rw [unhide HSX]; kernel_rfl)
  simp only [Act.put, List.setIfInBounds_toArray, List.set_cons_zero, List.set_cons_succ]
  refine heldF_take (v := ?_) (Or.inl ⟨by rfl, ?_⟩) ?_
  rotate_left 1
  · intro w' hSw
    go_simp
    try with_reducible rfl
  simp only [Act.put, List.setIfInBounds_toArray, List.set_cons_zero, List.set_cons_succ]
  refine heldF_take (v := ?_) (Or.inl ⟨by rfl, ?_⟩) ?_
  rotate_left 1
  · intro w' hSw
    have cc := hSw.cell (unhide C0) (by simp)
    go_simp
    try with_reducible rfl
  simp only [Act.put, List.setIfInBounds_toArray, List.set_cons_zero, List.set_cons_succ]
  refine heldF_skip (heldF_skip (heldF_skip (heldF_skip (heldF_skip (heldF_skip (heldF_skip (heldF_skip (heldF_skip (heldF_skip (heldF_skip (heldF_skip (heldF_skip (heldF_skip (heldF_nil ?_))))))))))))))
  refine anyH_step1 (i := 4) rfl (by kernel_rfl) (fun K hK => ?_)
  go_simp
  refine (hasComp X p wd ht rs n C (unhide HX) hn4 co t1 HT1 W1).mono ?_
  rintro e w2 ⟨rfl, g2⟩
  refine hK.out _ _ g2 ?_
  clear hK K
  try simp only [Act.put, List.setIfInBounds_toArray, List.set_cons_zero, List.set_cons_succ]
  refine anyH_step1 (i := 5) rfl (by kernel_rfl) (fun K hK => ?_)
  go_simp
  refine hK.out _ _ g2 ?_
  clear hK K
  try simp only [Act.put, List.setIfInBounds_toArray, List.set_cons_zero, List.set_cons_succ]
  cases t1
  · have ht : t = false := by rw [← unhide HTT]; rfl
    subst ht
    refine anyH_take (i := 6) (v := undef) rfl (by kernel_rfl) (fun _ _ _ h => h) (Or.inr ⟨by rfl, rfl⟩) g2 ?_
    try simp only [Act.put, List.setIfInBounds_toArray, List.set_cons_zero, List.set_cons_succ]
    refine anyH_take (i := 7) (v := undef) rfl (by kernel_rfl) (fun _ _ _ h => h) (Or.inr ⟨by rfl, rfl⟩) g2 ?_
    try simp only [Act.put, List.setIfInBounds_toArray, List.set_cons_zero, List.set_cons_succ]
    refine anyH_take (i := 8) (v := undef) rfl (by kernel_rfl) (fun _ _ _ h => h) (Or.inr ⟨by rfl, rfl⟩) g2 ?_
    try simp only [Act.put, List.setIfInBounds_toArray, List.set_cons_zero, List.set_cons_succ]
    refine anyH_take (i := 9) (v := undef) rfl (by kernel_rfl) (fun _ _ _ h => h) (Or.inr ⟨by rfl, rfl⟩) g2 ?_
    try simp only [Act.put, List.setIfInBounds_toArray, List.set_cons_zero, List.set_cons_succ]
    refine anyH_take (i := 11) (v := undef) rfl (by kernel_rfl) (fun _ _ _ h => h) (Or.inr ⟨by rfl, rfl⟩) g2 ?_
    try simp only [Act.put, List.setIfInBounds_toArray, List.set_cons_zero, List.set_cons_succ]
    refine anyH_take (i := 12) (v := undef) rfl (by kernel_rfl) (fun _ _ _ h => h) (Or.inr ⟨by rfl, rfl⟩) g2 ?_
    try simp only [Act.put, List.setIfInBounds_toArray, List.set_cons_zero, List.set_cons_succ]
    refine anyH_take (i := 13) (v := undef) rfl (by kernel_rfl) (fun _ _ _ h => h) (Or.inr ⟨by rfl, rfl⟩) g2 ?_
    try simp only [Act.put, List.setIfInBounds_toArray, List.set_cons_zero, List.set_cons_succ]
    refine anyH_take (i := 14) (v := undef) rfl (by kernel_rfl) (fun _ _ _ h => h) (Or.inr ⟨by rfl, rfl⟩) g2 ?_
    try simp only [Act.put, List.setIfInBounds_toArray, List.set_cons_zero, List.set_cons_succ]
    refine anyH_step1 (i := 10) rfl (by kernel_rfl) (fun K hK => ?_)
    go_simp
    refine hK.out _ _ g2 ?_
    clear hK K
    try simp only [Act.put, List.setIfInBounds_toArray, List.set_cons_zero, List.set_cons_succ]
    refine anyH_step1 (i := 15) rfl (by kernel_rfl) (fun K hK => ?_)
    go_simp
    refine hK.out _ _ g2 ?_
    clear hK K
    try simp only [Act.put, List.setIfInBounds_toArray, List.set_cons_zero, List.set_cons_succ]
    refine anyH_step1 (i := 16) rfl (by kernel_rfl) (fun K hK => ?_)
    go_simp
    refine hK.out _ _ g2 ?_
    clear hK K
    try simp only [Act.put, List.setIfInBounds_toArray, List.set_cons_zero, List.set_cons_succ]
    refine anyH_step1 (i := 17) rfl (by kernel_rfl) (fun K hK => ?_)
    go_simp
    refine hK.out _ _ g2 ?_
    clear hK K
    try simp only [Act.put, List.setIfInBounds_toArray, List.set_cons_zero, List.set_cons_succ]
    refine wpAnyH_done (by kernel_rfl) (NoPanic.normal ?_) _
    go_wp2
    go_ret
    exact ⟨rfl, grown_trans gD g2⟩
  · have ht : t = t2 := by rw [← unhide HTT]; rfl
    subst ht
    have hco : 0 ≤ co ∧ co ≤ (n : Int) - 1 := of_decide_eq_true (unhide HT1)
    obtain ⟨c, rfl⟩ := Int.eq_ofNat_of_zero_le hco.1
    have hcn : c < n := by omega
    have hd := dims_of (unhide HGE) c hcn
    rw [Int.toNat_natCast] at HT2
    refine anyH_take (i := 6) (v := ?_) rfl (by kernel_rfl) (fun _ _ _ h => h) (Or.inl ⟨by rfl, ?_⟩) g2 ?_
    rotate_left 1
    · intro w' hSw
      go_simp
      try with_reducible rfl
    try simp only [Act.put, List.setIfInBounds_toArray, List.set_cons_zero, List.set_cons_succ]
    refine anyH_take (i := 7) (v := .agg X) rfl (by kernel_rfl) (fun _ _ _ h => h) (Or.inl ⟨by rfl, ?_⟩) g2 ?_
    · intro w' hSw
      exact exec_mid 73 _ rfl w.heap.size 0 rfl X (pl_frame (grown_atT hSw (unhide BD0) (by simp))) _ Try.underlying73 rfl (by rw [unhide HSX]; kernel_rfl)
    try simp only [Act.put, List.setIfInBounds_toArray, List.set_cons_zero, List.set_cons_succ]
    refine anyH_take (i := 8) (v := ?_) rfl (by kernel_rfl) (fun _ _ _ h => h) (Or.inl ⟨by rfl, ?_⟩) g2 ?_
    rotate_left 1
    · intro w' hSw
      go_simp
      try with_reducible rfl
    try simp only [Act.put, List.setIfInBounds_toArray, List.set_cons_zero, List.set_cons_succ]
    refine anyH_take (i := 9) (v := ?_) rfl (by kernel_rfl) (fun _ _ _ h => h) (Or.inl ⟨by rfl, ?_⟩) g2 ?_
    rotate_left 1
    · intro w' hSw
      have cc := hSw.cell (unhide C0) (by simp)
      go_simp
      try with_reducible rfl
    try simp only [Act.put, List.setIfInBounds_toArray, List.set_cons_zero, List.set_cons_succ]
    refine anyH_take (i := 11) (v := ?_) rfl (by kernel_rfl) (fun _ _ _ h => h) (Or.inl ⟨by rfl, ?_⟩) g2 ?_
    rotate_left 1
    · intro w' hSw
      go_simp
      try with_reducible rfl
    try simp only [Act.put, List.setIfInBounds_toArray, List.set_cons_zero, List.set_cons_succ]
    refine anyH_take (i := 12) (v := ?_) rfl (by kernel_rfl) (fun _ _ _ h => h) (Or.inl ⟨by rfl, ?_⟩) g2 ?_
    rotate_left 1
    · intro w' hSw
      have cc := hSw.cell (unhide C1) (by simp)
      go_simp
      try with_reducible rfl
    try simp only [Act.put, List.setIfInBounds_toArray, List.set_cons_zero, List.set_cons_succ]
    refine anyH_take (i := 13) (v := ?_) rfl (by kernel_rfl) (fun _ _ _ h => h) (Or.inl ⟨by rfl, ?_⟩) g2 ?_
    rotate_left 1
    · intro w' hSw
      go_simp
      try with_reducible rfl
    try simp only [Act.put, List.setIfInBounds_toArray, List.set_cons_zero, List.set_cons_succ]
    refine anyH_take (i := 14) (v := ?_) rfl (by kernel_rfl) (fun _ _ _ h => h) (Or.inl ⟨by rfl, ?_⟩) g2 ?_
    rotate_left 1
    · intro w' hSw
      have cc := hSw.cell (unhide C2) (by simp)
      go_simp
      try with_reducible rfl
    try simp only [Act.put, List.setIfInBounds_toArray, List.set_cons_zero, List.set_cons_succ]
    refine anyH_step1 (i := 10) rfl (by kernel_rfl) (fun K hK => ?_)
    go_simp
    refine (needed X p wd ht rs n C (unhide HX) _ _ (unhide HGE) c hcn _ _ (nwG wd n C c : Int) (nhG ht n C c : Int) rfl rfl hd.nw hd.nh w2).mono ?_
    rintro e w3 ⟨rfl, g3⟩
    have g23 := grown_trans g2 g3
    refine hK.out _ _ g23 ?_
    clear hK K
    try simp only [Act.put, List.setIfInBounds_toArray, List.set_cons_zero, List.set_cons_succ]
    refine anyH_step1 (i := 15) rfl (by kernel_rfl) (fun K hK => ?_)
    go_simp
    refine (areaHas (nwG wd n C c : Int) (nhG ht n C c : Int) ro cl (by have := hd.nw1; omega) (by have := hd.nh1; omega) t HT2 w3).mono ?_
    rintro e w4 ⟨rfl, g4⟩
    have g24 := grown_trans g23 g4
    refine hK.out _ _ g24 ?_
    clear hK K
    try simp only [Act.put, List.setIfInBounds_toArray, List.set_cons_zero, List.set_cons_succ]
    refine anyH_step1 (i := 16) rfl (by kernel_rfl) (fun K hK => ?_)
    go_simp
    refine hK.out _ _ g24 ?_
    clear hK K
    try simp only [Act.put, List.setIfInBounds_toArray, List.set_cons_zero, List.set_cons_succ]
    refine anyH_step1 (i := 17) rfl (by kernel_rfl) (fun K hK => ?_)
    go_simp
    refine hK.out _ _ g24 ?_
    clear hK K
    try simp only [Act.put, List.setIfInBounds_toArray, List.set_cons_zero, List.set_cons_succ]
    refine wpAnyH_done (by kernel_rfl) (NoPanic.normal ?_) _
    go_wp2
    go_ret
    exact ⟨rfl, grown_trans gD g24⟩

/-- A grid of planes. -/
theorem grid_at {w : World} {gv : Value} {G : List Gd} {F : List Nat} (h : OwGr w gv G F) (hF : F.Nodup) (c : Nat) (hc : c < G.length) : ∃ gr cap g gc, gv = .slice (some ⟨gr, 0, none⟩) G.length cap ∧ w.cell? ⟨gr, c * 3, none⟩ = some (.int .i64 ((G.getD c (0, 0, [])).1 : Int)) ∧ w.cell? ⟨gr, c * 3 + 1, none⟩ = some (.int .i64 ((G.getD c (0, 0, [])).2.1 : Int)) ∧
    w.cell? ⟨gr, c * 3 + 2, none⟩ = some (.slice (some ⟨g, 0, none⟩) (G.getD c (0, 0, [])).2.2.length gc) ∧ Th w g (G.getD c (0, 0, [])).2.2 ∧ gr ∈ F ∧ g ∈ F ∧ g ≠ gr ∧
    ∀ w' L', Wr [g] w w' → Th w' g L' → L'.length = (G.getD c (0, 0, [])).2.2.length → ∃ F', OwGr w' gv (G.set c ((G.getD c (0, 0, [])).1, (G.getD c (0, 0, [])).2.1, L')) F' ∧ F'.Nodup ∧ ∀ x ∈ F', x ∈ F := by
  have e : G.getD c (0, 0, []) = G[c] := by simp [hc]
  rw [e]
  obtain ⟨gr, cap, cs, Fi, rfl, hgr, hgi, hcells, _, ⟨g, gc, k0, k1, k2, ht, rfl⟩, _, hsub, hturn, _⟩ := OwG.turn GrP.ok h hF c hc
  refine ⟨gr, cap, g, gc, rfl, ?_, ?_, ?_, ht, hgr, hsub g (by simp), fun e => hgi (by simp [e]), fun w' L' hw hT hl => ?_⟩
  · rw [← k0]; exact hcells 0 (by decide)
  · rw [← k1]; exact hcells 1 (by decide)
  · rw [← k2]; exact hcells 2 (by decide)
  · obtain ⟨F', o', n', m'⟩ := hturn w' (G[c].1, G[c].2.1, L') [g] hw ⟨g, gc, k0, k1, by rw [k2, hl], hT, rfl⟩ (by simp) (fun x hx => .inl hx)
    exact ⟨F', o', n', fun x hx => by rcases m' x hx with h | h; exact h; simp at h; subst h; exact hsub x (by simp)⟩
/-- The three cells of a grid, at their place in the row. -/
theorem grid_mid {w : World} {b o : Nat} {x y z : Value} (h0 : w.cell? ⟨b, o, none⟩ = some x) (h1 : w.cell? ⟨b, o + 1, none⟩ = some y) (h2 : w.cell? ⟨b, o + 2, none⟩ = some z) : ∀ j v, (#[x, y, z] : Array Value)[j]? = some v → w.cell? ⟨b, o + j, none⟩ = some v := by
  intro j v hv
  match j, hv with
  | 0, hv => simp at hv; subst hv; exact h0
  | 1, hv => simp at hv; subst hv; exact h1
  | 2, hv => simp at hv; subst hv; exact h2
  | j + 3, hv => simp at hv
theorem area_mid {w : World} {b o : Nat} {x y : Value} (h0 : w.cell? ⟨b, o, none⟩ = some x) (h1 : w.cell? ⟨b, o + 1, none⟩ = some y) : ∀ j v, (#[x, y] : Array Value)[j]? = some v → w.cell? ⟨b, o + j, none⟩ = some v := by
  intro j v hv
  match j, hv with
  | 0, hv => simp at hv; subst hv; exact h0
  | 1, hv => simp at hv; subst hv; exact h1
  | j + 2, hv => simp at hv

set_option maxRecDepth 20000 in
set_option maxHeartbeats 3200000 in
theorem planesHas (X : Array Value) (p wd ht rs : Int) (n : Nat) (C : Nat → Nat → Int) (hX : Fx X p wd ht rs n C) (hn4 : n ≤ 4) (gv : Value) (G : List Gd) (F : List Nat) (w : World) (hO : OwGr w gv G F) (hF : F.Nodup) (hl : G.length = n) (hb : ∀ c, c < n → (G.getD c (0, 0, [])).1 ≤ 4096 ∧ (G.getD c (0, 0, [])).2.1 ≤ 4096) (co ro cl : Int) (t : Bool) (HT : Hid ((decide (0 ≤ co ∧ co ≤ (n : Int) - 1) && (decide (0 ≤ ro ∧ ro ≤ ((G.getD co.toNat (0, 0, [])).2.1 : Int) - 1) && decide (0 ≤ cl ∧ cl ≤ ((G.getD co.toNat (0, 0, [])).1 : Int) - 1))) = t)) :
    Calls Try.prog 53 #[.agg (plV X gv), .agg #[.int .i64 co, .int .i64 ro, .int .i64 cl]] w fun e w' => e = .returned (.bool t) ∧ w.grownBy w' none := by
  have hs := hX.size
  obtain ⟨t1, HT1⟩ : ∃ t1, Hid (decide (0 ≤ co ∧ co ≤ (n : Int) - 1) = t1) := ⟨_, rfl⟩
  obtain ⟨t2, HT2⟩ : ∃ t2, Hid ((decide (0 ≤ ro ∧ ro ≤ ((G.getD co.toNat (0, 0, [])).2.1 : Int) - 1) && decide (0 ≤ cl ∧ cl ≤ ((G.getD co.toNat (0, 0, [])).1 : Int) - 1)) = t2) := ⟨_, rfl⟩
  have HTT : Hid ((t1 && t2) = t) := by unfold Hid; rw [← unhide HT1, ← unhide HT2]; exact unhide HT
  clear HT
  have HX := hide hX
  have HSX := hide hs
  have HF := hide hF
  have HBG := hide hb
  clear hX hs hF hb
  obtain ⟨W0, hW0⟩ : ∃ W0, ((w.alloc (.cells (plV X gv) 76)).alloc (.cells #[.int .i64 co, .int .i64 ro, .int .i64 cl] 31)) = W0 := ⟨_, rfl⟩
  have G0 : w.grownBy W0 none := by rw [← hW0]; exact grown_alloc (grown_alloc (World.grownBy.refl _ _) _) _
  have b0 : W0.heap[w.heap.size]? = some (.cells (plV X gv) 76 (0, 0)) := by
    rw [← hW0, Below.heap_alloc _ _ _ (by simp <;> omega)]
    have := heap_alloc_new w (.cells (plV X gv) 76)
    simpa using this
  have B0 := hide b0
  have b1 : W0.heap[w.heap.size + 1]? = some (.cells #[.int .i64 co, .int .i64 ro, .int .i64 cl] 31 (0, 0)) := by
    rw [← hW0]
    have := heap_alloc_new (w.alloc (.cells (plV X gv) 76)) (.cells #[.int .i64 co, .int .i64 ro, .int .i64 cl] 31)
    simpa using this
  have B1 := hide b1
  have s0 : W0.heap.size = w.heap.size + 2 := by rw [← hW0]; simp
  have HW := hide hW0
  have HG0 := hide G0
  clear hW0 G0 b0 b1
  have HO := hide (okGr.keep hO (grown_drew (unhide HG0)))
  clear hO
  go_enter Try.func53, Try.ntmps53
  go_wp2
  rw [unhide HW]
  clear HW
  refine wp_region_noPanic ?_
  refine wp_region_raw (fun W => W0.drew.grownBy W none) [true, true, true, true, false, false, false, false, false, false, false, false, false, false, false, false, false, false, false, false] (by kernel_rfl) (fun _ _ _ _ _ h => h) rfl (by kernel_rfl) (World.grownBy.refl _ _) ?_
  have BD0 : Hid (W0.drew.heap[w.heap.size]? = some (.cells (plV X gv) 76 (0, 0))) := unhide B0
  have BD1 : Hid (W0.drew.heap[w.heap.size + 1]? = some (.cells #[.int .i64 co, .int .i64 ro, .int .i64 cl] 31 (0, 0))) := unhide B1
  have gD : w.grownBy W0.drew none := grown_drew (unhide HG0)
  have sD : W0.drew.heap.size = w.heap.size + 2 := s0
  generalize W0.drew = W1 at *
  clear B0 B1 HG0 s0 W0
  have C0 : Hid (W1.cell? ⟨w.heap.size + 1, 0, none⟩ = some (.int .i64 co)) := by unfold Hid; rw [cell_of_row W1 _ 0 _ _ (0, 0) (unhide BD1)]; rfl
  have C1 : Hid (W1.cell? ⟨w.heap.size + 1, 1, none⟩ = some (.int .i64 ro)) := by unfold Hid; rw [cell_of_row W1 _ 1 _ _ (0, 0) (unhide BD1)]; rfl
  have C2 : Hid (W1.cell? ⟨w.heap.size + 1, 2, none⟩ = some (.int .i64 cl)) := by unfold Hid; rw [cell_of_row W1 _ 2 _ _ (0, 0) (unhide BD1)]; rfl
  refine heldF_take (v := ?_) (Or.inl ⟨by rfl, ?_⟩) ?_
  rotate_left 1
  · intro w' hSw
    go_simp
    try with_reducible rfl
  simp only [Act.put, List.setIfInBounds_toArray, List.set_cons_zero, List.set_cons_succ]
  refine heldF_take (v := .agg X) (Or.inl ⟨by rfl, ?_⟩) ?_
  · intro w' hSw
    exact exec_mid 73 _ rfl w.heap.size 0 rfl X (pl_frame (grown_atT hSw (unhide BD0) (by simp))) _ Try.underlying73 rfl (by rw [unhide HSX]; kernel_rfl)
  simp only [Act.put, List.setIfInBounds_toArray, List.set_cons_zero, List.set_cons_succ]
  refine heldF_take (v := ?_) (Or.inl ⟨by rfl, ?_⟩) ?_
  rotate_left 1
  · intro w' hSw
    go_simp
    try with_reducible rfl
  simp only [Act.put, List.setIfInBounds_toArray, List.set_cons_zero, List.set_cons_succ]
  refine heldF_take (v := ?_) (Or.inl ⟨by rfl, ?_⟩) ?_
  rotate_left 1
  · intro w' hSw
    have cc := hSw.cell (unhide C0) (by simp)
    go_simp
    try with_reducible rfl
  simp only [Act.put, List.setIfInBounds_toArray, List.set_cons_zero, List.set_cons_succ]
  refine heldF_skip (heldF_skip (heldF_skip (heldF_skip (heldF_skip (heldF_skip (heldF_skip (heldF_skip (heldF_skip (heldF_skip (heldF_skip (heldF_skip (heldF_skip (heldF_skip (heldF_skip (heldF_skip (heldF_nil ?_))))))))))))))))
  refine anyH_step1 (i := 4) rfl (by kernel_rfl) (fun K hK => ?_)
  go_simp
  refine (hasComp X p wd ht rs n C (unhide HX) hn4 co t1 HT1 W1).mono ?_
  rintro e w2 ⟨rfl, g2⟩
  refine hK.out _ _ g2 ?_
  clear hK K
  try simp only [Act.put, List.setIfInBounds_toArray, List.set_cons_zero, List.set_cons_succ]
  refine anyH_step1 (i := 5) rfl (by kernel_rfl) (fun K hK => ?_)
  go_simp
  refine hK.out _ _ g2 ?_
  clear hK K
  try simp only [Act.put, List.setIfInBounds_toArray, List.set_cons_zero, List.set_cons_succ]
  cases t1
  · have ht : t = false := by rw [← unhide HTT]; rfl
    subst ht
    refine anyH_take (i := 6) (v := undef) rfl (by kernel_rfl) (fun _ _ _ h => h) (Or.inr ⟨by rfl, rfl⟩) g2 ?_
    try simp only [Act.put, List.setIfInBounds_toArray, List.set_cons_zero, List.set_cons_succ]
    refine anyH_take (i := 7) (v := undef) rfl (by kernel_rfl) (fun _ _ _ h => h) (Or.inr ⟨by rfl, rfl⟩) g2 ?_
    try simp only [Act.put, List.setIfInBounds_toArray, List.set_cons_zero, List.set_cons_succ]
    refine anyH_take (i := 8) (v := undef) rfl (by kernel_rfl) (fun _ _ _ h => h) (Or.inr ⟨by rfl, rfl⟩) g2 ?_
    try simp only [Act.put, List.setIfInBounds_toArray, List.set_cons_zero, List.set_cons_succ]
    refine anyH_take (i := 9) (v := undef) rfl (by kernel_rfl) (fun _ _ _ h => h) (Or.inr ⟨by rfl, rfl⟩) g2 ?_
    try simp only [Act.put, List.setIfInBounds_toArray, List.set_cons_zero, List.set_cons_succ]
    refine anyH_take (i := 10) (v := undef) rfl (by kernel_rfl) (fun _ _ _ h => h) (Or.inr ⟨by rfl, rfl⟩) g2 ?_
    try simp only [Act.put, List.setIfInBounds_toArray, List.set_cons_zero, List.set_cons_succ]
    refine anyH_take (i := 11) (v := undef) rfl (by kernel_rfl) (fun _ _ _ h => h) (Or.inr ⟨by rfl, rfl⟩) g2 ?_
    try simp only [Act.put, List.setIfInBounds_toArray, List.set_cons_zero, List.set_cons_succ]
    refine anyH_take (i := 12) (v := undef) rfl (by kernel_rfl) (fun _ _ _ h => h) (Or.inr ⟨by rfl, rfl⟩) g2 ?_
    try simp only [Act.put, List.setIfInBounds_toArray, List.set_cons_zero, List.set_cons_succ]
    refine anyH_take (i := 13) (v := undef) rfl (by kernel_rfl) (fun _ _ _ h => h) (Or.inr ⟨by rfl, rfl⟩) g2 ?_
    try simp only [Act.put, List.setIfInBounds_toArray, List.set_cons_zero, List.set_cons_succ]
    refine anyH_take (i := 14) (v := undef) rfl (by kernel_rfl) (fun _ _ _ h => h) (Or.inr ⟨by rfl, rfl⟩) g2 ?_
    try simp only [Act.put, List.setIfInBounds_toArray, List.set_cons_zero, List.set_cons_succ]
    refine anyH_take (i := 15) (v := undef) rfl (by kernel_rfl) (fun _ _ _ h => h) (Or.inr ⟨by rfl, rfl⟩) g2 ?_
    try simp only [Act.put, List.setIfInBounds_toArray, List.set_cons_zero, List.set_cons_succ]
    refine anyH_take (i := 16) (v := undef) rfl (by kernel_rfl) (fun _ _ _ h => h) (Or.inr ⟨by rfl, rfl⟩) g2 ?_
    try simp only [Act.put, List.setIfInBounds_toArray, List.set_cons_zero, List.set_cons_succ]
    refine anyH_step1 (i := 17) rfl (by kernel_rfl) (fun K hK => ?_)
    go_simp
    refine hK.out _ _ g2 ?_
    clear hK K
    try simp only [Act.put, List.setIfInBounds_toArray, List.set_cons_zero, List.set_cons_succ]
    refine anyH_step1 (i := 18) rfl (by kernel_rfl) (fun K hK => ?_)
    go_simp
    refine hK.out _ _ g2 ?_
    clear hK K
    try simp only [Act.put, List.setIfInBounds_toArray, List.set_cons_zero, List.set_cons_succ]
    refine anyH_step1 (i := 19) rfl (by kernel_rfl) (fun K hK => ?_)
    go_simp
    refine hK.out _ _ g2 ?_
    clear hK K
    try simp only [Act.put, List.setIfInBounds_toArray, List.set_cons_zero, List.set_cons_succ]
    refine wpAnyH_done (by kernel_rfl) (NoPanic.normal ?_) _
    go_wp2
    go_ret
    exact ⟨rfl, grown_trans gD g2⟩
  · have ht : t = t2 := by rw [← unhide HTT]; rfl
    subst ht
    have hco : 0 ≤ co ∧ co ≤ (n : Int) - 1 := of_decide_eq_true (unhide HT1)
    obtain ⟨c, rfl⟩ := Int.eq_ofNat_of_zero_le hco.1
    have hcn : c < n := by omega
    rw [Int.toNat_natCast] at HT2
    obtain ⟨gr, gcap, g, gc, rfl, q0, q1, q2, tg, hgr, hgF, hne, _⟩ := grid_at (unhide HO) (unhide HF) c (by omega)
    have hbc := unhide HBG c hcn
    generalize hgx : (G.getD c (0, 0, [])).1 = gw at *
    generalize hgy : (G.getD c (0, 0, [])).2.1 = gh at *
    have Q0 := hide q0
    have Q1 := hide q1
    clear q0 q1 q2 tg hgx hgy HO hgF hne hgr
    rw [hl] at BD0 ⊢
    have i0 : (0 : Int) ≤ (c : Int) := by omega
    have i1 : (c : Int) < (n : Int) := by omega
    refine anyH_take (i := 6) (v := ?_) rfl (by kernel_rfl) (fun _ _ _ h => h) (Or.inl ⟨by rfl, ?_⟩) g2 ?_
    rotate_left 1
    · intro w' hSw
      go_simp
      try with_reducible rfl
    try simp only [Act.put, List.setIfInBounds_toArray, List.set_cons_zero, List.set_cons_succ]
    refine anyH_take (i := 7) (v := ?_) rfl (by kernel_rfl) (fun _ _ _ h => h) (Or.inl ⟨by rfl, ?_⟩) g2 ?_
    rotate_left 1
    · intro w' hSw
      have cg := (pl_grids (unhide HSX) (grown_atT hSw (unhide BD0) (by simp))).1
      go_simp
      try with_reducible rfl
    try simp only [Act.put, List.setIfInBounds_toArray, List.set_cons_zero, List.set_cons_succ]
    refine anyH_take (i := 8) (v := ?_) rfl (by kernel_rfl) (fun _ _ _ h => h) (Or.inl ⟨by rfl, ?_⟩) g2 ?_
    rotate_left 1
    · intro w' hSw
      go_simp
      try with_reducible rfl
    try simp only [Act.put, List.setIfInBounds_toArray, List.set_cons_zero, List.set_cons_succ]
    refine anyH_take (i := 9) (v := ?_) rfl (by kernel_rfl) (fun _ _ _ h => h) (Or.inl ⟨by rfl, ?_⟩) g2 ?_
    rotate_left 1
    · intro w' hSw
      have cc := hSw.cell (unhide C0) (by simp)
      go_simp
      try with_reducible rfl
    try simp only [Act.put, List.setIfInBounds_toArray, List.set_cons_zero, List.set_cons_succ]
    refine anyH_take (i := 10) (v := ?_) rfl (by kernel_rfl) (fun _ _ _ h => h) (Or.inl ⟨by rfl, ?_⟩) g2 ?_
    rotate_left 1
    · intro w' hSw
      go_simp
      try with_reducible rfl
    try simp only [Act.put, List.setIfInBounds_toArray, List.set_cons_zero, List.set_cons_succ]
    refine anyH_take (i := 11) (v := ?_) rfl (by kernel_rfl) (fun _ _ _ h => h) (Or.inl ⟨by rfl, ?_⟩) g2 ?_
    rotate_left 1
    · intro w' hSw
      go_simp
      try with_reducible rfl
    try simp only [Act.put, List.setIfInBounds_toArray, List.set_cons_zero, List.set_cons_succ]
    refine anyH_take (i := 12) (v := .agg #[.int .i64 (gw : Int), .int .i64 (gh : Int)]) rfl (by kernel_rfl) (fun _ _ _ h => h) (Or.inl ⟨by rfl, ?_⟩) g2 ?_
    · intro w' hSw
      exact exec_mid 115 _ rfl gr (c * 3) rfl _ (area_mid (hSw.cell (unhide Q0) (by simp)) (hSw.cell (unhide Q1) (by simp))) _ Try.underlying115 rfl (by kernel_rfl)
    try simp only [Act.put, List.setIfInBounds_toArray, List.set_cons_zero, List.set_cons_succ]
    refine anyH_take (i := 13) (v := ?_) rfl (by kernel_rfl) (fun _ _ _ h => h) (Or.inl ⟨by rfl, ?_⟩) g2 ?_
    rotate_left 1
    · intro w' hSw
      go_simp
      try with_reducible rfl
    try simp only [Act.put, List.setIfInBounds_toArray, List.set_cons_zero, List.set_cons_succ]
    refine anyH_take (i := 14) (v := ?_) rfl (by kernel_rfl) (fun _ _ _ h => h) (Or.inl ⟨by rfl, ?_⟩) g2 ?_
    rotate_left 1
    · intro w' hSw
      have cc := hSw.cell (unhide C1) (by simp)
      go_simp
      try with_reducible rfl
    try simp only [Act.put, List.setIfInBounds_toArray, List.set_cons_zero, List.set_cons_succ]
    refine anyH_take (i := 15) (v := ?_) rfl (by kernel_rfl) (fun _ _ _ h => h) (Or.inl ⟨by rfl, ?_⟩) g2 ?_
    rotate_left 1
    · intro w' hSw
      go_simp
      try with_reducible rfl
    try simp only [Act.put, List.setIfInBounds_toArray, List.set_cons_zero, List.set_cons_succ]
    refine anyH_take (i := 16) (v := ?_) rfl (by kernel_rfl) (fun _ _ _ h => h) (Or.inl ⟨by rfl, ?_⟩) g2 ?_
    rotate_left 1
    · intro w' hSw
      have cc := hSw.cell (unhide C2) (by simp)
      go_simp
      try with_reducible rfl
    try simp only [Act.put, List.setIfInBounds_toArray, List.set_cons_zero, List.set_cons_succ]
    refine anyH_step1 (i := 17) rfl (by kernel_rfl) (fun K hK => ?_)
    go_simp
    refine (areaHas (gw : Int) (gh : Int) ro cl (by omega) (by omega) t HT2 w2).mono ?_
    rintro e w4 ⟨rfl, g4⟩
    have g24 := grown_trans g2 g4
    refine hK.out _ _ g24 ?_
    clear hK K
    try simp only [Act.put, List.setIfInBounds_toArray, List.set_cons_zero, List.set_cons_succ]
    refine anyH_step1 (i := 18) rfl (by kernel_rfl) (fun K hK => ?_)
    go_simp
    refine hK.out _ _ g24 ?_
    clear hK K
    try simp only [Act.put, List.setIfInBounds_toArray, List.set_cons_zero, List.set_cons_succ]
    refine anyH_step1 (i := 19) rfl (by kernel_rfl) (fun K hK => ?_)
    go_simp
    refine hK.out _ _ g24 ?_
    clear hK K
    try simp only [Act.put, List.setIfInBounds_toArray, List.set_cons_zero, List.set_cons_succ]
    refine wpAnyH_done (by kernel_rfl) (NoPanic.normal ?_) _
    go_wp2
    go_ret
    exact ⟨rfl, grown_trans gD g24⟩

set_option maxRecDepth 20000 in
set_option maxHeartbeats 3200000 in
theorem planesAt (X : Array Value) (hs : X.size = 21) (gv : Value) (G : List Gd) (F : List Nat) (w : World) (hO : OwGr w gv G F) (hF : F.Nodup) (c r l k : Nat) (hc : c < G.length) (hw : (G.getD c (0, 0, [])).1 ≤ 4096) (hr : r ≤ 4096) (hl : l ≤ 4096) (hk : Hid (r * (G.getD c (0, 0, [])).1 + l = k)) (hkl : k < (G.getD c (0, 0, [])).2.2.length) :
    Calls Try.prog 54 #[.agg (plV X gv), .agg #[.int .i64 (c : Int), .int .i64 (r : Int), .int .i64 (l : Int)]] w fun e w' => e = .returned (.agg (sq ((G.getD c (0, 0, [])).2.2.getD k []))) ∧ w.grownBy w' none := by
  have HSX := hide hs
  clear hs
  obtain ⟨W0, hW0⟩ : ∃ W0, (((w.alloc (.cells (plV X gv) 76)).alloc (.cells #[.int .i64 (c : Int), .int .i64 (r : Int), .int .i64 (l : Int)] 31)).alloc (.cells #[.int .i64 0, .int .i64 0, .int .i64 0, .int .i64 0, .int .i64 0, .int .i64 0, .int .i64 0, .int .i64 0, .int .i64 0, .int .i64 0, .int .i64 0, .int .i64 0, .int .i64 0, .int .i64 0, .int .i64 0, .int .i64 0, .int .i64 0, .int .i64 0, .int .i64 0, .int .i64 0, .int .i64 0, .int .i64 0, .int .i64 0, .int .i64 0, .int .i64 0, .int .i64 0, .int .i64 0, .int .i64 0, .int .i64 0, .int .i64 0, .int .i64 0, .int .i64 0, .int .i64 0, .int .i64 0, .int .i64 0, .int .i64 0, .int .i64 0, .int .i64 0, .int .i64 0, .int .i64 0, .int .i64 0, .int .i64 0, .int .i64 0, .int .i64 0, .int .i64 0, .int .i64 0, .int .i64 0, .int .i64 0, .int .i64 0, .int .i64 0, .int .i64 0, .int .i64 0, .int .i64 0, .int .i64 0, .int .i64 0, .int .i64 0, .int .i64 0, .int .i64 0, .int .i64 0, .int .i64 0, .int .i64 0, .int .i64 0, .int .i64 0, .int .i64 0] 80)) = W0 := ⟨_, rfl⟩
  have G0 : w.grownBy W0 none := by rw [← hW0]; exact grown_alloc (grown_alloc (grown_alloc (World.grownBy.refl _ _) _) _) _
  have b0 : W0.heap[w.heap.size]? = some (.cells (plV X gv) 76 (0, 0)) := by
    rw [← hW0, Below.heap_alloc _ _ _ (by simp <;> omega), Below.heap_alloc _ _ _ (by simp <;> omega)]
    have := heap_alloc_new w (.cells (plV X gv) 76)
    simpa using this
  have B0 := hide b0
  have b1 : W0.heap[w.heap.size + 1]? = some (.cells #[.int .i64 (c : Int), .int .i64 (r : Int), .int .i64 (l : Int)] 31 (0, 0)) := by
    rw [← hW0, Below.heap_alloc _ _ _ (by simp <;> omega)]
    have := heap_alloc_new (w.alloc (.cells (plV X gv) 76)) (.cells #[.int .i64 (c : Int), .int .i64 (r : Int), .int .i64 (l : Int)] 31)
    simpa using this
  have B1 := hide b1
  have b2 : W0.heap[w.heap.size + 2]? = some (.cells #[.int .i64 0, .int .i64 0, .int .i64 0, .int .i64 0, .int .i64 0, .int .i64 0, .int .i64 0, .int .i64 0, .int .i64 0, .int .i64 0, .int .i64 0, .int .i64 0, .int .i64 0, .int .i64 0, .int .i64 0, .int .i64 0, .int .i64 0, .int .i64 0, .int .i64 0, .int .i64 0, .int .i64 0, .int .i64 0, .int .i64 0, .int .i64 0, .int .i64 0, .int .i64 0, .int .i64 0, .int .i64 0, .int .i64 0, .int .i64 0, .int .i64 0, .int .i64 0, .int .i64 0, .int .i64 0, .int .i64 0, .int .i64 0, .int .i64 0, .int .i64 0, .int .i64 0, .int .i64 0, .int .i64 0, .int .i64 0, .int .i64 0, .int .i64 0, .int .i64 0, .int .i64 0, .int .i64 0, .int .i64 0, .int .i64 0, .int .i64 0, .int .i64 0, .int .i64 0, .int .i64 0, .int .i64 0, .int .i64 0, .int .i64 0, .int .i64 0, .int .i64 0, .int .i64 0, .int .i64 0, .int .i64 0, .int .i64 0, .int .i64 0, .int .i64 0] 80 (0, 0)) := by
    rw [← hW0]
    have := heap_alloc_new ((w.alloc (.cells (plV X gv) 76)).alloc (.cells #[.int .i64 (c : Int), .int .i64 (r : Int), .int .i64 (l : Int)] 31)) (.cells #[.int .i64 0, .int .i64 0, .int .i64 0, .int .i64 0, .int .i64 0, .int .i64 0, .int .i64 0, .int .i64 0, .int .i64 0, .int .i64 0, .int .i64 0, .int .i64 0, .int .i64 0, .int .i64 0, .int .i64 0, .int .i64 0, .int .i64 0, .int .i64 0, .int .i64 0, .int .i64 0, .int .i64 0, .int .i64 0, .int .i64 0, .int .i64 0, .int .i64 0, .int .i64 0, .int .i64 0, .int .i64 0, .int .i64 0, .int .i64 0, .int .i64 0, .int .i64 0, .int .i64 0, .int .i64 0, .int .i64 0, .int .i64 0, .int .i64 0, .int .i64 0, .int .i64 0, .int .i64 0, .int .i64 0, .int .i64 0, .int .i64 0, .int .i64 0, .int .i64 0, .int .i64 0, .int .i64 0, .int .i64 0, .int .i64 0, .int .i64 0, .int .i64 0, .int .i64 0, .int .i64 0, .int .i64 0, .int .i64 0, .int .i64 0, .int .i64 0, .int .i64 0, .int .i64 0, .int .i64 0, .int .i64 0, .int .i64 0, .int .i64 0, .int .i64 0] 80)
    simpa using this
  have B2 := hide b2
  have s0 : W0.heap.size = w.heap.size + 3 := by rw [← hW0]; simp
  have HW := hide hW0
  have HG0 := hide G0
  clear hW0 G0 b0 b1 b2
  have HO := hide (okGr.keep hO (grown_drew (unhide HG0)))
  clear hO
  go_enter Try.func54, Try.ntmps54
  go_wp2
  rw [unhide HW]
  clear HW
  refine wp_region_noPanic ?_
  refine wp_region_tailL 20 (fun W => W0.drew.grownBy W none) [true, true, true, true, true, true, true, true, true, true, false, false] (by kernel_rfl) (fun _ _ _ _ _ h => h) rfl (by decide) (by kernel_rfl) (World.grownBy.refl _ _) ?_
  have BD0 : Hid (W0.drew.heap[w.heap.size]? = some (.cells (plV X gv) 76 (0, 0))) := unhide B0
  have BD1 : Hid (W0.drew.heap[w.heap.size + 1]? = some (.cells #[.int .i64 (c : Int), .int .i64 (r : Int), .int .i64 (l : Int)] 31 (0, 0))) := unhide B1
  have BD2 : Hid (W0.drew.heap[w.heap.size + 2]? = some (.cells #[.int .i64 0, .int .i64 0, .int .i64 0, .int .i64 0, .int .i64 0, .int .i64 0, .int .i64 0, .int .i64 0, .int .i64 0, .int .i64 0, .int .i64 0, .int .i64 0, .int .i64 0, .int .i64 0, .int .i64 0, .int .i64 0, .int .i64 0, .int .i64 0, .int .i64 0, .int .i64 0, .int .i64 0, .int .i64 0, .int .i64 0, .int .i64 0, .int .i64 0, .int .i64 0, .int .i64 0, .int .i64 0, .int .i64 0, .int .i64 0, .int .i64 0, .int .i64 0, .int .i64 0, .int .i64 0, .int .i64 0, .int .i64 0, .int .i64 0, .int .i64 0, .int .i64 0, .int .i64 0, .int .i64 0, .int .i64 0, .int .i64 0, .int .i64 0, .int .i64 0, .int .i64 0, .int .i64 0, .int .i64 0, .int .i64 0, .int .i64 0, .int .i64 0, .int .i64 0, .int .i64 0, .int .i64 0, .int .i64 0, .int .i64 0, .int .i64 0, .int .i64 0, .int .i64 0, .int .i64 0, .int .i64 0, .int .i64 0, .int .i64 0, .int .i64 0] 80 (0, 0))) := unhide B2
  have gD : w.grownBy W0.drew none := grown_drew (unhide HG0)
  have sD : W0.drew.heap.size = w.heap.size + 3 := s0
  generalize W0.drew = W1 at *
  clear B0 B1 B2 HG0 s0 W0
  have C0 : Hid (W1.cell? ⟨w.heap.size + 1, 0, none⟩ = some (.int .i64 (c : Int))) := by unfold Hid; rw [cell_of_row W1 _ 0 _ _ (0, 0) (unhide BD1)]; rfl
  have C1 : Hid (W1.cell? ⟨w.heap.size + 1, 1, none⟩ = some (.int .i64 (r : Int))) := by unfold Hid; rw [cell_of_row W1 _ 1 _ _ (0, 0) (unhide BD1)]; rfl
  have C2 : Hid (W1.cell? ⟨w.heap.size + 1, 2, none⟩ = some (.int .i64 (l : Int))) := by unfold Hid; rw [cell_of_row W1 _ 2 _ _ (0, 0) (unhide BD1)]; rfl
  obtain ⟨gr, gcap, g, gc, rfl, q0, q1, q2, tg, hgr, hgF, hne, turn⟩ := grid_at (unhide HO) hF c hc
  generalize hgx : G.getD c (0, 0, []) = x at *
  obtain ⟨gw, gh, L⟩ := x
  dsimp only at *
  have Q0 := hide q0
  have Q1 := hide q1
  have Q2 := hide q2
  have TG := hide tg
  have TURN := hide turn
  have HGX := hide hgx
  clear q0 q1 q2 tg turn hgx HO
  obtain ⟨n, HN⟩ : ∃ n, Hid (G.length = n) := ⟨_, rfl⟩
  rw [unhide HN] at BD0 TURN ⊢
  rw [unhide HN] at hc
  have i0 : (0 : Int) ≤ (c : Int) := by omega
  have i1 : (c : Int) < (n : Int) := by omega
  refine heldF_take (v := ?_) (Or.inl ⟨by rfl, ?_⟩) ?_
  rotate_left 1
  · intro w' hSw
    go_simp
    try with_reducible rfl
  simp only [Act.put, List.setIfInBounds_toArray, List.set_cons_zero, List.set_cons_succ]
  refine heldF_take (v := ?_) (Or.inl ⟨by rfl, ?_⟩) ?_
  rotate_left 1
  · intro w' hSw
    have cg := (pl_grids (unhide HSX) (grown_atT hSw (unhide BD0) (by simp))).1
    go_simp
    try with_reducible rfl
  simp only [Act.put, List.setIfInBounds_toArray, List.set_cons_zero, List.set_cons_succ]
  refine heldF_take (v := ?_) (Or.inl ⟨by rfl, ?_⟩) ?_
  rotate_left 1
  · intro w' hSw
    go_simp
    try with_reducible rfl
  simp only [Act.put, List.setIfInBounds_toArray, List.set_cons_zero, List.set_cons_succ]
  refine heldF_take (v := ?_) (Or.inl ⟨by rfl, ?_⟩) ?_
  rotate_left 1
  · intro w' hSw
    have cc := hSw.cell (unhide C0) (by simp)
    go_simp
    try with_reducible rfl
  simp only [Act.put, List.setIfInBounds_toArray, List.set_cons_zero, List.set_cons_succ]
  refine heldF_take (v := ?_) (Or.inl ⟨by rfl, ?_⟩) ?_
  rotate_left 1
  · intro w' hSw
    go_simp
    try with_reducible rfl
  simp only [Act.put, List.setIfInBounds_toArray, List.set_cons_zero, List.set_cons_succ]
  refine heldF_take (v := .agg #[.int .i64 (gw : Int), .int .i64 (gh : Int), .slice (some ⟨g, 0, none⟩) L.length gc]) (Or.inl ⟨by rfl, ?_⟩) ?_
  · intro w' hSw
    exact exec_mid 120 _ rfl gr (c * 3) rfl _ (grid_mid (hSw.cell (unhide Q0) (by simp)) (hSw.cell (unhide Q1) (by simp)) (hSw.cell (unhide Q2) (by simp))) _ Try.underlying120 rfl (by kernel_rfl)
  simp only [Act.put, List.setIfInBounds_toArray, List.set_cons_zero, List.set_cons_succ]
  refine heldF_take (v := ?_) (Or.inl ⟨by rfl, ?_⟩) ?_
  rotate_left 1
  · intro w' hSw
    go_simp
    try with_reducible rfl
  simp only [Act.put, List.setIfInBounds_toArray, List.set_cons_zero, List.set_cons_succ]
  refine heldF_take (v := ?_) (Or.inl ⟨by rfl, ?_⟩) ?_
  rotate_left 1
  · intro w' hSw
    have cc := hSw.cell (unhide C1) (by simp)
    go_simp
    try with_reducible rfl
  simp only [Act.put, List.setIfInBounds_toArray, List.set_cons_zero, List.set_cons_succ]
  refine heldF_take (v := ?_) (Or.inl ⟨by rfl, ?_⟩) ?_
  rotate_left 1
  · intro w' hSw
    go_simp
    try with_reducible rfl
  simp only [Act.put, List.setIfInBounds_toArray, List.set_cons_zero, List.set_cons_succ]
  refine heldF_take (v := ?_) (Or.inl ⟨by rfl, ?_⟩) ?_
  rotate_left 1
  · intro w' hSw
    have cc := hSw.cell (unhide C2) (by simp)
    go_simp
    try with_reducible rfl
  simp only [Act.put, List.setIfInBounds_toArray, List.set_cons_zero, List.set_cons_succ]
  refine heldF_skip (heldF_skip (heldF_nil ?_))
  refine tailL_skip (tailL_skip (tailL_skip (tailL_skip (tailL_skip (tailL_skip (tailL_skip (tailL_skip (tailL_skip (tailL_skip (?_))))))))))
  refine tailL_step (fun K hK => ?_)
  go_simp
  refine (gridAt gw gh g gc r l L hw hr hl k hk hkl W1 (unhide TG)).mono ?_
  rintro e w4 ⟨rfl, g4⟩
  refine hK.out _ _ (.inr g4) ?_
  clear hK K
  try simp only [Act.put, List.setIfInBounds_toArray, List.set_cons_zero, List.set_cons_succ]
  have hlen : (L.getD k []).length = 64 := (unhide TG).len k hkl
  have HSL : Hid ((sq (L.getD k [])).size = 64) := by unfold Hid; rw [sq_size, hlen]
  have b4 := grown_atT g4 (unhide BD2) (by simp)
  rw [← sq_z64] at b4
  refine tailL_step (fun K hK => ?_)
  refine step_store_row (by rfl) 80 _ _ rfl (w.heap.size + 2) rfl (sq (L.getD k [])) rfl (sq zs64) 80 b4 (by rw [unhide HSL, sq_size, zs64_len]) (by rw [unhide HSL]; kernel_rfl) (sq_one _) ?_
  intro w5 hB5 g5
  refine hK.out _ _ (.inl rfl) (tailL_nil (NoPanic.normal ?_))
  clear hK K
  simp only [Act.put]
  go_wp2
  refine bodyPost_ret (v := .agg (sq (L.getD k []))) ?_ rfl ⟨by rw [unhide HGX], ?_⟩
  · rw [results_c1 rfl]
    exact run_loadVar_row w5 _ 80 80 _ (0, 0) _ hB5 Try.underlying80 rfl (by rw [unhide HSL]; kernel_rfl)
  · exact grown_new (grown_trans gD g4) g5 (fun g e => by simp at e; omega)

set_option maxRecDepth 20000 in
set_option maxHeartbeats 3200000 in
theorem planesPut (X : Array Value) (hs : X.size = 21) (gv : Value) (G : List Gd) (F : List Nat) (w : World) (hO : OwGr w gv G F) (hF : F.Nodup) (c r l k : Nat) (hc : c < G.length) (hw : (G.getD c (0, 0, [])).1 ≤ 4096) (hr : r ≤ 4096) (hl : l ≤ 4096) (hk : Hid (r * (G.getD c (0, 0, [])).1 + l = k)) (hkl : k < (G.getD c (0, 0, [])).2.2.length) (B : List Int) (hB : B.length = 64) :
    Calls Try.prog 43 #[.agg (plV X gv), .agg #[.int .i64 (c : Int), .int .i64 (r : Int), .int .i64 (l : Int)], .agg (sq B)] w fun e w' => (∃ v, e = .returned v) ∧ ∃ F', OwGr w' gv (G.set c ((G.getD c (0, 0, [])).1, (G.getD c (0, 0, [])).2.1, (G.getD c (0, 0, [])).2.2.set k B)) F' ∧ F'.Nodup ∧ (∀ x ∈ F', x ∈ F) ∧ ∃ g ∈ F, Wr [g] w w' := by
  have HSX := hide hs
  clear hs
  have HSB : Hid ((sq B).size = 64) := by unfold Hid; rw [sq_size, hB]
  obtain ⟨W0, hW0⟩ : ∃ W0, (((w.alloc (.cells (plV X gv) 76)).alloc (.cells #[.int .i64 (c : Int), .int .i64 (r : Int), .int .i64 (l : Int)] 31)).alloc (.cells (sq B) 80)) = W0 := ⟨_, rfl⟩
  have G0 : w.grownBy W0 none := by rw [← hW0]; exact grown_alloc (grown_alloc (grown_alloc (World.grownBy.refl _ _) _) _) _
  have b0 : W0.heap[w.heap.size]? = some (.cells (plV X gv) 76 (0, 0)) := by
    rw [← hW0, Below.heap_alloc _ _ _ (by simp <;> omega), Below.heap_alloc _ _ _ (by simp <;> omega)]
    have := heap_alloc_new w (.cells (plV X gv) 76)
    simpa using this
  have B0 := hide b0
  have b1 : W0.heap[w.heap.size + 1]? = some (.cells #[.int .i64 (c : Int), .int .i64 (r : Int), .int .i64 (l : Int)] 31 (0, 0)) := by
    rw [← hW0, Below.heap_alloc _ _ _ (by simp <;> omega)]
    have := heap_alloc_new (w.alloc (.cells (plV X gv) 76)) (.cells #[.int .i64 (c : Int), .int .i64 (r : Int), .int .i64 (l : Int)] 31)
    simpa using this
  have B1 := hide b1
  have b2 : W0.heap[w.heap.size + 2]? = some (.cells (sq B) 80 (0, 0)) := by
    rw [← hW0]
    have := heap_alloc_new ((w.alloc (.cells (plV X gv) 76)).alloc (.cells #[.int .i64 (c : Int), .int .i64 (r : Int), .int .i64 (l : Int)] 31)) (.cells (sq B) 80)
    simpa using this
  have B2 := hide b2
  have s0 : W0.heap.size = w.heap.size + 3 := by rw [← hW0]; simp
  have HW := hide hW0
  have HG0 := hide G0
  clear hW0 G0 b0 b1 b2
  have HO := hide (okGr.keep hO (grown_drew (unhide HG0)))
  clear hO
  go_enter Try.func43, Try.ntmps43
  go_wp2
  rw [unhide HW]
  clear HW
  refine wp_region_noPanic ?_
  refine wp_region_tailL 20 (fun W => W0.drew.grownBy W none) [true, true, true, true, true, true, true, true, true, true, true, false] (by kernel_rfl) (fun _ _ _ _ _ h => h) rfl (by decide) (by kernel_rfl) (World.grownBy.refl _ _) ?_
  have BD0 : Hid (W0.drew.heap[w.heap.size]? = some (.cells (plV X gv) 76 (0, 0))) := unhide B0
  have BD1 : Hid (W0.drew.heap[w.heap.size + 1]? = some (.cells #[.int .i64 (c : Int), .int .i64 (r : Int), .int .i64 (l : Int)] 31 (0, 0))) := unhide B1
  have BD2 : Hid (W0.drew.heap[w.heap.size + 2]? = some (.cells (sq B) 80 (0, 0))) := unhide B2
  have gD : w.grownBy W0.drew none := grown_drew (unhide HG0)
  have sD : W0.drew.heap.size = w.heap.size + 3 := s0
  generalize W0.drew = W1 at *
  clear B0 B1 B2 HG0 s0 W0
  have C0 : Hid (W1.cell? ⟨w.heap.size + 1, 0, none⟩ = some (.int .i64 (c : Int))) := by unfold Hid; rw [cell_of_row W1 _ 0 _ _ (0, 0) (unhide BD1)]; rfl
  have C1 : Hid (W1.cell? ⟨w.heap.size + 1, 1, none⟩ = some (.int .i64 (r : Int))) := by unfold Hid; rw [cell_of_row W1 _ 1 _ _ (0, 0) (unhide BD1)]; rfl
  have C2 : Hid (W1.cell? ⟨w.heap.size + 1, 2, none⟩ = some (.int .i64 (l : Int))) := by unfold Hid; rw [cell_of_row W1 _ 2 _ _ (0, 0) (unhide BD1)]; rfl
  obtain ⟨gr, gcap, g, gc, rfl, q0, q1, q2, tg, hgr, hgF, hne, turn⟩ := grid_at (unhide HO) hF c hc
  generalize hgx : G.getD c (0, 0, []) = x at *
  obtain ⟨gw, gh, L⟩ := x
  dsimp only at *
  have Q0 := hide q0
  have Q1 := hide q1
  have Q2 := hide q2
  have TG := hide tg
  have TURN := hide turn
  have HGX := hide hgx
  clear q0 q1 q2 tg turn hgx HO
  obtain ⟨n, HN⟩ : ∃ n, Hid (G.length = n) := ⟨_, rfl⟩
  rw [unhide HN] at BD0 TURN ⊢
  rw [unhide HN] at hc
  have i0 : (0 : Int) ≤ (c : Int) := by omega
  have i1 : (c : Int) < (n : Int) := by omega
  refine heldF_take (v := ?_) (Or.inl ⟨by rfl, ?_⟩) ?_
  rotate_left 1
  · intro w' hSw
    go_simp
    try with_reducible rfl
  simp only [Act.put, List.setIfInBounds_toArray, List.set_cons_zero, List.set_cons_succ]
  refine heldF_take (v := ?_) (Or.inl ⟨by rfl, ?_⟩) ?_
  rotate_left 1
  · intro w' hSw
    have cg := (pl_grids (unhide HSX) (grown_atT hSw (unhide BD0) (by simp))).1
    go_simp
    try with_reducible rfl
  simp only [Act.put, List.setIfInBounds_toArray, List.set_cons_zero, List.set_cons_succ]
  refine heldF_take (v := ?_) (Or.inl ⟨by rfl, ?_⟩) ?_
  rotate_left 1
  · intro w' hSw
    go_simp
    try with_reducible rfl
  simp only [Act.put, List.setIfInBounds_toArray, List.set_cons_zero, List.set_cons_succ]
  refine heldF_take (v := ?_) (Or.inl ⟨by rfl, ?_⟩) ?_
  rotate_left 1
  · intro w' hSw
    have cc := hSw.cell (unhide C0) (by simp)
    go_simp
    try with_reducible rfl
  simp only [Act.put, List.setIfInBounds_toArray, List.set_cons_zero, List.set_cons_succ]
  refine heldF_take (v := ?_) (Or.inl ⟨by rfl, ?_⟩) ?_
  rotate_left 1
  · intro w' hSw
    go_simp
    try with_reducible rfl
  simp only [Act.put, List.setIfInBounds_toArray, List.set_cons_zero, List.set_cons_succ]
  refine heldF_take (v := .agg #[.int .i64 (gw : Int), .int .i64 (gh : Int), .slice (some ⟨g, 0, none⟩) L.length gc]) (Or.inl ⟨by rfl, ?_⟩) ?_
  · intro w' hSw
    exact exec_mid 120 _ rfl gr (c * 3) rfl _ (grid_mid (hSw.cell (unhide Q0) (by simp)) (hSw.cell (unhide Q1) (by simp)) (hSw.cell (unhide Q2) (by simp))) _ Try.underlying120 rfl (by kernel_rfl)
  simp only [Act.put, List.setIfInBounds_toArray, List.set_cons_zero, List.set_cons_succ]
  refine heldF_take (v := ?_) (Or.inl ⟨by rfl, ?_⟩) ?_
  rotate_left 1
  · intro w' hSw
    go_simp
    try with_reducible rfl
  simp only [Act.put, List.setIfInBounds_toArray, List.set_cons_zero, List.set_cons_succ]
  refine heldF_take (v := ?_) (Or.inl ⟨by rfl, ?_⟩) ?_
  rotate_left 1
  · intro w' hSw
    have cc := hSw.cell (unhide C1) (by simp)
    go_simp
    try with_reducible rfl
  simp only [Act.put, List.setIfInBounds_toArray, List.set_cons_zero, List.set_cons_succ]
  refine heldF_take (v := ?_) (Or.inl ⟨by rfl, ?_⟩) ?_
  rotate_left 1
  · intro w' hSw
    go_simp
    try with_reducible rfl
  simp only [Act.put, List.setIfInBounds_toArray, List.set_cons_zero, List.set_cons_succ]
  refine heldF_take (v := ?_) (Or.inl ⟨by rfl, ?_⟩) ?_
  rotate_left 1
  · intro w' hSw
    have cc := hSw.cell (unhide C2) (by simp)
    go_simp
    try with_reducible rfl
  simp only [Act.put, List.setIfInBounds_toArray, List.set_cons_zero, List.set_cons_succ]
  refine heldF_take (v := .agg (sq B)) (Or.inl ⟨by rfl, ?_⟩) ?_
  · intro w' hSw
    exact exec_row 80 _ rfl (w.heap.size + 2) rfl _ _ (grown_atT hSw (unhide BD2) (by simp)) _ Try.underlying80 rfl (by rw [unhide HSB]; kernel_rfl)
  simp only [Act.put, List.setIfInBounds_toArray, List.set_cons_zero, List.set_cons_succ]
  refine heldF_skip (heldF_nil ?_)
  refine tailL_skip (tailL_skip (tailL_skip (tailL_skip (tailL_skip (tailL_skip (tailL_skip (tailL_skip (tailL_skip (tailL_skip (tailL_skip (?_)))))))))))
  refine tailL_step (fun K hK => ?_)
  go_simp
  refine (gridPut gw gh g gc r l L B hB hw hr hl k hk hkl W1 (unhide TG)).mono ?_
  rintro e w4 ⟨⟨v4, rfl⟩, t4, g4⟩
  refine hK.out _ _ (.inl rfl) (tailL_nil (NoPanic.normal ?_))
  clear hK K
  try simp only [Act.put]
  have w4r : Wr [g] W1 w4 := Wr.ofRow g4 (fun q e => by have e9 := Option.some.inj e; simp [e9])
  obtain ⟨F4, o4, n4, m4⟩ := unhide TURN w4 (L.set k B) w4r t4 (by simp)
  go_wp2
  go_end0
  exact ⟨⟨_, rfl⟩, F4, by rw [unhide HGX, unhide HN]; exact o4, n4, m4, g, hgF, Wr.trans (Wr.ofNone gD) w4r⟩


end Go.Proofs.Ytibgldanmhckiaa

namespace Go.Proofs.Ytibgldanmhckiaa
open Go.RowKit Go.Shelf

/-- One cell is read. -/
theorem load_one {P : Program} {ops : Array Oper} {rest : List Oper} {op : Oper} {a : Act} {w : World} {Q : Exit → Act → World → Prop} (hw : Region.wanted op (yielded ops a.tmps) = true) (ty : TypeId) (x : Operand) (ho : op.op = .load ty x)
    (b off : Nat) (hx : a.eval x = .pointer (some ⟨b, off, none⟩)) (v : Value) (hc : w.cell? ⟨b, off, none⟩ = some v) (d : TypeDesc) (hu : P.underlying ty = some d) (hd : d.isRow = false)
    (h : wpList P ops Q rest (a.put op.dst v) w) : wpList P ops Q (op :: rest) a w :=
  BigFrame.wpList_want hw fun K hK => by
    have hg : (isAgg ty).run P w = .ok false w := by
      unfold isAgg
      rw [Sem.run_bind, run_underlying hu w]
      cases d <;> simp_all
    unfold Oper.wp execOp
    simp only [ho, hx, Instr.loadAt, Instr.sureAddr, Sem.run_bind, Sem.run_pure, Result.andThen_ok]
    simp [loadVar, hg, go_sem, hc]
    exact hK _ _ h

/-- Coefficients while they are made of planes. -/
structure Ec (w wr : World) (X : Array Value) (gv cv : Value) (D : List (List (List Int))) (F : List Nat) : Prop where
  pl : wr.heap[w.heap.size]? = some (.cells (plV X gv) 76 (0, 0))
  r : wr.heap[w.heap.size + 1]? = some (.cells #[.slice none 0 0] 29 (0, 0))
  c : wr.heap[w.heap.size + 1 + 1]? = some (.cells #[cv] 29 (0, 0))
  own : Ow3 wr cv D F
  nd : F.Nodup
  lo : ∀ g ∈ F, w.heap.size + 3 ≤ g
  grown : w.grownBy wr none
theorem Ec.size {w wr : World} {X : Array Value} {gv cv : Value} {D : List (List (List Int))} {F : List Nat} (h : Ec w wr X gv cv D F) : w.heap.size + 3 ≤ wr.heap.size := (Array.getElem?_eq_some_iff.1 h.c).1
theorem Ec.new {w wr w' : World} {X : Array Value} {gv cv : Value} {D : List (List (List Int))} {F : List Nat} (h : Ec w wr X gv cv D F) (g : wr.grownBy w' none) : Ec w w' X gv cv D F :=
  ⟨grown_atT g h.pl (by simp), grown_atT g h.r (by simp), grown_atT g h.c (by simp), ok3.keep h.own g, h.nd, h.lo, grown_trans h.grown g⟩

def coefsG (G : List Gd) : List (List (List Int)) := G.map (fun x => x.2.2)
theorem coefsG_next (G : List Gd) (i : Nat) (h : i < G.length) : (coefsG G).take i ++ [(G.getD i (0, 0, [])).2.2] = (coefsG G).take (i + 1) := by
  have e : (G.getD i (0, 0, [])).2.2 = (coefsG G)[i]'(by simpa [coefsG] using h) := by simp [coefsG, h]
  rw [e]
  exact takeX_next _ i _

set_option maxRecDepth 20000 in
set_option maxHeartbeats 3200000 in
theorem planesCoefs (X : Array Value) (hs : X.size = 21) (gv : Value) (G : List Gd) (F : List Nat) (w : World) (hO : OwGr w gv G F) (hF : F.Nodup) (hn : G.length ≤ 4) (hb : ∀ c, c < G.length → (G.getD c (0, 0, [])).1 ≤ 1024 ∧ (G.getD c (0, 0, [])).2.1 ≤ 1024 ∧ (G.getD c (0, 0, [])).2.2.length ≤ 1000000) :
    Calls Try.prog 44 #[.agg (plV X gv)] w fun e w' => ∃ u F', e = .returned u ∧ OwCo w' u (coefsG G) F' ∧ F'.Nodup ∧ (∀ g ∈ F', w.heap.size ≤ g) ∧ w.grownBy w' none := by
  obtain ⟨W0, hW0⟩ : ∃ W0, (((w.alloc (.cells (plV X gv) 76)).alloc (.cells #[.slice none 0 0] 29)).alloc (.cells #[.slice none 0 0] 29)) = W0 := ⟨_, rfl⟩
  have hE : Ec w W0 X gv (.slice none 0 0) ((coefsG G).take 0) [] := by
    have g1 : w.grownBy (((w.alloc (.cells (plV X gv) 76)).alloc (.cells #[.slice none 0 0] 29)).alloc (.cells #[.slice none 0 0] 29)) none := grown_alloc (grown_alloc (World.grownBy_alloc _ _ _) _) _
    have p0 : (((w.alloc (.cells (plV X gv) 76)).alloc (.cells #[.slice none 0 0] 29)).alloc (.cells #[.slice none 0 0] 29)).heap[w.heap.size]? = some (.cells (plV X gv) 76 (0, 0)) := by
      rw [Below.heap_alloc _ _ _ (by simp <;> omega), Below.heap_alloc _ _ _ (by simp)]; exact heap_alloc_new w _
    have p1 : (((w.alloc (.cells (plV X gv) 76)).alloc (.cells #[.slice none 0 0] 29)).alloc (.cells #[.slice none 0 0] 29)).heap[w.heap.size + 1]? = some (.cells #[.slice none 0 0] 29 (0, 0)) := by
      rw [Below.heap_alloc _ _ _ (by simp)]
      have := heap_alloc_new (w.alloc (.cells (plV X gv) 76)) (.cells #[.slice none 0 0] 29)
      simpa using this
    have p2 : (((w.alloc (.cells (plV X gv) 76)).alloc (.cells #[.slice none 0 0] 29)).alloc (.cells #[.slice none 0 0] 29)).heap[w.heap.size + 1 + 1]? = some (.cells #[.slice none 0 0] 29 (0, 0)) := by
      have := heap_alloc_new ((w.alloc (.cells (plV X gv) 76)).alloc (.cells #[.slice none 0 0] 29)) (.cells #[.slice none 0 0] 29)
      simpa using this
    rw [← hW0]
    exact ⟨p0, p1, p2, OwR.nil _ _ _, List.nodup_nil, fun g hg => by simp at hg, g1⟩
  have HW := hide hW0
  have HE := hide hE
  have HSX := hide hs
  have HBB := hide hb
  have HFN := hide hF
  obtain ⟨ao, cap, rfl⟩ := hO.form
  have HO := hide hO
  have cg := (pl_grids hs hE.pl).1
  clear hW0 hE hs hb hF hO
  obtain ⟨n, HN⟩ : ∃ n, Hid (G.length = n) := ⟨_, rfl⟩
  rw [unhide HN] at cg HW HE hn HBB HO ⊢
  go_enter Try.func44, Try.ntmps44
  go_wp2_with (rw [unhide HW]; refine load_one rfl _ _ rfl w.heap.size 21 rfl (.slice ao n cap) cg _ Try.underlying74 rfl ?_)
  clear cg
  go_loopw [10] (fun iv wr => ∃ (i : Nat) (cv : Value) (F' : List Nat), i ≤ n ∧ iv = .int .i64 i ∧ Hid (Ec w wr X (.slice ao n cap) cv ((coefsG G).take i) F')) (fun iv _ => n - (intOf iv).toNat)
  case atStart => exact ⟨0, _, _, Nat.zero_le _, rfl, HE⟩
  case round =>
    clear HE HW
    obtain ⟨i, cv, F', hi, rfl, hec⟩ := hrel
    by_cases hlt : i < n
    · have hltI : (i : Int) < (n : Int) := by omega
      have i0 : (0 : Int) ≤ (i : Int) := by omega
      obtain ⟨b1, b2, b3⟩ := unhide HBB i hlt
      have hown : OwGr wr (.slice ao n cap) G F := okGr.keep (unhide HO) (unhide hec).grown
      obtain ⟨gr, gcap, g, gc, e1, q0, q1, q2, tg, -, -, -, -⟩ := grid_at hown (unhide HFN) i (by rw [unhide HN]; exact hlt)
      have HCN : Hid ((coefsG G).take i ++ [(G.getD i (0, 0, [])).2.2] = (coefsG G).take (i + 1)) := coefsG_next G i (by rw [unhide HN]; exact hlt)
      generalize hgx : G.getD i (0, 0, []) = x at *
      obtain ⟨gw, gh, L⟩ := x
      dsimp only at *
      obtain rfl : ao = some ⟨gr, 0, none⟩ := by simp at e1; exact e1.1
      clear e1 hown hgx
      have TG := hide tg
      clear tg
      have HB := hide (heap_alloc_new wr (.cells #[.int .i64 0, .int .i64 0, .slice none 0 0] 120))
      have EA := hide ((unhide hec).new (World.grownBy_alloc wr (.cells #[.int .i64 0, .int .i64 0, .slice none 0 0] 120) none))
      have TA := hide ((unhide TG).grown (World.grownBy_alloc wr (.cells #[.int .i64 0, .int .i64 0, .slice none 0 0] 120) none))
      have hec3 := (unhide hec).size
      have HLT : Hid (∀ y ∈ F', y < wr.heap.size) := fun y hy => ok3.lt _ _ _ _ (unhide hec).own y hy
      have hgl : g < wr.heap.size := (unhide TG).lt
      have QM := hide (grid_mid q0 q1 q2)
      clear hec q0 q1 q2 TG
      go_wp2_with (first | (refine load_mid rfl 120 _ rfl gr (i * 3) rfl #[.int .i64 (gw : Int), .int .i64 (gh : Int), .slice (some ⟨g, 0, none⟩) L.length gc] (unhide QM) _ Try.underlying120 rfl (by kernel_rfl) ?_) | (refine store_row rfl 120 _ _ rfl wr.heap.size rfl #[.int .i64 (gw : Int), .int .i64 (gh : Int), .slice (some ⟨g, 0, none⟩) L.length gc] rfl _ 120 (unhide HB) rfl (by kernel_rfl) (by simp [Value.oneCell']) ?_; intro w3 hB3 g3))
      have e3 : Ec w w3 X (.slice (some ⟨gr, 0, none⟩) n cap) cv ((coefsG G).take i) F' := by
        have E := unhide EA
        have w3r : Wr [wr.heap.size] (wr.alloc (.cells #[.int .i64 0, .int .i64 0, .slice none 0 0] 120)) w3 := Wr.ofRow g3 (fun q e => by have e9 := Option.some.inj e; simp [e9])
        refine ⟨grown_atT g3 E.pl (by simp; omega), grown_atT g3 E.r (by simp; omega), grown_atT g3 E.c (by simp; omega), ?_, E.nd, E.lo, grown_new E.grown g3 (fun q e => by simp at e; omega)⟩
        exact ok3.wr E.own w3r (fun y hy e => by
          simp at e
          have := unhide HLT y hy
          omega)
      have t3 : Th w3 g L := (unhide TA).same (g3.block g (unhide TA).lt (by simp; omega))
      have hw3 : wr.heap.size < w3.heap.size := (Array.getElem?_eq_some_iff.1 hB3).1
      clear g3 EA TA HB QM
      have E3 := hide e3
      have T3 := hide t3
      have HB3 := hide hB3
      clear e3 t3 hB3
      refine wp_region_noPanic ?_
      have ep1 := (unhide E3).new (grown_drew (World.grownBy.refl w3 none))
      have tp1 := (unhide T3).grown (grown_drew (World.grownBy.refl w3 none))
      have bp1 := grown_atT (grown_drew (World.grownBy.refl w3 none)) (unhide HB3) (by simp)
      refine wp_region_tailL 20 (fun W => W.heap[w.heap.size + 1 + 1]? = some (.cells #[cv] 29 (0, 0)) ∧ W.heap[wr.heap.size]? = some (.cells #[.int .i64 (gw : Int), .int .i64 (gh : Int), .slice (some ⟨g, 0, none⟩) L.length gc] 120 (0, 0))) [true, true, true, false, false, false, false, false] (by kernel_rfl) (fun _ _ _ _ _ h => h) rfl (by decide) (by kernel_rfl) ⟨ep1.c, bp1⟩ ?_
      generalize w3.drew = w4 at *
      have E4 := hide ep1
      have T4 := hide tp1
      have HB4 := hide bp1
      have hw4 : wr.heap.size < w4.heap.size := (Array.getElem?_eq_some_iff.1 bp1).1
      clear ep1 tp1 bp1 E3 T3 HB3 hw3
      refine heldF_take (v := ?_) (Or.inl ⟨by rfl, ?_⟩) ?_
      rotate_left 1
      · intro w' hSw
        clear hSw
        go_simp
        try with_reducible rfl
      simp only [Act.put, List.setIfInBounds_toArray, List.set_cons_zero, List.set_cons_succ]
      refine heldF_take (v := ?_) (Or.inl ⟨by rfl, ?_⟩) ?_
      rotate_left 1
      · intro w' hSw
        have cc : w'.cell? ⟨w.heap.size + 1 + 1, 0, none⟩ = some cv := by rw [cell_of_row w' _ 0 _ _ (0, 0) hSw.1]; rfl
        clear hSw
        go_simp
        try with_reducible rfl
      simp only [Act.put, List.setIfInBounds_toArray, List.set_cons_zero, List.set_cons_succ]
      refine heldF_take (v := .agg #[.int .i64 (gw : Int), .int .i64 (gh : Int), .slice (some ⟨g, 0, none⟩) L.length gc]) (Or.inl ⟨by rfl, ?_⟩) ?_
      · intro w' hSw
        exact exec_row 120 _ rfl wr.heap.size rfl _ _ hSw.2 _ Try.underlying120 rfl (by kernel_rfl)
      simp only [Act.put, List.setIfInBounds_toArray, List.set_cons_zero, List.set_cons_succ]
      refine heldF_skip (heldF_skip (heldF_skip (heldF_skip (heldF_skip (heldF_nil ?_)))))
      refine tailL_skip (tailL_skip (tailL_skip ?_))
      refine tailL_step (fun K hK => ?_)
      go_simp
      refine (blockLists gw gh g gc L b1 b2 b3 w4 (unhide T4)).mono ?_
      rintro e w5 ⟨v5, F5, rfl, o5, n5, l5, g5⟩
      obtain ⟨uo, uc, rfl⟩ := o5.form
      have E5 := hide ((unhide E4).new g5)
      have HB5 := hide (grown_atT g5 (unhide HB4) (by simp))
      have O5 := hide o5
      have N5 := hide n5
      have L5 : Hid (∀ x ∈ F5, x ∉ F' ∧ w.heap.size + 3 ≤ x) := fun x hx => by
        have h5 := l5 x hx
        have h6 := (unhide E4).size
        exact ⟨fun hF => by have := ok3.lt _ _ _ _ (unhide E4).own x hF; omega, by omega⟩
      refine hK.out _ _ (.inr ⟨(unhide E5).c, unhide HB5⟩) ?_
      have hw5 : wr.heap.size < w5.heap.size := (Array.getElem?_eq_some_iff.1 (unhide HB5)).1
      clear hK K g5 o5 n5 l5 E4 T4 HB4 hw4
      try simp only [Act.put, List.setIfInBounds_toArray, List.set_cons_zero, List.set_cons_succ]
      obtain ⟨m, HM⟩ : ∃ m, Hid (L.length = m) := ⟨_, rfl⟩
      rw [unhide HM] at HB5 O5 ⊢
      refine tailL_step (fun K hK => ?_)
      go_simp
      refine hK.out _ _ (.inr ⟨((unhide E5).new (World.grownBy_alloc w5 (.cells #[.slice uo m uc] 42) none)).c, grown_atT (World.grownBy_alloc w5 (.cells #[.slice uo m uc] 42) none) (unhide HB5) (by simp)⟩) ?_
      clear hK K
      try simp only [Act.put, List.setIfInBounds_toArray, List.set_cons_zero, List.set_cons_succ]
      refine tailL_step (fun K hK => ?_)
      refine step_append_rowR ok2 Try.underlying27 infoIntSSS rfl _ _ rfl cv ((coefsG G).take i) F' rfl (unhide E5).own (unhide E5).nd (.slice uo m uc) L F5 (unhide O5) (unhide N5) (fun x hx => (unhide L5 x hx).1) rfl (by rw [List.length_take]; omega) _ (unhide HCN) ?_
      intro v8 w8 F8 o8 n8 m8 g8
      have hne : ∀ x ∈ blk cv, w.heap.size + 3 ≤ x ∧ x < wr.heap.size := fun x hx => ⟨(unhide E5).lo x ((unhide E5).own.head x hx), unhide HLT x ((unhide E5).own.head x hx)⟩
      have hs6 := (unhide E5).size
      have p8 : w8.heap[w.heap.size]? = some (.cells (plV X (.slice (some ⟨gr, 0, none⟩) n cap)) 76 (0, 0)) := (g8.block _ (by omega) (fun e => by have := hne _ e; omega)).trans (unhide E5).pl
      have r8 : w8.heap[w.heap.size + 1]? = some (.cells #[.slice none 0 0] 29 (0, 0)) := (g8.block _ (by omega) (fun e => by have := hne _ e; omega)).trans (unhide E5).r
      have c8 : w8.heap[w.heap.size + 1 + 1]? = some (.cells #[cv] 29 (0, 0)) := (g8.block _ (by omega) (fun e => by have := hne _ e; omega)).trans (unhide E5).c
      have gw8 : w.grownBy w8 none := Wr.new (unhide E5).grown g8 (fun x hx => by have := hne x hx; omega)
      have b8 := (g8.block wr.heap.size hw5 (fun e => by have := hne _ e; omega)).trans (unhide HB5)
      have l8 : ∀ x ∈ F8, w.heap.size + 3 ≤ x := fun x hx => by
        rcases m8 x hx with h | h | h
        · exact (unhide E5).lo x h
        · exact (unhide L5 x h).2
        · omega
      refine hK.out _ _ (.inr ⟨c8, b8⟩) ?_
      obtain ⟨vo8, vc8, rfl⟩ := o8.form
      obtain ⟨ln, HLN⟩ : ∃ ln, Hid (((coefsG G).take (i + 1)).length = ln) := ⟨_, rfl⟩
      rw [unhide HLN] at o8 ⊢
      have ep9 : Ec w (w8.setCell ⟨w.heap.size + 1 + 1, 0, none⟩ (.slice vo8 ln vc8)) X (.slice (some ⟨gr, 0, none⟩) n cap) (.slice vo8 ln vc8) ((coefsG G).take (i + 1)) F8 := by
        have gs := grown_set w8 (w.heap.size + 1 + 1) 0 (.slice vo8 ln vc8)
        refine ⟨grown_atT gs p8 (by simp; omega), grown_atT gs r8 (by simp), heap_setCell_same w8 _ 0 _ _ _ c8, ok3.wr o8 (Wr.ofRow (F := [w.heap.size + 1 + 1]) gs (fun q e => by have e9 := Option.some.inj e; simp [e9])) (fun x hx e => by simp at e; have := l8 x hx; omega), n8, l8, grown_new gw8 gs (fun q e => by simp at e; omega)⟩
      have E9 := hide ep9
      have ca : w8.cell? ⟨w.heap.size + 1 + 1, 0, none⟩ = some cv := by rw [cell_of_row w8 _ 0 _ _ (0, 0) c8]; rfl
      have fa := frozen_of_row w8 (w.heap.size + 1 + 1) 0 _ _ c8
      have C8 := hide c8
      have B8 := hide b8
      clear hK K ep9 o8 n8 m8 g8 p8 r8 c8 b8 E5 l8 gw8 hne HB5 O5 N5 L5
      try simp only [Act.put, List.setIfInBounds_toArray, List.set_cons_zero, List.set_cons_succ]
      refine tailL_step (fun K hK => ?_)
      go_simp
      refine hK.out _ _ (.inr ⟨unhide C8, unhide B8⟩) ?_
      clear hK K
      try simp only [Act.put, List.setIfInBounds_toArray, List.set_cons_zero, List.set_cons_succ]
      refine tailL_step (fun K hK => ?_)
      go_simp
      refine hK.out _ _ (.inl rfl) (tailL_nil (NoPanic.normal ?_))
      clear hK K ca fa C8 B8
      generalize w8.setCell ⟨w.heap.size + 1 + 1, 0, none⟩ (.slice vo8 ln vc8) = w9 at *
      go_wp2
      go_roundw
      case rel => exact ⟨i + 1, _, F8, by omega, by go_num, E9⟩
      case measure => simp [intOf]; omega
    · obtain rfl : i = n := by omega
      have e8 : (coefsG G).take i = coefsG G := List.take_of_length_le (by unfold coefsG; rw [List.length_map, unhide HN]; exact Nat.le_refl _)
      rw [e8] at hec
      obtain ⟨vo, vc, rfl⟩ := (unhide hec).own.form
      obtain ⟨ln, HLN⟩ : ∃ ln, Hid ((coefsG G).length = ln) := ⟨_, rfl⟩
      rw [unhide HLN] at hec
      have hc := (unhide hec).c
      have hr := (unhide hec).r
      have hsz := (unhide hec).size
      have cc : wr.cell? ⟨w.heap.size + 1 + 1, 0, none⟩ = some (.slice vo ln vc) := by rw [cell_of_row wr _ 0 _ _ (0, 0) hc]; rfl
      have cr : wr.cell? ⟨w.heap.size + 1, 0, none⟩ = some (.slice none 0 0) := by rw [cell_of_row wr _ 0 _ _ (0, 0) hr]; rfl
      have fr := frozen_of_row wr (w.heap.size + 1) 0 _ _ hr
      have gs := grown_set wr (w.heap.size + 1) 0 (.slice vo ln vc)
      have HR := hide (heap_setCell_same wr (w.heap.size + 1) 0 _ _ (.slice vo ln vc) hr)
      clear hc hr
      go_wp2
      generalize wr.setCell ⟨w.heap.size + 1, 0, none⟩ (.slice vo ln vc) = w9 at *
      refine bodyPost_ret (v := .agg #[.slice vo ln vc]) ?_ rfl ⟨_, F', rfl, ⟨_, rfl, ?_⟩, (unhide hec).nd, fun x hx => by have := (unhide hec).lo x hx; omega, ?_⟩
      · rw [results_c1 rfl]
        exact run_loadVar_row w9 _ 29 29 _ (0, 0) _ (unhide HR) Try.underlying29 rfl (by kernel_rfl)
      · exact ok3.wr (unhide hec).own (Wr.ofRow (F := [w.heap.size + 1]) gs (fun q e => by have e9 := Option.some.inj e; simp [e9])) (fun x hx e => by simp at e; have := (unhide hec).lo x hx; omega)
      · exact grown_new (unhide hec).grown gs (fun q e => by simp at e; omega)

end Go.Proofs.Ytibgldanmhckiaa

namespace Go.Proofs.Ytibgldanmhckiaa
open Go.RowKit Go.Shelf

/-- The spots of an area, given to a loop whose body may return. -/
theorem spots_stops (Bn wd ht : Nat) (hwd : wd ≤ 4096) (hht : ht ≤ 4096) (O : Nat → Prop) (w : World) (hBn : w.heap[Bn]? = some (.cells #[.int .i64 (wd : Int), .int .i64 (ht : Int)] 115 (0, 0))) (hOB : ¬ O Bn) :
    Stops Try.prog 115 #[.pointer (some ⟨Bn, 0, none⟩)] (fun x : Nat × Nat => #[.int .i64 (x.1 : Int), .int .i64 (x.2 : Int)]) (sTo wd ht) O w := by
  intro n l J Jx W hW _ hl hOl hwl hJ hY h0
  have hlt : Bn < w.heap.size := (Array.getElem?_eq_some_iff.1 hBn).1
  have hBW : W.heap[Bn]? = some (.cells #[.int .i64 (wd : Int), .int .i64 (ht : Int)] 115 (0, 0)) := (hW.block Bn hlt hOB).trans hBn
  have hltW : Bn < W.heap.size := (Array.getElem?_eq_some_iff.1 hBW).1
  refine callsIn_wide.2 ((callsIn_wide (n := 1)).1 ?_)
  refine (spots1_in Fence.wide 1 trivial rfl (Nat.le_refl _) l Bn wd ht hwd hht (fun pre W1 => J pre W1 ∧ But (fun k => O k ∨ k = l) W W1) (fun _ W1 => Jx W1 ∧ But (fun k => O k ∨ k = l) W W1) ?_ W hBW ⟨h0, But.refl _ _⟩).mono ?_
  · rintro pre x W1 ⟨hj, hb⟩ hlen
    obtain ⟨fn, tmps, assign, body, hy, hR⟩ := hY pre x W1 (1 - 1) hj hb hlen
    refine ⟨fn, tmps, assign, body, hy, hR.mono ?_⟩
    rintro e W' ⟨(⟨rfl, hj'⟩ | ⟨rfl, hj'⟩), hb'⟩
    · exact .inl ⟨rfl, ⟨hj', hb.trans hb'⟩, hb'.block Bn (Nat.lt_of_lt_of_le hltW hb.size) (fun e => by rcases e with e | e; exact hOB e; omega)⟩
    · exact .inr ⟨rfl, hj', hb.trans hb'⟩
  · rintro e W' ⟨hv, (⟨ys, rfl, hj, hb⟩ | ⟨pre, _, hj, hb⟩)⟩
    · exact ⟨hv, .inl hj, hb⟩
    · exact ⟨hv, .inr hj, hb⟩

theorem sCol_at (r : Nat) : ∀ (k j : Nat), j < k → (sCol r k)[j]? = some (r, j)
  | 0, j, h => by omega
  | k + 1, j, h => by
    rw [sCol]
    by_cases e : j < k
    · rw [List.getElem?_append_left (by rw [sCol_len]; exact e)]
      exact sCol_at r k j e
    · obtain rfl : j = k := by omega
      rw [List.getElem?_append_right (by rw [sCol_len]; exact Nat.le_refl _), sCol_len, Nat.sub_self]
      rfl
theorem sTo_at (W : Nat) : ∀ (H i : Nat) (x : Nat × Nat), (sTo W H)[i]? = some x → x.1 * W + x.2 = i ∧ x.1 < H ∧ x.2 < W
  | 0, i, x, h => by simp [sTo] at h
  | r + 1, i, x, h => by
    rw [sTo] at h
    by_cases e : i < r * W
    · rw [List.getElem?_append_left (by rw [sTo_len]; exact e)] at h
      obtain ⟨h1, h2, h3⟩ := sTo_at W r i x h
      exact ⟨h1, by omega, h3⟩
    · rw [List.getElem?_append_right (by rw [sTo_len]; omega), sTo_len] at h
      have hj : i - r * W < W := by
        have := (List.getElem?_eq_some_iff.1 h).1
        rwa [sCol_len] at this
      rw [sCol_at r W _ hj] at h
      have e2 : (r, i - r * W) = x := Option.some.inj h
      subst e2
      exact ⟨by show r * W + (i - r * W) = i; omega, by show r < r + 1; omega, hj⟩
theorem spot_num {W H : Nat} {pre : List (Nat × Nat)} {x : Nat × Nat} (h : pre ++ [x] <+: sTo W H) : x.1 * W + x.2 = pre.length ∧ x.1 < H ∧ x.2 < W := by
  obtain ⟨rest, e⟩ := h
  refine sTo_at W H pre.length x ?_
  rw [← e, List.append_assoc, List.getElem?_append_right (Nat.le_refl _), Nat.sub_self]
  rfl
theorem spot_less {W H : Nat} {pre : List (Nat × Nat)} {x : Nat × Nat} (h : pre ++ [x] <+: sTo W H) : pre.length < H * W := by
  have := h.length_le
  rw [sTo_len] at this
  simp at this
  omega

/-- The first blocks of P, behind them those of L. -/
def mixL (P L : List (List Int)) (k : Nat) : List (List Int) := P.take k ++ L.drop k
theorem mixL_len {P L : List (List Int)} (h : P.length = L.length) (k : Nat) : (mixL P L k).length = L.length := by
  unfold mixL
  rw [List.length_append, List.length_take, List.length_drop]
  omega
theorem mixL_zero (P L : List (List Int)) : mixL P L 0 = L := by simp [mixL]
theorem mixL_all {P L : List (List Int)} (h : P.length = L.length) : mixL P L L.length = P := by
  unfold mixL
  rw [← h, List.take_length, h, List.drop_length, List.append_nil]
theorem mixL_set {P L : List (List Int)} (h : P.length = L.length) (k : Nat) (hk : k < L.length) : (mixL P L k).set k (P.getD k []) = mixL P L (k + 1) := by
  have hp : k < P.length := by omega
  unfold mixL
  rw [List.set_append_right _ _ (by rw [List.length_take]; omega), List.length_take, Nat.min_eq_left (by omega), Nat.sub_self, List.drop_eq_getElem_cons hk, List.set_cons_zero, List.take_succ_eq_append_getElem hp, List.append_assoc]
  have e : P.getD k [] = P[k] := by simp [hp]
  rw [e]
  rfl

/-- A plane is ok. -/
theorem plane_all {bw bh nw nh : Nat} {P : List (List Int)} (h : P.length = bw * bh) (hb : ∀ k, k < P.length → blockB (hidB bw nw nh k) (P.getD k []) = true) : planeB bw bh nw nh P = true := by
  unfold planeB
  rw [Bool.and_eq_true]
  exact ⟨decide_eq_true h, List.all_eq_true.2 (fun k hk => hb k (by simpa using hk))⟩
theorem plane_bad {bw bh nw nh : Nat} {P : List (List Int)} (k : Nat) (hk : k < P.length) (hb : blockB (hidB bw nw nh k) (P.getD k []) = false) : planeB bw bh nw nh P = false := by
  cases h : planeB bw bh nw nh P with
  | false => rfl
  | true =>
    unfold planeB at h
    rw [Bool.and_eq_true] at h
    have := List.all_eq_true.1 h.2 k (by simpa using hk)
    rw [hb] at this
    exact this.symm
theorem plane_short {bw bh nw nh : Nat} {P : List (List Int)} (h : P.length ≠ bw * bh) : planeB bw bh nw nh P = false := by
  unfold planeB
  rw [decide_eq_false h, Bool.false_and]
theorem hid_spot {bw nw nh r c : Nat} (hc : c < bw) : hidB bw nw nh (r * bw + c) = (decide (nh ≤ r) || decide (nw ≤ c)) := by
  unfold hidB
  have h1 : (r * bw + c) / bw = r := by rw [Nat.mul_comm, Nat.mul_add_div (by omega), Nat.div_eq_of_lt hc]; omega
  have h2 : (r * bw + c) % bw = c := by rw [Nat.mul_comm, Nat.mul_add_mod, Nat.mod_eq_of_lt hc]
  rw [h1, h2]
theorem zero_same {xs : List Int} (h : xs.length = 64) : (xs == zs64) = zeroB xs := by
  rw [Bool.eq_iff_iff, beq_iff_eq]
  unfold zeroB
  rw [List.all_eq_true]
  constructor
  · rintro rfl x hx
    have := List.eq_of_mem_replicate hx
    simp [this]
  · intro hx
    unfold zs64
    rw [List.eq_replicate_iff]
    exact ⟨h, fun b hb => by simpa using hx b hb⟩

end Go.Proofs.Ytibgldanmhckiaa

namespace Go.Proofs.Ytibgldanmhckiaa
open Go.RowKit Go.Shelf

attribute [local go_sem] Oper.semAt_some

theorem load_rowR {F : Fence} {n : Nat} {P : Program} {ops : Array Oper} {rest : List Oper} {op : Oper} {a : Act} {w : World} {Q : Exit → Act → World → Prop} (hw : Region.wanted op (yielded ops a.tmps) = true) (ty : TypeId) (x : Operand) (ho : op.op = .load ty x)
    (b : Nat) (hx : a.eval x = .pointer (some ⟨b, 0, none⟩)) (X : Array Value) (t : TypeId) (hb : w.heap[b]? = some (.cells X t (0, 0))) (d : TypeDesc)
    (hu : P.underlying ty = some d) (hd : (match d with | .struct _ | .array _ _ => true | _ => false) = true) (hi : (P.info? ty).map (·.size) = some X.size)
    (h : wpListIn F n P ops Q rest (a.put op.dst (.agg X)) w) : wpListIn F n P ops Q (op :: rest) a w :=
  BigFrame.wpListIn_want hw fun K hK => by
    refine ⟨fun f hf => ?_, ?_⟩
    · simp [Oper.about, ho] at hf
    · rw [Oper.semAt_eq _ _ _ (by simp [ho]), exec_row ty x ho b hx X t hb d hu hd hi]
      exact hK _ _ h

/-- An operation whose guard is not met, inside of a round. -/
theorem skip_in {l n : Nat} {P : Program} {ops : Array Oper} {rest : List Oper} {op : Oper} {a : Act} {w : World} {Q : Exit → Act → World → Prop} (hw : Region.wanted op (yielded ops a.tmps) = false) (h : wpListIn (Fence.wide.inRound l) n P ops Q rest (a.put op.dst undef) w) : wpListIn (Fence.wide.inRound l) n P ops Q (op :: rest) a w :=
  wpListIn_step (fun K hK => by rw [hw]; exact ⟨fun _ _ => trivial, hK _ _ h⟩)

end Go.Proofs.Ytibgldanmhckiaa
