/-
  PlanesHas, PlanesCoefs, FillPure, LoadIn, FillImpl, FixCoefs, FixCoefs2.
-/
import Derived.Test.YtjkokbijnaodnaaGreatMAh

namespace Go.Proofs.YtjkokbijnaodnaaGreat
open Go.RowKit Go.Shelf

theorem exec_mid {P : Program} {ev : Operand → Value} {op : Oper} {w : World} (ty : TypeId) (x : Operand) (ho : op.op = .load ty x) (b o : Nat) (hx : ev x = .pointer (some ⟨b, o, none⟩)) (X : Array Value) (hb : ∀ j v, X[j]? = some v → w.cell? ⟨b, o + j, none⟩ = some v) (d : TypeDesc)
    (hu : P.underlying ty = some d) (hd : d.isRow = true) (hi : (P.info? ty).map (·.size) = some X.size) : (execOp ev op).run P w = .ok (.value (.agg X)) w := by
  unfold execOp
  have := run_loadAt_mid (P := P) w b o ty X.toList d (fun j v hv => hb j v (by simpa using hv)) hu hd (by simpa using hi)
  simp only [ho, hx, Sem.run_bind, this, Result.andThen_ok, Sem.run_pure, Array.toArray_toList]

theorem anyH_take {P : Program} {md : Region.Mode} {S : World → Prop} {Q : Exit → Act → World → Prop} {l : List Oper} {i f : Nat} {o : Oper} {v : Value} {listed : Array Bool} {a : Act} {w : World} (ho : l[i]? = some o)
    (hB : (Region.noSelect l.toArray && Region.free md l.toArray listed i && (Region.ready md l.toArray listed).contains i) = true) (hQ : ∀ c a w, Q (.panic c) (a.put o.dst v) w → Q (.panic c) a w) (hy : YieldsIf P l.toArray S o v a) (hS : S w)
    (h : wpAnyH P md l.toArray Q S f (listed.setIfInBounds i true) (a.put o.dst v) w) : wpAnyH P md l.toArray Q S (f + 1) listed a w := by
  simp only [Bool.and_eq_true] at hB
  exact wpAnyH_take (by simpa using ho) hB.1.1 hB.1.2 hB.2 hQ hy hS h

set_option maxRecDepth 20000 in
set_option maxHeartbeats 3200000 in
theorem planesShows (X : Array Value) (p wd ht rs : Int) (n : Nat) (C : Nat → Nat → Int) (hX : Fx X p wd ht rs n C) (hg : Geo wd ht n C (mostA 1 C 1 n) (mostA 1 C 2 n)) (gv : Value) (co ro cl : Int) (t : Bool) (HT : Hid ((decide (0 ≤ co ∧ co ≤ (n : Int) - 1) && (decide (0 ≤ ro ∧ ro ≤ (nhG ht n C co.toNat : Int) - 1) && decide (0 ≤ cl ∧ cl ≤ (nwG wd n C co.toNat : Int) - 1))) = t)) (w : World) :
    Calls Tryz.prog 98 #[.agg (plV X gv), .agg #[.int .i64 co, .int .i64 ro, .int .i64 cl]] w fun e w' => e = .returned (.bool t) ∧ w.grownBy w' none := by
  have hs := hX.size
  have hn4 := hg.n4
  obtain ⟨t1, HT1⟩ : ∃ t1, Hid (decide (0 ≤ co ∧ co ≤ (n : Int) - 1) = t1) := ⟨_, rfl⟩
  obtain ⟨t2, HT2⟩ : ∃ t2, Hid ((decide (0 ≤ ro ∧ ro ≤ (nhG ht n C co.toNat : Int) - 1) && decide (0 ≤ cl ∧ cl ≤ (nwG wd n C co.toNat : Int) - 1)) = t2) := ⟨_, rfl⟩
  have HTT : Hid ((t1 && t2) = t) := by unfold Hid; rw [← unhide HT1, ← unhide HT2]; exact unhide HT
  clear HT
  have HX := hide hX
  have HGE := hide hg
  have HSX := hide hs
  clear hX hg hs
  obtain ⟨W0, hW0⟩ : ∃ W0, ((w.alloc (.cells (plV X gv) 105)).alloc (.cells #[.int .i64 co, .int .i64 ro, .int .i64 cl] 96)) = W0 := ⟨_, rfl⟩
  have G0 : w.grownBy W0 none := by rw [← hW0]; exact grown_alloc (grown_alloc (World.grownBy.refl _ _) _) _
  have b0 : W0.heap[w.heap.size]? = some (.cells (plV X gv) 105 (0, 0)) := by
    rw [← hW0, Below.heap_alloc _ _ _ (by simp <;> omega)]
    have := heap_alloc_new w (.cells (plV X gv) 105)
    simpa using this
  have B0 := hide b0
  have b1 : W0.heap[w.heap.size + 1]? = some (.cells #[.int .i64 co, .int .i64 ro, .int .i64 cl] 96 (0, 0)) := by
    rw [← hW0]
    have := heap_alloc_new (w.alloc (.cells (plV X gv) 105)) (.cells #[.int .i64 co, .int .i64 ro, .int .i64 cl] 96)
    simpa using this
  have B1 := hide b1
  have s0 : W0.heap.size = w.heap.size + 2 := by rw [← hW0]; simp
  have HW := hide hW0
  have HG0 := hide G0
  clear hW0 G0 b0 b1
  go_enter Tryz.func98, Tryz.ntmps98
  go_wp2
  rw [unhide HW]
  clear HW
  refine wp_region_noPanic ?_
  refine wp_region_raw (fun W => W0.drew.grownBy W none) [true, true, true, true, false, false, false, false, false, false, false, false, false, false, false, false, false, false] (by kernel_rfl) (fun _ _ _ _ _ h => h) rfl (by kernel_rfl) (World.grownBy.refl _ _) ?_
  have BD0 : Hid (W0.drew.heap[w.heap.size]? = some (.cells (plV X gv) 105 (0, 0))) := unhide B0
  have BD1 : Hid (W0.drew.heap[w.heap.size + 1]? = some (.cells #[.int .i64 co, .int .i64 ro, .int .i64 cl] 96 (0, 0))) := unhide B1
  have gD : w.grownBy W0.drew none := grown_drew (unhide HG0)
  have sD : W0.drew.heap.size = w.heap.size + 2 := s0
  generalize W0.drew = W1 at *
  clear B0 B1 HG0 s0 W0
  have C0 : Hid (W1.cell? ⟨w.heap.size + 1, 0, none⟩ = some (.int .i64 co)) := by unfold Hid; rw [cell_of_row W1 _ 0 _ _ (0, 0) (unhide BD1)]; rfl
  have C1 : Hid (W1.cell? ⟨w.heap.size + 1, 1, none⟩ = some (.int .i64 ro)) := by unfold Hid; rw [cell_of_row W1 _ 1 _ _ (0, 0) (unhide BD1)]; rfl
  have C2 : Hid (W1.cell? ⟨w.heap.size + 1, 2, none⟩ = some (.int .i64 cl)) := by unfold Hid; rw [cell_of_row W1 _ 2 _ _ (0, 0) (unhide BD1)]; rfl
  refine heldF_take (v := ?_) (Or.inl ⟨by rfl, ?_⟩) ?_
  rotate_left 1
  · intro w' hSw
    go_simp
    try with_reducible rfl
  simp only [Act.put, List.setIfInBounds_toArray, List.set_cons_zero, List.set_cons_succ]
  refine heldF_take (v := .agg X) (Or.inl ⟨by rfl, ?_⟩) ?_
  · intro w' hSw
    exact exec_mid 83 _ rfl w.heap.size 0 rfl X (pl_frame (grown_atT hSw (unhide BD0) (by simp))) _ Tryz.underlying83 rfl (by rw [unhide HSX]; kernel_rfl)
  simp only [Act.put, List.setIfInBounds_toArray, List.set_cons_zero, List.set_cons_succ]
  refine heldF_take (v := ?_) (Or.inl ⟨by rfl, ?_⟩) ?_
  rotate_left 1
  · intro w' hSw
    go_simp
    try with_reducible rfl
  simp only [Act.put, List.setIfInBounds_toArray, List.set_cons_zero, List.set_cons_succ]
  refine heldF_take (v := ?_) (Or.inl ⟨by rfl, ?_⟩) ?_
  rotate_left 1
  · intro w' hSw
    have cc := hSw.cell (unhide C0) (by simp)
    go_simp
    try with_reducible rfl
  simp only [Act.put, List.setIfInBounds_toArray, List.set_cons_zero, List.set_cons_succ]
  refine heldF_skip (heldF_skip (heldF_skip (heldF_skip (heldF_skip (heldF_skip (heldF_skip (heldF_skip (heldF_skip (heldF_skip (heldF_skip (heldF_skip (heldF_skip (heldF_skip (heldF_nil ?_))))))))))))))
  refine anyH_step1 (i := 4) rfl (by kernel_rfl) (fun K hK => ?_)
  go_simp
  refine (hasComp X p wd ht rs n C (unhide HX) hn4 co t1 HT1 W1).mono ?_
  rintro e w2 ⟨rfl, g2⟩
  refine hK.out _ _ g2 ?_
  clear hK K
  try simp only [Act.put, List.setIfInBounds_toArray, List.set_cons_zero, List.set_cons_succ]
  refine anyH_step1 (i := 5) rfl (by kernel_rfl) (fun K hK => ?_)
  go_simp
  refine hK.out _ _ g2 ?_
  clear hK K
  try simp only [Act.put, List.setIfInBounds_toArray, List.set_cons_zero, List.set_cons_succ]
  cases t1
  · have ht : t = false := by rw [← unhide HTT]; rfl
    subst ht
    refine anyH_take (i := 6) (v := undef) rfl (by kernel_rfl) (fun _ _ _ h => h) (Or.inr ⟨by rfl, rfl⟩) g2 ?_
    try simp only [Act.put, List.setIfInBounds_toArray, List.set_cons_zero, List.set_cons_succ]
    refine anyH_take (i := 7) (v := undef) rfl (by kernel_rfl) (fun _ _ _ h => h) (Or.inr ⟨by rfl, rfl⟩) g2 ?_
    try simp only [Act.put, List.setIfInBounds_toArray, List.set_cons_zero, List.set_cons_succ]
    refine anyH_take (i := 8) (v := undef) rfl (by kernel_rfl) (fun _ _ _ h => h) (Or.inr ⟨by rfl, rfl⟩) g2 ?_
    try simp only [Act.put, List.setIfInBounds_toArray, List.set_cons_zero, List.set_cons_succ]
    refine anyH_take (i := 9) (v := undef) rfl (by kernel_rfl) (fun _ _ _ h => h) (Or.inr ⟨by rfl, rfl⟩) g2 ?_
    try simp only [Act.put, List.setIfInBounds_toArray, List.set_cons_zero, List.set_cons_succ]
    refine anyH_take (i := 11) (v := undef) rfl (by kernel_rfl) (fun _ _ _ h => h) (Or.inr ⟨by rfl, rfl⟩) g2 ?_
    try simp only [Act.put, List.setIfInBounds_toArray, List.set_cons_zero, List.set_cons_succ]
    refine anyH_take (i := 12) (v := undef) rfl (by kernel_rfl) (fun _ _ _ h => h) (Or.inr ⟨by rfl, rfl⟩) g2 ?_
    try simp only [Act.put, List.setIfInBounds_toArray, List.set_cons_zero, List.set_cons_succ]
    refine anyH_take (i := 13) (v := undef) rfl (by kernel_rfl) (fun _ _ _ h => h) (Or.inr ⟨by rfl, rfl⟩) g2 ?_
    try simp only [Act.put, List.setIfInBounds_toArray, List.set_cons_zero, List.set_cons_succ]
    refine anyH_take (i := 14) (v := undef) rfl (by kernel_rfl) (fun _ _ _ h => h) (Or.inr ⟨by rfl, rfl⟩) g2 ?_
    try simp only [Act.put, List.setIfInBounds_toArray, List.set_cons_zero, List.set_cons_succ]
    refine anyH_step1 (i := 10) rfl (by kernel_rfl) (fun K hK => ?_)
    go_simp
    refine hK.out _ _ g2 ?_
    clear hK K
    try simp only [Act.put, List.setIfInBounds_toArray, List.set_cons_zero, List.set_cons_succ]
    refine anyH_step1 (i := 15) rfl (by kernel_rfl) (fun K hK => ?_)
    go_simp
    refine hK.out _ _ g2 ?_
    clear hK K
    try simp only [Act.put, List.setIfInBounds_toArray, List.set_cons_zero, List.set_cons_succ]
    refine anyH_step1 (i := 16) rfl (by kernel_rfl) (fun K hK => ?_)
    go_simp
    refine hK.out _ _ g2 ?_
    clear hK K
    try simp only [Act.put, List.setIfInBounds_toArray, List.set_cons_zero, List.set_cons_succ]
    refine anyH_step1 (i := 17) rfl (by kernel_rfl) (fun K hK => ?_)
    go_simp
    refine hK.out _ _ g2 ?_
    clear hK K
    try simp only [Act.put, List.setIfInBounds_toArray, List.set_cons_zero, List.set_cons_succ]
    refine wpAnyH_done (by kernel_rfl) (NoPanic.normal ?_) _
    go_wp2
    go_ret
    exact ⟨rfl, grown_trans gD g2⟩
  · have ht : t = t2 := by rw [← unhide HTT]; rfl
    subst ht
    have hco : 0 ≤ co ∧ co ≤ (n : Int) - 1 := of_decide_eq_true (unhide HT1)
    obtain ⟨c, rfl⟩ := Int.eq_ofNat_of_zero_le hco.1
    have hcn : c < n := by omega
    have hd := dims_of (unhide HGE) c hcn
    rw [Int.toNat_natCast] at HT2
    refine anyH_take (i := 6) (v := ?_) rfl (by kernel_rfl) (fun _ _ _ h => h) (Or.inl ⟨by rfl, ?_⟩) g2 ?_
    rotate_left 1
    · intro w' hSw
      go_simp
      try with_reducible rfl
    try simp only [Act.put, List.setIfInBounds_toArray, List.set_cons_zero, List.set_cons_succ]
    refine anyH_take (i := 7) (v := .agg X) rfl (by kernel_rfl) (fun _ _ _ h => h) (Or.inl ⟨by rfl, ?_⟩) g2 ?_
    · intro w' hSw
      exact exec_mid 83 _ rfl w.heap.size 0 rfl X (pl_frame (grown_atT hSw (unhide BD0) (by simp))) _ Tryz.underlying83 rfl (by rw [unhide HSX]; kernel_rfl)
    try simp only [Act.put, List.setIfInBounds_toArray, List.set_cons_zero, List.set_cons_succ]
    refine anyH_take (i := 8) (v := ?_) rfl (by kernel_rfl) (fun _ _ _ h => h) (Or.inl ⟨by rfl, ?_⟩) g2 ?_
    rotate_left 1
    · intro w' hSw
      go_simp
      try with_reducible rfl
    try simp only [Act.put, List.setIfInBounds_toArray, List.set_cons_zero, List.set_cons_succ]
    refine anyH_take (i := 9) (v := ?_) rfl (by kernel_rfl) (fun _ _ _ h => h) (Or.inl ⟨by rfl, ?_⟩) g2 ?_
    rotate_left 1
    · intro w' hSw
      have cc := hSw.cell (unhide C0) (by simp)
      go_simp
      try with_reducible rfl
    try simp only [Act.put, List.setIfInBounds_toArray, List.set_cons_zero, List.set_cons_succ]
    refine anyH_take (i := 11) (v := ?_) rfl (by kernel_rfl) (fun _ _ _ h => h) (Or.inl ⟨by rfl, ?_⟩) g2 ?_
    rotate_left 1
    · intro w' hSw
      go_simp
      try with_reducible rfl
    try simp only [Act.put, List.setIfInBounds_toArray, List.set_cons_zero, List.set_cons_succ]
    refine anyH_take (i := 12) (v := ?_) rfl (by kernel_rfl) (fun _ _ _ h => h) (Or.inl ⟨by rfl, ?_⟩) g2 ?_
    rotate_left 1
    · intro w' hSw
      have cc := hSw.cell (unhide C1) (by simp)
      go_simp
      try with_reducible rfl
    try simp only [Act.put, List.setIfInBounds_toArray, List.set_cons_zero, List.set_cons_succ]
    refine anyH_take (i := 13) (v := ?_) rfl (by kernel_rfl) (fun _ _ _ h => h) (Or.inl ⟨by rfl, ?_⟩) g2 ?_
    rotate_left 1
    · intro w' hSw
      go_simp
      try with_reducible rfl
    try simp only [Act.put, List.setIfInBounds_toArray, List.set_cons_zero, List.set_cons_succ]
    refine anyH_take (i := 14) (v := ?_) rfl (by kernel_rfl) (fun _ _ _ h => h) (Or.inl ⟨by rfl, ?_⟩) g2 ?_
    rotate_left 1
    · intro w' hSw
      have cc := hSw.cell (unhide C2) (by simp)
      go_simp
      try with_reducible rfl
    try simp only [Act.put, List.setIfInBounds_toArray, List.set_cons_zero, List.set_cons_succ]
    refine anyH_step1 (i := 10) rfl (by kernel_rfl) (fun K hK => ?_)
    go_simp
    refine (needed X p wd ht rs n C (unhide HX) _ _ (unhide HGE) c hcn _ _ (nwG wd n C c : Int) (nhG ht n C c : Int) rfl rfl hd.nw hd.nh w2).mono ?_
    rintro e w3 ⟨rfl, g3⟩
    have g23 := grown_trans g2 g3
    refine hK.out _ _ g23 ?_
    clear hK K
    try simp only [Act.put, List.setIfInBounds_toArray, List.set_cons_zero, List.set_cons_succ]
    refine anyH_step1 (i := 15) rfl (by kernel_rfl) (fun K hK => ?_)
    go_simp
    refine (areaHas (nwG wd n C c : Int) (nhG ht n C c : Int) ro cl (by have := hd.nw1; omega) (by have := hd.nh1; omega) t HT2 w3).mono ?_
    rintro e w4 ⟨rfl, g4⟩
    have g24 := grown_trans g23 g4
    refine hK.out _ _ g24 ?_
    clear hK K
    try simp only [Act.put, List.setIfInBounds_toArray, List.set_cons_zero, List.set_cons_succ]
    refine anyH_step1 (i := 16) rfl (by kernel_rfl) (fun K hK => ?_)
    go_simp
    refine hK.out _ _ g24 ?_
    clear hK K
    try simp only [Act.put, List.setIfInBounds_toArray, List.set_cons_zero, List.set_cons_succ]
    refine anyH_step1 (i := 17) rfl (by kernel_rfl) (fun K hK => ?_)
    go_simp
    refine hK.out _ _ g24 ?_
    clear hK K
    try simp only [Act.put, List.setIfInBounds_toArray, List.set_cons_zero, List.set_cons_succ]
    refine wpAnyH_done (by kernel_rfl) (NoPanic.normal ?_) _
    go_wp2
    go_ret
    exact ⟨rfl, grown_trans gD g24⟩

/-- A grid of planes. -/
theorem grid_at {w : World} {gv : Value} {G : List Gd} {F : List Nat} (h : OwGr w gv G F) (hF : F.Nodup) (c : Nat) (hc : c < G.length) : ∃ gr cap g gc, gv = .slice (some ⟨gr, 0, none⟩) G.length cap ∧ w.cell? ⟨gr, c * 3, none⟩ = some (.int .i64 ((G.getD c (0, 0, [])).1 : Int)) ∧ w.cell? ⟨gr, c * 3 + 1, none⟩ = some (.int .i64 ((G.getD c (0, 0, [])).2.1 : Int)) ∧
    w.cell? ⟨gr, c * 3 + 2, none⟩ = some (.slice (some ⟨g, 0, none⟩) (G.getD c (0, 0, [])).2.2.length gc) ∧ Th_gridrows w g (G.getD c (0, 0, [])).2.2 ∧ gr ∈ F ∧ g ∈ F ∧ g ≠ gr ∧
    ∀ w' L', Wr [g] w w' → Th_gridrows w' g L' → L'.length = (G.getD c (0, 0, [])).2.2.length → ∃ F', OwGr w' gv (G.set c ((G.getD c (0, 0, [])).1, (G.getD c (0, 0, [])).2.1, L')) F' ∧ F'.Nodup ∧ ∀ x ∈ F', x ∈ F := by
  have e : G.getD c (0, 0, []) = G[c] := by simp [hc]
  rw [e]
  obtain ⟨gr, cap, cs, Fi, rfl, hgr, hgi, hcells, _, ⟨g, gc, k0, k1, k2, ht, rfl⟩, _, hsub, hturn, _⟩ := OwG.turn GrP.ok h hF c hc
  refine ⟨gr, cap, g, gc, rfl, ?_, ?_, ?_, ht, hgr, hsub g (by simp), fun e => hgi (by simp [e]), fun w' L' hw hT hl => ?_⟩
  · rw [← k0]; exact hcells 0 (by decide)
  · rw [← k1]; exact hcells 1 (by decide)
  · rw [← k2]; exact hcells 2 (by decide)
  · obtain ⟨F', o', n', m'⟩ := hturn w' (G[c].1, G[c].2.1, L') [g] hw ⟨g, gc, k0, k1, by rw [k2, hl], hT, rfl⟩ (by simp) (fun x hx => .inl hx)
    exact ⟨F', o', n', fun x hx => by rcases m' x hx with h | h; exact h; simp at h; subst h; exact hsub x (by simp)⟩
/-- The three cells of a grid, at their place in the row. -/
theorem grid_mid {w : World} {b o : Nat} {x y z : Value} (h0 : w.cell? ⟨b, o, none⟩ = some x) (h1 : w.cell? ⟨b, o + 1, none⟩ = some y) (h2 : w.cell? ⟨b, o + 2, none⟩ = some z) : ∀ j v, (#[x, y, z] : Array Value)[j]? = some v → w.cell? ⟨b, o + j, none⟩ = some v := by
  intro j v hv
  match j, hv with
  | 0, hv => simp at hv; subst hv; exact h0
  | 1, hv => simp at hv; subst hv; exact h1
  | 2, hv => simp at hv; subst hv; exact h2
  | j + 3, hv => simp at hv
theorem area_mid {w : World} {b o : Nat} {x y : Value} (h0 : w.cell? ⟨b, o, none⟩ = some x) (h1 : w.cell? ⟨b, o + 1, none⟩ = some y) : ∀ j v, (#[x, y] : Array Value)[j]? = some v → w.cell? ⟨b, o + j, none⟩ = some v := by
  intro j v hv
  match j, hv with
  | 0, hv => simp at hv; subst hv; exact h0
  | 1, hv => simp at hv; subst hv; exact h1
  | j + 2, hv => simp at hv


end Go.Proofs.YtjkokbijnaodnaaGreat

namespace Go.Proofs.YtjkokbijnaodnaaGreat
open Go.RowKit Go.Shelf

/-- One cell is read. -/
theorem load_one {P : Program} {ops : Array Oper} {rest : List Oper} {op : Oper} {a : Act} {w : World} {Q : Exit → Act → World → Prop} (hw : Region.wanted op (yielded ops a.tmps) = true) (ty : TypeId) (x : Operand) (ho : op.op = .load ty x)
    (b off : Nat) (hx : a.eval x = .pointer (some ⟨b, off, none⟩)) (v : Value) (hc : w.cell? ⟨b, off, none⟩ = some v) (d : TypeDesc) (hu : P.underlying ty = some d) (hd : d.isRow = false)
    (h : wpList P ops Q rest (a.put op.dst v) w) : wpList P ops Q (op :: rest) a w :=
  BigFrame.wpList_want hw fun K hK => by
    have hg : (isAgg ty).run P w = .ok false w := by
      unfold isAgg
      rw [Sem.run_bind, run_underlying hu w]
      cases d <;> simp_all
    unfold Oper.wp execOp
    simp only [ho, hx, Instr.loadAt, Instr.sureAddr, Sem.run_bind, Sem.run_pure, Result.andThen_ok]
    simp [loadVar, hg, go_sem, hc]
    exact hK _ _ h

/-- Coefficients while they are made of planes. -/
structure Ec (w wr : World) (X : Array Value) (gv cv : Value) (D : List (List (List Int))) (F : List Nat) : Prop where
  pl : wr.heap[w.heap.size]? = some (.cells (plV X gv) 105 (0, 0))
  r : wr.heap[w.heap.size + 1]? = some (.cells #[.slice none 0 0] 38 (0, 0))
  c : wr.heap[w.heap.size + 1 + 1]? = some (.cells #[cv] 38 (0, 0))
  own : Ow3 wr cv D F
  nd : F.Nodup
  lo : ∀ g ∈ F, w.heap.size + 3 ≤ g
  grown : w.grownBy wr none
theorem Ec.size {w wr : World} {X : Array Value} {gv cv : Value} {D : List (List (List Int))} {F : List Nat} (h : Ec w wr X gv cv D F) : w.heap.size + 3 ≤ wr.heap.size := (Array.getElem?_eq_some_iff.1 h.c).1
theorem Ec.new {w wr w' : World} {X : Array Value} {gv cv : Value} {D : List (List (List Int))} {F : List Nat} (h : Ec w wr X gv cv D F) (g : wr.grownBy w' none) : Ec w w' X gv cv D F :=
  ⟨grown_atT g h.pl (by simp), grown_atT g h.r (by simp), grown_atT g h.c (by simp), ok3.keep h.own g, h.nd, h.lo, grown_trans h.grown g⟩

def coefsG (G : List Gd) : List (List (List Int)) := G.map (fun x => x.2.2)
theorem coefsG_next (G : List Gd) (i : Nat) (h : i < G.length) : (coefsG G).take i ++ [(G.getD i (0, 0, [])).2.2] = (coefsG G).take (i + 1) := by
  have e : (G.getD i (0, 0, [])).2.2 = (coefsG G)[i]'(by simpa [coefsG] using h) := by simp [coefsG, h]
  rw [e]
  exact takeX_next _ i _

end Go.Proofs.YtjkokbijnaodnaaGreat

namespace Go.Proofs.YtjkokbijnaodnaaGreat
open Go.RowKit Go.Shelf

/-- The spots of an area, given to a loop whose body may return. -/
theorem spots_stops (Bn wd ht : Nat) (hwd : wd ≤ 4096) (hht : ht ≤ 4096) (O : Nat → Prop) (w : World) (hBn : w.heap[Bn]? = some (.cells #[.int .i64 (wd : Int), .int .i64 (ht : Int)] 128 (0, 0))) (hOB : ¬ O Bn) :
    Stops Tryz.prog 110 #[.pointer (some ⟨Bn, 0, none⟩)] (fun x : Nat × Nat => #[.int .i64 (x.1 : Int), .int .i64 (x.2 : Int)]) (sTo wd ht) O w := by
  intro n l J Jx W hW _ hl hOl hwl hJ hY h0
  have hlt : Bn < w.heap.size := (Array.getElem?_eq_some_iff.1 hBn).1
  have hBW : W.heap[Bn]? = some (.cells #[.int .i64 (wd : Int), .int .i64 (ht : Int)] 128 (0, 0)) := (hW.block Bn hlt hOB).trans hBn
  have hltW : Bn < W.heap.size := (Array.getElem?_eq_some_iff.1 hBW).1
  refine callsIn_wide.2 ((callsIn_wide (n := 1)).1 ?_)
  refine (spots1_in Fence.wide 1 trivial rfl (Nat.le_refl _) l Bn wd ht hwd hht (fun pre W1 => J pre W1 ∧ But (fun k => O k ∨ k = l) W W1) (fun _ W1 => Jx W1 ∧ But (fun k => O k ∨ k = l) W W1) ?_ W hBW ⟨h0, But.refl _ _⟩).mono ?_
  · rintro pre x W1 ⟨hj, hb⟩ hlen
    obtain ⟨fn, tmps, assign, body, hy, hR⟩ := hY pre x W1 (1 - 1) hj hb hlen
    refine ⟨fn, tmps, assign, body, hy, hR.mono ?_⟩
    rintro e W' ⟨(⟨rfl, hj'⟩ | ⟨rfl, hj'⟩), hb'⟩
    · exact .inl ⟨rfl, ⟨hj', hb.trans hb'⟩, hb'.block Bn (Nat.lt_of_lt_of_le hltW hb.size) (fun e => by rcases e with e | e; exact hOB e; omega)⟩
    · exact .inr ⟨rfl, hj', hb.trans hb'⟩
  · rintro e W' ⟨hv, (⟨ys, rfl, hj, hb⟩ | ⟨pre, _, hj, hb⟩)⟩
    · exact ⟨hv, .inl hj, hb⟩
    · exact ⟨hv, .inr hj, hb⟩

/-- The first blocks of P, behind them those of L. -/
def mixL (P L : List (List Int)) (k : Nat) : List (List Int) := P.take k ++ L.drop k
theorem mixL_len {P L : List (List Int)} (h : P.length = L.length) (k : Nat) : (mixL P L k).length = L.length := by
  unfold mixL
  rw [List.length_append, List.length_take, List.length_drop]
  omega
theorem mixL_zero (P L : List (List Int)) : mixL P L 0 = L := by simp [mixL]
theorem mixL_all {P L : List (List Int)} (h : P.length = L.length) : mixL P L L.length = P := by
  unfold mixL
  rw [← h, List.take_length, h, List.drop_length, List.append_nil]
theorem mixL_set {P L : List (List Int)} (h : P.length = L.length) (k : Nat) (hk : k < L.length) : (mixL P L k).set k (P.getD k []) = mixL P L (k + 1) := by
  have hp : k < P.length := by omega
  unfold mixL
  rw [List.set_append_right _ _ (by rw [List.length_take]; omega), List.length_take, Nat.min_eq_left (by omega), Nat.sub_self, List.drop_eq_getElem_cons hk, List.set_cons_zero, List.take_succ_eq_append_getElem hp, List.append_assoc]
  have e : P.getD k [] = P[k] := by simp [hp]
  rw [e]
  rfl

/-- A plane is ok. -/
theorem plane_all {bw bh nw nh : Nat} {P : List (List Int)} (h : P.length = bw * bh) (hb : ∀ k, k < P.length → blockB (hidB bw nw nh k) (P.getD k []) = true) : planeB bw bh nw nh P = true := by
  unfold planeB
  rw [Bool.and_eq_true]
  exact ⟨decide_eq_true h, List.all_eq_true.2 (fun k hk => hb k (by simpa using hk))⟩
theorem plane_bad {bw bh nw nh : Nat} {P : List (List Int)} (k : Nat) (hk : k < P.length) (hb : blockB (hidB bw nw nh k) (P.getD k []) = false) : planeB bw bh nw nh P = false := by
  cases h : planeB bw bh nw nh P with
  | false => rfl
  | true =>
    unfold planeB at h
    rw [Bool.and_eq_true] at h
    have := List.all_eq_true.1 h.2 k (by simpa using hk)
    rw [hb] at this
    exact this.symm
theorem plane_short {bw bh nw nh : Nat} {P : List (List Int)} (h : P.length ≠ bw * bh) : planeB bw bh nw nh P = false := by
  unfold planeB
  rw [decide_eq_false h, Bool.false_and]
theorem hid_spot {bw nw nh r c : Nat} (hc : c < bw) : hidB bw nw nh (r * bw + c) = (decide (nh ≤ r) || decide (nw ≤ c)) := by
  unfold hidB
  have h1 : (r * bw + c) / bw = r := by rw [Nat.mul_comm, Nat.mul_add_div (by omega), Nat.div_eq_of_lt hc]; omega
  have h2 : (r * bw + c) % bw = c := by rw [Nat.mul_comm, Nat.mul_add_mod, Nat.mod_eq_of_lt hc]
  rw [h1, h2]
theorem zero_same {xs : List Int} (h : xs.length = 64) : (xs == zs64) = zeroB xs := by
  rw [Bool.eq_iff_iff, beq_iff_eq]
  unfold zeroB
  rw [List.all_eq_true]
  constructor
  · rintro rfl x hx
    have := List.eq_of_mem_replicate hx
    simp [this]
  · intro hx
    unfold zs64
    rw [List.eq_replicate_iff]
    exact ⟨h, fun b hb => by simpa using hx b hb⟩

end Go.Proofs.YtjkokbijnaodnaaGreat

namespace Go.Proofs.YtjkokbijnaodnaaGreat
open Go.RowKit Go.Shelf

attribute [local go_sem] Oper.semAt_some

theorem load_rowR {F : Fence} {n : Nat} {P : Program} {ops : Array Oper} {rest : List Oper} {op : Oper} {a : Act} {w : World} {Q : Exit → Act → World → Prop} (hw : Region.wanted op (yielded ops a.tmps) = true) (ty : TypeId) (x : Operand) (ho : op.op = .load ty x)
    (b : Nat) (hx : a.eval x = .pointer (some ⟨b, 0, none⟩)) (X : Array Value) (t : TypeId) (hb : w.heap[b]? = some (.cells X t (0, 0))) (d : TypeDesc)
    (hu : P.underlying ty = some d) (hd : (match d with | .struct _ | .array _ _ => true | _ => false) = true) (hi : (P.info? ty).map (·.size) = some X.size)
    (h : wpListIn F n P ops Q rest (a.put op.dst (.agg X)) w) : wpListIn F n P ops Q (op :: rest) a w :=
  BigFrame.wpListIn_want hw fun K hK => by
    refine ⟨fun f hf => ?_, ?_⟩
    · simp [Oper.about, ho] at hf
    · rw [Oper.semAt_eq _ _ _ (by simp [ho]), exec_row ty x ho b hx X t hb d hu hd hi]
      exact hK _ _ h

/-- An operation whose guard is not met, inside of a round. -/
theorem skip_in {l n : Nat} {P : Program} {ops : Array Oper} {rest : List Oper} {op : Oper} {a : Act} {w : World} {Q : Exit → Act → World → Prop} (hw : Region.wanted op (yielded ops a.tmps) = false) (h : wpListIn (Fence.wide.inRound l) n P ops Q rest (a.put op.dst undef) w) : wpListIn (Fence.wide.inRound l) n P ops Q (op :: rest) a w :=
  wpListIn_step (fun K hK => by rw [hw]; exact ⟨fun _ _ => trivial, hK _ _ h⟩)

end Go.Proofs.YtjkokbijnaodnaaGreat

namespace Go.Proofs.YtjkokbijnaodnaaGreat
open Go.RowKit Go.Shelf

attribute [local go_sem] Oper.semAt_some

theorem load_bool {w : World} {g : Nat} {v : Value} (hc : w.cell? ⟨g, 0, none⟩ = some v) : (loadVar 4 ⟨g, 0, none⟩).run Tryz.prog w = .ok v w := by
  have hg : (isAgg 4).run Tryz.prog w = .ok false w := by
    unfold isAgg
    rw [Sem.run_bind, run_underlying Tryz.underlying4 w]
    rfl
  simp [loadVar, hg, go_sem, hc]

set_option maxRecDepth 100000 in
set_option maxHeartbeats 6400000 in
theorem fillPlanes (X : Array Value) (p wd ht rs : Int) (n : Nat) (C : Nat → Nat → Int) (hX : Fx X p wd ht rs n C) (hg : Geo wd ht n C (mostA 1 C 1 n) (mostA 1 C 2 n)) (gv : Value) (G : List Gd) (F : List Nat) (w : World) (hO : OwGr w gv G F) (hF : F.Nodup) (hl : G.length = n) (c : Nat) (hc : c < n) (L : List (List Int)) (hGc : G.getD c (0, 0, []) = (bwG wd n C c, bhG ht n C c, L)) (hL : L.length = bwG wd n C c * bhG ht n C c)
    (B : World) (hB : B.grownBy w none) (hFB : ∀ x ∈ F, B.heap.size ≤ x) (bv : Value) (P : List (List Int)) (hP : Rd2 B bv P) (t : Bool) (HT : Hid (planeB (bwG wd n C c) (bhG ht n C c) (nwG wd n C c) (nhG ht n C c) P = t)) :
    Calls Tryz.prog 79 #[.agg (plV X gv), .int .i64 (c : Int), bv] w fun e w' => e = .returned (.bool t) ∧ (∃ g ∈ F, Wr [g] w w') ∧ (t = true → ∃ F', OwGr w' gv (G.set c (bwG wd n C c, bhG ht n C c, P)) F' ∧ F'.Nodup ∧ ∀ x ∈ F', x ∈ F) := by
  have hd := dims_of hg c hc
  have hs := hX.size
  obtain ⟨po, pc, rfl, hPr⟩ := hP
  obtain ⟨gr, gcap, g, gc, rfl, q0, q1, q2, tg, hgr, hgF, hne, turn⟩ := grid_at hO hF c (by omega)
  rw [hGc] at q0 q1 q2 tg turn
  dsimp only at q0 q1 q2 tg turn
  have hwd := hd.bw1
  have hht := hd.bh1
  have hgl := okGr.lt _ _ _ _ hO g hgF
  have hgB := hFB g hgF
  have hBw := hB.size
  have hmul : bwG wd n C c * bhG ht n C c ≤ 128 * 128 := Nat.mul_le_mul hwd.2 hht.2
  have HX := hide hX
  have HGE := hide hg
  have HSX := hide hs
  have HD := hide hd
  generalize hbw : bwG wd n C c = bw at *
  generalize hbh : bhG ht n C c = bh at *
  have HBW := hide hbw
  have HBH := hide hbh
  rw [hl] at turn ⊢
  clear hX hg hs hO hF hd hbw hbh hGc
  obtain ⟨W4, hW4⟩ : ∃ W4, (((w.alloc (.cells (plV X (.slice (some ⟨gr, 0, none⟩) n gcap)) 105)).alloc (.cells #[.int .i64 (c : Int)] 3)).alloc (.cells #[.slice po P.length pc] 25)).alloc (.cells #[.bool false] 4) = W4 := ⟨_, rfl⟩
  have G4 : w.grownBy W4 none := by rw [← hW4]; exact grown_alloc (grown_alloc (grown_alloc (World.grownBy_alloc _ _ _) _) _) _
  have s4 : W4.heap.size = w.heap.size + 4 := by rw [← hW4]; simp
  have p3 : W4.heap[w.heap.size]? = some (.cells (plV X (.slice (some ⟨gr, 0, none⟩) n gcap)) 105 (0, 0)) := by
    rw [← hW4, Below.heap_alloc _ _ _ (by simp <;> omega), Below.heap_alloc _ _ _ (by simp <;> omega), Below.heap_alloc _ _ _ (by simp)]; exact heap_alloc_new w _
  have p4 : W4.heap[w.heap.size + 1]? = some (.cells #[.int .i64 (c : Int)] 3 (0, 0)) := by
    rw [← hW4, Below.heap_alloc _ _ _ (by simp <;> omega), Below.heap_alloc _ _ _ (by simp)]
    have := heap_alloc_new (w.alloc (.cells (plV X (.slice (some ⟨gr, 0, none⟩) n gcap)) 105)) (.cells #[.int .i64 (c : Int)] 3)
    simpa using this
  have p5 : W4.heap[w.heap.size + 1 + 1]? = some (.cells #[.slice po P.length pc] 25 (0, 0)) := by
    rw [← hW4, Below.heap_alloc _ _ _ (by simp)]
    have := heap_alloc_new ((w.alloc (.cells (plV X (.slice (some ⟨gr, 0, none⟩) n gcap)) 105)).alloc (.cells #[.int .i64 (c : Int)] 3)) (.cells #[.slice po P.length pc] 25)
    simpa using this
  have p6 : W4.heap[w.heap.size + 1 + 1 + 1]? = some (.cells #[.bool false] 4 (0, 0)) := by
    rw [← hW4]
    have := heap_alloc_new (((w.alloc (.cells (plV X (.slice (some ⟨gr, 0, none⟩) n gcap)) 105)).alloc (.cells #[.int .i64 (c : Int)] 3)).alloc (.cells #[.slice po P.length pc] 25)) (.cells #[.bool false] 4)
    simpa using this
  have k3 := (pl_grids (unhide HSX) p3).1
  have k4 : W4.cell? ⟨w.heap.size + 1, 0, none⟩ = some (.int .i64 (c : Int)) := by rw [cell_of_row W4 _ 0 _ _ (0, 0) p4]; rfl
  have QM := hide (grid_mid (G4.cell q0 (by simp)) (G4.cell q1 (by simp)) (G4.cell q2 (by simp)))
  have T4 := hide (tg.grown G4)
  have TURN := hide turn
  have HG4 := hide G4
  have HW4 := hide hW4
  have P3 := hide p3
  have P4 := hide p4
  have P5 := hide p5
  have P6 := hide p6
  have HPR := hide hPr
  have HBg := hide hB
  have HB7 := hide (heap_alloc_new W4 (.cells #[.int .i64 0, .int .i64 0, .slice none 0 0] 131))
  have i0 : (0 : Int) ≤ (c : Int) := by omega
  have i1 : (c : Int) < (n : Int) := by omega
  have HS4 := hide s4
  have HLL := hide hL
  clear q0 q1 q2 tg turn G4 hW4 p3 p4 p5 p6 hPr hB s4 hL
  refine (callsIn_wide (n := 0)).1 ?_
  refine callsIn_of_wp_marks Tryz.func79 rfl trivial ?_ rfl
  refine wpIn_wide.2 ?_
  simp only [Tryz.ntmps79, List.size_toArray, List.length_cons, List.length_nil, Nat.reduceAdd, Nat.reduceSub, Array.replicate_succ, Array.replicate_zero, List.push_toArray, List.append_toArray, List.nil_append, List.cons_append]
  go_wp2_with (first | (rw [unhide HW4]; refine load_one rfl _ _ rfl w.heap.size 21 rfl (.slice (some ⟨gr, 0, none⟩) n gcap) k3 _ Tryz.underlying103 rfl ?_) | (refine load_mid rfl 131 _ rfl gr (c * 3) rfl #[.int .i64 (bw : Int), .int .i64 (bh : Int), .slice (some ⟨g, 0, none⟩) L.length gc] (unhide QM) _ Tryz.underlying131 rfl (by kernel_rfl) ?_) | (refine store_row rfl 131 _ _ rfl W4.heap.size rfl #[.int .i64 (bw : Int), .int .i64 (bh : Int), .slice (some ⟨g, 0, none⟩) L.length gc] rfl _ 131 (unhide HB7) rfl (by kernel_rfl) (by simp [Value.oneCell']) ?_; intro w5 hB5 g5))
  have g05 : W4.grownBy w5 none := grown_new (World.grownBy_alloc W4 (.cells #[.int .i64 0, .int .i64 0, .slice none 0 0] 131) none) g5 (fun q e => by simp at e; omega)
  clear g5 HB7 HW4 QM k3 k4
  have s4 := unhide HS4
  have e5 := g05.size
  have d5 : W4.grownBy w5.drew none := grown_drew g05
  have B5 : Hid (w5.drew.heap[W4.heap.size]? = some (.cells #[.int .i64 (bw : Int), .int .i64 (bh : Int), .slice (some ⟨g, 0, none⟩) L.length gc] 131 (0, 0))) := hB5
  have l5 : W4.heap.size < w5.drew.heap.size := (Array.getElem?_eq_some_iff.1 hB5).1
  have c5 : Hid (w5.drew.cell? ⟨w.heap.size + 1 + 1, 0, none⟩ = some (.slice po P.length pc)) := by unfold Hid; rw [cell_of_row _ _ 0 _ _ (0, 0) (grown_atT d5 (unhide P5) (by simp))]; rfl
  have c70 : Hid (w5.drew.cell? ⟨W4.heap.size, 0, none⟩ = some (.int .i64 (bw : Int))) := by unfold Hid; rw [cell_of_row _ _ 0 _ _ (0, 0) (unhide B5)]; rfl
  have c71 : Hid (w5.drew.cell? ⟨W4.heap.size, 0 + 1, none⟩ = some (.int .i64 (bh : Int))) := by unfold Hid; rw [cell_of_row _ _ 1 _ _ (0, 0) (unhide B5)]; rfl
  clear s4
  refine wp_region_noPanic ?_
  refine wp_region_tailL 20 (fun W => w5.drew.grownBy W none) [true, true, true, true, false, false] (by kernel_rfl) (fun _ _ _ _ _ h => h) rfl (by decide) (by kernel_rfl) (World.grownBy.refl _ _) ?_
  generalize w5.drew = w6 at *
  clear hB5 g05 e5
  refine heldF_take (v := ?_) (Or.inl ⟨by rfl, ?_⟩) ?_
  rotate_left 1
  · intro w' hSw
    have cc := hSw.cell (unhide c5) (by simp)
    go_simp
    try with_reducible rfl
  simp only [Act.put, List.setIfInBounds_toArray, List.set_cons_zero, List.set_cons_succ]
  iterate 2
    refine heldF_take (v := ?_) (Or.inl ⟨by rfl, ?_⟩) ?_
    rotate_left 1
    · intro w' hSw
      go_simp
      try with_reducible rfl
    simp only [Act.put, List.setIfInBounds_toArray, List.set_cons_zero, List.set_cons_succ]
  refine heldF_take (v := .agg #[.int .i64 (bw : Int), .int .i64 (bh : Int)]) (Or.inl ⟨by rfl, ?_⟩) ?_
  · intro w' hSw
    exact exec_mid 128 _ rfl W4.heap.size 0 rfl _ (area_mid (hSw.cell (unhide c70) (by simp)) (hSw.cell (unhide c71) (by simp))) _ Tryz.underlying128 rfl (by kernel_rfl)
  simp only [Act.put, List.setIfInBounds_toArray, List.set_cons_zero, List.set_cons_succ]
  refine heldF_skip (heldF_skip (heldF_nil ?_))
  refine tailL_skip (tailL_skip (tailL_skip (tailL_skip ?_)))
  refine tailL_step (fun K hK => ?_)
  go_simp
  refine (areaCount (bw : Int) (bh : Int) (by omega) (by omega) w6).mono ?_
  rintro e w7 ⟨rfl, g7⟩
  refine hK.out _ _ (.inr g7) ?_
  clear hK K
  try simp only [Act.put, List.setIfInBounds_toArray, List.set_cons_zero, List.set_cons_succ]
  have d7 := grown_trans d5 g7
  have e7 := g7.size
  have cr : w7.cell? ⟨w.heap.size + 1 + 1 + 1, 0, none⟩ = some (.bool false) := by rw [cell_of_row _ _ 0 _ _ (0, 0) (grown_atT d7 (unhide P6) (by simp))]; rfl
  have fr := frozen_of_row w7 (w.heap.size + 1 + 1 + 1) 0 _ _ (grown_atT d7 (unhide P6) (by simp))
  have k70 := g7.cell (unhide c70) (by simp)
  have k71 := g7.cell (unhide c71) (by simp)
  simp only [Nat.zero_add] at k71
  refine tailL_step (fun K hK => ?_)
  by_cases hPL : P.length = bw * bh
  · have hpl : ((P.length : Int) != (bw : Int) * (bh : Int)) = false := by simp [hPL]
    have HPL := hide hPL
    clear hPL
    go_simp
    refine hK.out _ _ (.inl rfl) (tailL_nil (NoPanic.normal ?_))
    clear hK K hpl cr fr
    have T7 := hide ((unhide T4).grown d7)
    have B7 := hide (grown_atT g7 (unhide B5) (by simp))
    clear T4 B5 c5 c70 c71
    go_wp2_with fail
    refine (callsIn_wide.1 (spots_in Fence.wide 0 trivial rfl _ _ _)).mono ?_
    rintro e w' ⟨rfl, rfl⟩
    obtain ⟨w8, hw8⟩ : ∃ w8, w7.alloc (.cells #[.int .i64 (bw : Int), .int .i64 (bh : Int)] 128) = w8 := ⟨_, rfl⟩
    have g8 : w7.grownBy w8 none := by rw [← hw8]; exact World.grownBy_alloc _ _ _
    have s8 : w8.heap.size = w7.heap.size + 1 := by rw [← hw8]; simp
    have ba8 : w8.heap[w7.heap.size]? = some (.cells #[.int .i64 (bw : Int), .int .i64 (bh : Int)] 128 (0, 0)) := by rw [← hw8]; exact heap_alloc_new _ _
    rw [hw8]
    have d8 := grown_trans d7 g8
    have T8 := hide ((unhide T7).grown g8)
    have B8 := hide (grown_atT g8 (unhide B7) (by simp))
    have R8 := hide (grown_atT d8 (unhide P6) (by simp))
    have P38 := hide (grown_atT d8 (unhide P3) (by simp))
    have P48 := hide (grown_atT d8 (unhide P4) (by simp))
    have P58 := hide (grown_atT d8 (unhide P5) (by simp))
    have BA8 := hide ba8
    have D8 := hide d8
    clear hw8 g8 T7 B7 k70 k71 d7 d5 g7 ba8 d8
    go_wp2
    refine (wpIn_wide (n := 0)).1 ?_
    refine rangeFunc_stops (gf := 110) (lb := #[.pointer (some ⟨w7.heap.size, 0, none⟩)]) (O := fun k => k = g ∨ k = w.heap.size + 1 + 1 + 1) rfl (enters_of Tryz.func110 (by kernel_rfl) rfl) (fun k hk => by have s4 := unhide HS4; omega)
      (spots_stops w7.heap.size bw bh (by omega) (by omega) _ w8 (unhide BA8) (fun e => by have s4 := unhide HS4; omega)) (fun _ => rfl)
      (fun pre W => Th_gridrows W g (mixL P L pre.length) ∧ (∀ k, k < pre.length → blockB (hidB bw (nwG wd n C c) (nhG ht n C c) k) (P.getD k []) = true) ∧ W.heap[w.heap.size + 1 + 1 + 1]? = some (.cells #[.bool false] 4 (0, 0)))
      (fun pre W W' h hk => ⟨h.1.same (hk g (.inl rfl)), h.2.1, (hk _ (.inr rfl)).trans h.2.2⟩)
      (fun W => t = false ∧ W.heap[w.heap.size + 1 + 1 + 1]? = some (.cells #[.bool false] 4 (0, 0)))
      (fun W W' h hk => ⟨h.1, (hk _ (.inr rfl)).trans h.2⟩)
      ⟨by rw [List.length_nil, mixL_zero]; exact unhide T8, fun k hk => by simp at hk, unhide R8⟩ ?a1 ?assign ?body ?done ?stop
    case assign =>
      intro l' mm x Wa K hK
      gi_wp2
      exact hK
    case body =>
      intro l' mm pre x Wa hI hb hlen
      obtain ⟨hk1, hk2, hk3⟩ := spot_num hlen
      have hkl := spot_less hlen
      obtain ⟨r, cc⟩ := x
      dsimp only at hk1 hk2 hk3 ⊢
      obtain ⟨hTa, hok, hRa⟩ := hI
      have s4 := unhide HS4
      have hkP : pre.length < P.length := by have := unhide HPL; rw [this, Nat.mul_comm]; exact hkl
      have BW8 : B.grownBy w8 none := grown_trans (unhide HBg) (grown_trans (unhide HG4) (unhide D8))
      have BWa : B.grownBy Wa none := ⟨hb.os.trans BW8.os, hb.tape.trans BW8.tape, hb.output.trans BW8.output, Nat.le_trans BW8.size hb.size, fun q hq _ => (hb.block q (by have := BW8.size; omega) (fun e => by omega)).trans (BW8.block q hq (by simp))⟩
      obtain ⟨pb, poff, u, rfl, cu, uo, uc, rfl, ru⟩ := unhide HPR pre.length hkP
      obtain ⟨zs, HZS⟩ : ∃ zs, Hid (P.getD pre.length [] = zs) := ⟨_, rfl⟩
      have ezs : P[pre.length] = zs := by rw [← unhide HZS]; simp [hkP]
      rw [ezs] at cu ru
      obtain ⟨un, HUN⟩ : ∃ un, Hid (zs.length = un) := ⟨_, rfl⟩
      rw [unhide HUN] at cu ru
      clear ezs
      have CU := hide (BWa.cell cu (by simp))
      have RU := hide (ru.grown BWa)
      have X3 := hide ((hb.block w.heap.size (by omega) (fun e => by omega)).trans (unhide P38))
      have X4 := hide ((hb.block (w.heap.size + 1) (by omega) (fun e => by omega)).trans (unhide P48))
      have X5 := hide ((hb.block (w.heap.size + 1 + 1) (by omega) (fun e => by omega)).trans (unhide P58))
      have X7 := hide ((hb.block W4.heap.size (by omega) (fun e => by omega)).trans (unhide B8))
      obtain ⟨okb, HOK⟩ : ∃ okb, Hid (levB (-16383) 16383 zs = okb) := ⟨_, rfl⟩
      have j0 : (0 : Int) ≤ (pre.length : Int) := by omega
      have j1 : (pre.length : Int) < (P.length : Int) := by omega
      have hsz : w8.heap.size ≤ Wa.heap.size := hb.size
      have HTA := hide hTa
      have HRA := hide hRa
      have HOKS := hide hok
      have HBA := hide hb
      have HLEN := hide hlen
      have HK1 := hide hk1
      have HKP := hide hkP
      have HSZ := hide hsz
      clear hTa hRa hok hb hlen hk1 hkP cu ru BW8 BWa hsz s4 hkl
      gi_wp2
      refine wpIn_mono (Q := fun e a' W' => e = .normal ∧ ∃ b ys, a' = { tmps := #[.agg (plV X (.slice (some ⟨gr, 0, none⟩) n gcap)), .int .i64 (c : Int), .slice (some ⟨pb, poff, none⟩) P.length pc, .pointer (some ⟨w.heap.size, 0, none⟩), .pointer (some ⟨w.heap.size + 1, 0, none⟩), .pointer (some ⟨w.heap.size + 1 + 1, 0, none⟩), .pointer (some ⟨w.heap.size + 1 + 1 + 1, 0, none⟩), .pointer (some ⟨W4.heap.size, 0, none⟩), .int .i64 (r : Int), .int .i64 (cc : Int), .pointer (some ⟨b, 0, none⟩), .bool okb, .pointer (some ⟨w.heap.size, 21, none⟩), .slice (some ⟨gr, 0, none⟩) n gcap, .int .i64 (c : Int), .pointer (some ⟨gr, c * 3, none⟩), .agg #[.int .i64 (bw : Int), .int .i64 (bh : Int), .slice (some ⟨g, 0, none⟩) L.length gc], .slice (some ⟨pb, poff, none⟩) P.length pc, .int .i64 (P.length : Int), .pointer (some ⟨W4.heap.size, 0, none⟩), .agg #[.int .i64 (bw : Int), .int .i64 (bh : Int)], .int .i64 ((bw : Int) * (bh : Int)), .bool false, .pointer (some ⟨W4.heap.size, 0, none⟩), .agg #[.int .i64 (bw : Int), .int .i64 (bh : Int)], .func (.func 110) #[] #[.pointer (some ⟨w7.heap.size, 0, none⟩)], .int .i64 (r : Int), .int .i64 (cc : Int), .tuple #[.agg (sq ys), .bool okb], .slice (some ⟨pb, poff, none⟩) P.length pc, .agg #[.int .i64 (bw : Int), .int .i64 (bh : Int), .slice (some ⟨g, 0, none⟩) L.length gc], .int .i64 (r : Int), .int .i64 (cc : Int), .int .i64 (pre.length : Int), .pointer (some ⟨pb, poff + pre.length, none⟩), .slice uo un uc, .tuple #[.agg (sq ys), .bool okb], .agg (sq ys), .bool okb, undef, undef, undef, undef, undef, undef, undef, undef, undef, undef, undef, undef, undef, undef, undef, undef, undef, undef, undef, undef, undef], defers := [] } ∧ ys.length = 64 ∧ (un = 64 → ys = zs) ∧ W'.heap[b]? = some (.cells (sq ys) 116 (0, 0)) ∧ Wa.heap.size ≤ b ∧ Wa.grownBy W' none) ?region ?rest
      case region =>
        refine wpIn_raw (fun W => Wa.drew.grownBy W none) [true, true, true, true, false, false, false, false, false, false, false, false, false, false] (by kernel_rfl) (fun a' W' h => by cases h.1) (fun c' a' d' v' W' h => by cases h.1) rfl (by rfl) (by kernel_rfl) (World.grownBy.refl _ _) ?_
        have gd : Wa.grownBy Wa.drew none := grown_drew (World.grownBy.refl _ _)
        have x5 : Hid (Wa.drew.cell? ⟨w.heap.size + 1 + 1, 0, none⟩ = some (.slice (some ⟨pb, poff, none⟩) P.length pc)) := by unfold Hid; rw [cell_of_row _ _ 0 _ _ (0, 0) (grown_atT gd (unhide X5) (by simp))]; rfl
        have x7 := hide (grown_atT gd (unhide X7) (by simp))
        have cu := hide (gd.cell (unhide CU) (by simp))
        have ru := hide ((unhide RU).grown gd)
        have HSD : Hid (Wa.drew.heap.size = Wa.heap.size) := rfl
        generalize Wa.drew = Wd at *
        refine heldF_take (v := ?_) (Or.inl ⟨by rfl, ?_⟩) ?_
        rotate_left 1
        · intro w' hSw
          have c5 := hSw.cell (unhide x5) (by simp)
          go_simp
          try with_reducible rfl
        simp only [Act.put, List.setIfInBounds_toArray, List.set_cons_zero, List.set_cons_succ]
        refine heldF_take (v := .agg #[.int .i64 (bw : Int), .int .i64 (bh : Int), .slice (some ⟨g, 0, none⟩) L.length gc]) (Or.inl ⟨by rfl, ?_⟩) ?_
        · intro w' hSw
          exact exec_row 131 _ rfl W4.heap.size rfl _ _ (grown_atT hSw (unhide x7) (by simp)) _ Tryz.underlying131 rfl (by kernel_rfl)
        simp only [Act.put, List.setIfInBounds_toArray, List.set_cons_zero, List.set_cons_succ]
        refine heldF_take (v := ?_) (Or.inl ⟨by rfl, ?_⟩) ?_
        rotate_left 1
        · intro w' hSw
          go_simp
          try with_reducible rfl
        simp only [Act.put, List.setIfInBounds_toArray, List.set_cons_zero, List.set_cons_succ]
        refine heldF_take (v := ?_) (Or.inl ⟨by rfl, ?_⟩) ?_
        rotate_left 1
        · intro w' hSw
          go_simp
          try with_reducible rfl
        simp only [Act.put, List.setIfInBounds_toArray, List.set_cons_zero, List.set_cons_succ]
        refine heldF_skip (heldF_skip (heldF_skip (heldF_skip (heldF_skip (heldF_skip (heldF_skip (heldF_skip (heldF_skip (heldF_skip (heldF_nil ?_))))))))))
        refine anyH_step2 (i := 4) (j := 11) rfl rfl (by kernel_rfl) (fun K hK => ?_) (fun K hK => ?_)
        · skip
          go_simp
          refine (gridIndex bw r cc _ _ (by omega) (by omega) (by omega) pre.length HK1 Wd).mono ?_
          rintro e w1 ⟨rfl, gi⟩
          have gw1 := gi
          clear gi
          refine hK.out _ _ gw1 ?_
          clear hK K
          try simp only [Act.put, List.setIfInBounds_toArray, List.set_cons_zero, List.set_cons_succ]
          refine anyH_take (i := 5) (v := ?_) rfl (by kernel_rfl) (fun _ _ _ h => by cases h.1) (Or.inl ⟨by rfl, ?_⟩) gw1 ?_
          rotate_left 1
          · intro w' hSw
            go_simp
            try with_reducible rfl
          try simp only [Act.put, List.setIfInBounds_toArray, List.set_cons_zero, List.set_cons_succ]
          refine anyH_take (i := 6) (v := ?_) rfl (by kernel_rfl) (fun _ _ _ h => by cases h.1) (Or.inl ⟨by rfl, ?_⟩) gw1 ?_
          rotate_left 1
          · intro w' hSw
            have c6 := hSw.cell (unhide cu) (by simp)
            go_simp
            try with_reducible rfl
          try simp only [Act.put, List.setIfInBounds_toArray, List.set_cons_zero, List.set_cons_succ]
          refine anyH_step2 (i := 7) (j := 11) rfl rfl (by kernel_rfl) (fun K hK => ?_) (fun K hK => ?_)
          · skip
            go_simp
            refine (fixLevels uo un uc zs w1 ((unhide ru).grown gw1) okb HOK).mono ?_
            rintro e w2 ⟨⟨ys, rfl, hyl, hyz⟩, gi⟩
            have gw2 := grown_trans gw1 gi
            refine hK.out _ _ gw2 ?_
            clear hK K
            try simp only [Act.put, List.setIfInBounds_toArray, List.set_cons_zero, List.set_cons_succ]
            refine anyH_take (i := 8) (v := ?_) rfl (by kernel_rfl) (fun _ _ _ h => by cases h.1) (Or.inl ⟨by rfl, ?_⟩) gw2 ?_
            rotate_left 1
            · intro w' hSw
              go_simp
              try with_reducible rfl
            try simp only [Act.put, List.setIfInBounds_toArray, List.set_cons_zero, List.set_cons_succ]
            refine anyH_take (i := 9) (v := ?_) rfl (by kernel_rfl) (fun _ _ _ h => by cases h.1) (Or.inl ⟨by rfl, ?_⟩) gw2 ?_
            rotate_left 1
            · intro w' hSw
              go_simp
              try with_reducible rfl
            try simp only [Act.put, List.setIfInBounds_toArray, List.set_cons_zero, List.set_cons_succ]
            refine anyH_take (i := 10) (v := ?_) rfl (by kernel_rfl) (fun _ _ _ h => by cases h.1) (Or.inl ⟨by rfl, ?_⟩) gw2 ?_
            rotate_left 1
            · intro w' hSw
              go_simp
              try with_reducible rfl
            try simp only [Act.put, List.setIfInBounds_toArray, List.set_cons_zero, List.set_cons_succ]
            refine anyH_step1 (i := 11) rfl (by kernel_rfl) (fun K hK => ?_)
            go_simp
            have baw3 := heap_alloc_new w2 (.cells #[.int .i64 0, .int .i64 0, .int .i64 0, .int .i64 0, .int .i64 0, .int .i64 0, .int .i64 0, .int .i64 0, .int .i64 0, .int .i64 0, .int .i64 0, .int .i64 0, .int .i64 0, .int .i64 0, .int .i64 0, .int .i64 0, .int .i64 0, .int .i64 0, .int .i64 0, .int .i64 0, .int .i64 0, .int .i64 0, .int .i64 0, .int .i64 0, .int .i64 0, .int .i64 0, .int .i64 0, .int .i64 0, .int .i64 0, .int .i64 0, .int .i64 0, .int .i64 0, .int .i64 0, .int .i64 0, .int .i64 0, .int .i64 0, .int .i64 0, .int .i64 0, .int .i64 0, .int .i64 0, .int .i64 0, .int .i64 0, .int .i64 0, .int .i64 0, .int .i64 0, .int .i64 0, .int .i64 0, .int .i64 0, .int .i64 0, .int .i64 0, .int .i64 0, .int .i64 0, .int .i64 0, .int .i64 0, .int .i64 0, .int .i64 0, .int .i64 0, .int .i64 0, .int .i64 0, .int .i64 0, .int .i64 0, .int .i64 0, .int .i64 0, .int .i64 0] 116)
            have gw3 : Wd.grownBy (w2.alloc (.cells #[.int .i64 0, .int .i64 0, .int .i64 0, .int .i64 0, .int .i64 0, .int .i64 0, .int .i64 0, .int .i64 0, .int .i64 0, .int .i64 0, .int .i64 0, .int .i64 0, .int .i64 0, .int .i64 0, .int .i64 0, .int .i64 0, .int .i64 0, .int .i64 0, .int .i64 0, .int .i64 0, .int .i64 0, .int .i64 0, .int .i64 0, .int .i64 0, .int .i64 0, .int .i64 0, .int .i64 0, .int .i64 0, .int .i64 0, .int .i64 0, .int .i64 0, .int .i64 0, .int .i64 0, .int .i64 0, .int .i64 0, .int .i64 0, .int .i64 0, .int .i64 0, .int .i64 0, .int .i64 0, .int .i64 0, .int .i64 0, .int .i64 0, .int .i64 0, .int .i64 0, .int .i64 0, .int .i64 0, .int .i64 0, .int .i64 0, .int .i64 0, .int .i64 0, .int .i64 0, .int .i64 0, .int .i64 0, .int .i64 0, .int .i64 0, .int .i64 0, .int .i64 0, .int .i64 0, .int .i64 0, .int .i64 0, .int .i64 0, .int .i64 0, .int .i64 0] 116)) none := grown_alloc gw2 _
            obtain ⟨b, hbe⟩ : ∃ b, w2.heap.size = b := ⟨_, rfl⟩
            have hlo : Wd.heap.size ≤ b := by rw [← hbe]; exact gw2.size
            rw [hbe] at baw3 ⊢
            generalize w2.alloc (.cells #[.int .i64 0, .int .i64 0, .int .i64 0, .int .i64 0, .int .i64 0, .int .i64 0, .int .i64 0, .int .i64 0, .int .i64 0, .int .i64 0, .int .i64 0, .int .i64 0, .int .i64 0, .int .i64 0, .int .i64 0, .int .i64 0, .int .i64 0, .int .i64 0, .int .i64 0, .int .i64 0, .int .i64 0, .int .i64 0, .int .i64 0, .int .i64 0, .int .i64 0, .int .i64 0, .int .i64 0, .int .i64 0, .int .i64 0, .int .i64 0, .int .i64 0, .int .i64 0, .int .i64 0, .int .i64 0, .int .i64 0, .int .i64 0, .int .i64 0, .int .i64 0, .int .i64 0, .int .i64 0, .int .i64 0, .int .i64 0, .int .i64 0, .int .i64 0, .int .i64 0, .int .i64 0, .int .i64 0, .int .i64 0, .int .i64 0, .int .i64 0, .int .i64 0, .int .i64 0, .int .i64 0, .int .i64 0, .int .i64 0, .int .i64 0, .int .i64 0, .int .i64 0, .int .i64 0, .int .i64 0, .int .i64 0, .int .i64 0, .int .i64 0, .int .i64 0] 116) = w3 at *
            clear hbe
            refine hK.out _ _ gw3 ?_
            clear hK K
            try simp only [Act.put, List.setIfInBounds_toArray, List.set_cons_zero, List.set_cons_succ]
            refine anyH_step1 (i := 12) rfl (by kernel_rfl) (fun K hK => ?_)
            refine step_store_row (by rfl) 116 _ _ rfl b rfl (sq ys) rfl #[.int .i64 0, .int .i64 0, .int .i64 0, .int .i64 0, .int .i64 0, .int .i64 0, .int .i64 0, .int .i64 0, .int .i64 0, .int .i64 0, .int .i64 0, .int .i64 0, .int .i64 0, .int .i64 0, .int .i64 0, .int .i64 0, .int .i64 0, .int .i64 0, .int .i64 0, .int .i64 0, .int .i64 0, .int .i64 0, .int .i64 0, .int .i64 0, .int .i64 0, .int .i64 0, .int .i64 0, .int .i64 0, .int .i64 0, .int .i64 0, .int .i64 0, .int .i64 0, .int .i64 0, .int .i64 0, .int .i64 0, .int .i64 0, .int .i64 0, .int .i64 0, .int .i64 0, .int .i64 0, .int .i64 0, .int .i64 0, .int .i64 0, .int .i64 0, .int .i64 0, .int .i64 0, .int .i64 0, .int .i64 0, .int .i64 0, .int .i64 0, .int .i64 0, .int .i64 0, .int .i64 0, .int .i64 0, .int .i64 0, .int .i64 0, .int .i64 0, .int .i64 0, .int .i64 0, .int .i64 0, .int .i64 0, .int .i64 0, .int .i64 0, .int .i64 0] 116 baw3 (by rw [sq_size, hyl]; rfl) (by rw [sq_size, hyl]; kernel_rfl) (sq_one _) ?_
            intro w9 hB9 g9
            have gw9 : Wd.grownBy w9 none := grown_new gw3 g9 (fun q e => by simp at e; omega)
            refine hK.out _ _ gw9 ?_
            clear hK K
            simp only [Act.put]
            refine anyH_step1 (i := 13) rfl (by kernel_rfl) (fun K hK => ?_)
            go_simp
            refine hK.out _ _ gw9 ?_
            clear hK K
            try simp only [Act.put, List.setIfInBounds_toArray, List.set_cons_zero, List.set_cons_succ]
            refine wpAnyH_done (by kernel_rfl) ?_ _
            exact ⟨rfl, b, ys, rfl, hyl, hyz, hB9, by have := unhide HSD; omega, grown_trans gd gw9⟩
          · skip
            go_simp
            have baw2 := heap_alloc_new w1 (.cells #[.int .i64 0, .int .i64 0, .int .i64 0, .int .i64 0, .int .i64 0, .int .i64 0, .int .i64 0, .int .i64 0, .int .i64 0, .int .i64 0, .int .i64 0, .int .i64 0, .int .i64 0, .int .i64 0, .int .i64 0, .int .i64 0, .int .i64 0, .int .i64 0, .int .i64 0, .int .i64 0, .int .i64 0, .int .i64 0, .int .i64 0, .int .i64 0, .int .i64 0, .int .i64 0, .int .i64 0, .int .i64 0, .int .i64 0, .int .i64 0, .int .i64 0, .int .i64 0, .int .i64 0, .int .i64 0, .int .i64 0, .int .i64 0, .int .i64 0, .int .i64 0, .int .i64 0, .int .i64 0, .int .i64 0, .int .i64 0, .int .i64 0, .int .i64 0, .int .i64 0, .int .i64 0, .int .i64 0, .int .i64 0, .int .i64 0, .int .i64 0, .int .i64 0, .int .i64 0, .int .i64 0, .int .i64 0, .int .i64 0, .int .i64 0, .int .i64 0, .int .i64 0, .int .i64 0, .int .i64 0, .int .i64 0, .int .i64 0, .int .i64 0, .int .i64 0] 116)
            have gw2 : Wd.grownBy (w1.alloc (.cells #[.int .i64 0, .int .i64 0, .int .i64 0, .int .i64 0, .int .i64 0, .int .i64 0, .int .i64 0, .int .i64 0, .int .i64 0, .int .i64 0, .int .i64 0, .int .i64 0, .int .i64 0, .int .i64 0, .int .i64 0, .int .i64 0, .int .i64 0, .int .i64 0, .int .i64 0, .int .i64 0, .int .i64 0, .int .i64 0, .int .i64 0, .int .i64 0, .int .i64 0, .int .i64 0, .int .i64 0, .int .i64 0, .int .i64 0, .int .i64 0, .int .i64 0, .int .i64 0, .int .i64 0, .int .i64 0, .int .i64 0, .int .i64 0, .int .i64 0, .int .i64 0, .int .i64 0, .int .i64 0, .int .i64 0, .int .i64 0, .int .i64 0, .int .i64 0, .int .i64 0, .int .i64 0, .int .i64 0, .int .i64 0, .int .i64 0, .int .i64 0, .int .i64 0, .int .i64 0, .int .i64 0, .int .i64 0, .int .i64 0, .int .i64 0, .int .i64 0, .int .i64 0, .int .i64 0, .int .i64 0, .int .i64 0, .int .i64 0, .int .i64 0, .int .i64 0] 116)) none := grown_alloc gw1 _
            obtain ⟨b, hbe⟩ : ∃ b, w1.heap.size = b := ⟨_, rfl⟩
            have hlo : Wd.heap.size ≤ b := by rw [← hbe]; exact gw1.size
            rw [hbe] at baw2 ⊢
            generalize w1.alloc (.cells #[.int .i64 0, .int .i64 0, .int .i64 0, .int .i64 0, .int .i64 0, .int .i64 0, .int .i64 0, .int .i64 0, .int .i64 0, .int .i64 0, .int .i64 0, .int .i64 0, .int .i64 0, .int .i64 0, .int .i64 0, .int .i64 0, .int .i64 0, .int .i64 0, .int .i64 0, .int .i64 0, .int .i64 0, .int .i64 0, .int .i64 0, .int .i64 0, .int .i64 0, .int .i64 0, .int .i64 0, .int .i64 0, .int .i64 0, .int .i64 0, .int .i64 0, .int .i64 0, .int .i64 0, .int .i64 0, .int .i64 0, .int .i64 0, .int .i64 0, .int .i64 0, .int .i64 0, .int .i64 0, .int .i64 0, .int .i64 0, .int .i64 0, .int .i64 0, .int .i64 0, .int .i64 0, .int .i64 0, .int .i64 0, .int .i64 0, .int .i64 0, .int .i64 0, .int .i64 0, .int .i64 0, .int .i64 0, .int .i64 0, .int .i64 0, .int .i64 0, .int .i64 0, .int .i64 0, .int .i64 0, .int .i64 0, .int .i64 0, .int .i64 0, .int .i64 0] 116) = w2 at *
            clear hbe
            refine hK.out _ _ gw2 ?_
            clear hK K
            try simp only [Act.put, List.setIfInBounds_toArray, List.set_cons_zero, List.set_cons_succ]
            refine anyH_step1 (i := 7) rfl (by kernel_rfl) (fun K hK => ?_)
            go_simp
            refine (fixLevels uo un uc zs w2 ((unhide ru).grown gw2) okb HOK).mono ?_
            rintro e w3 ⟨⟨ys, rfl, hyl, hyz⟩, gi⟩
            have gw3 := grown_trans gw2 gi
            refine hK.out _ _ gw3 ?_
            clear hK K
            try simp only [Act.put, List.setIfInBounds_toArray, List.set_cons_zero, List.set_cons_succ]
            refine anyH_take (i := 8) (v := ?_) rfl (by kernel_rfl) (fun _ _ _ h => by cases h.1) (Or.inl ⟨by rfl, ?_⟩) gw3 ?_
            rotate_left 1
            · intro w' hSw
              go_simp
              try with_reducible rfl
            try simp only [Act.put, List.setIfInBounds_toArray, List.set_cons_zero, List.set_cons_succ]
            refine anyH_take (i := 9) (v := ?_) rfl (by kernel_rfl) (fun _ _ _ h => by cases h.1) (Or.inl ⟨by rfl, ?_⟩) gw3 ?_
            rotate_left 1
            · intro w' hSw
              go_simp
              try with_reducible rfl
            try simp only [Act.put, List.setIfInBounds_toArray, List.set_cons_zero, List.set_cons_succ]
            refine anyH_take (i := 10) (v := ?_) rfl (by kernel_rfl) (fun _ _ _ h => by cases h.1) (Or.inl ⟨by rfl, ?_⟩) gw3 ?_
            rotate_left 1
            · intro w' hSw
              go_simp
              try with_reducible rfl
            try simp only [Act.put, List.setIfInBounds_toArray, List.set_cons_zero, List.set_cons_succ]
            have baw3 := grown_atT gi baw2 (by simp)
            refine anyH_step1 (i := 12) rfl (by kernel_rfl) (fun K hK => ?_)
            refine step_store_row (by rfl) 116 _ _ rfl b rfl (sq ys) rfl #[.int .i64 0, .int .i64 0, .int .i64 0, .int .i64 0, .int .i64 0, .int .i64 0, .int .i64 0, .int .i64 0, .int .i64 0, .int .i64 0, .int .i64 0, .int .i64 0, .int .i64 0, .int .i64 0, .int .i64 0, .int .i64 0, .int .i64 0, .int .i64 0, .int .i64 0, .int .i64 0, .int .i64 0, .int .i64 0, .int .i64 0, .int .i64 0, .int .i64 0, .int .i64 0, .int .i64 0, .int .i64 0, .int .i64 0, .int .i64 0, .int .i64 0, .int .i64 0, .int .i64 0, .int .i64 0, .int .i64 0, .int .i64 0, .int .i64 0, .int .i64 0, .int .i64 0, .int .i64 0, .int .i64 0, .int .i64 0, .int .i64 0, .int .i64 0, .int .i64 0, .int .i64 0, .int .i64 0, .int .i64 0, .int .i64 0, .int .i64 0, .int .i64 0, .int .i64 0, .int .i64 0, .int .i64 0, .int .i64 0, .int .i64 0, .int .i64 0, .int .i64 0, .int .i64 0, .int .i64 0, .int .i64 0, .int .i64 0, .int .i64 0, .int .i64 0] 116 baw3 (by rw [sq_size, hyl]; rfl) (by rw [sq_size, hyl]; kernel_rfl) (sq_one _) ?_
            intro w9 hB9 g9
            have gw9 : Wd.grownBy w9 none := grown_new gw3 g9 (fun q e => by simp at e; omega)
            refine hK.out _ _ gw9 ?_
            clear hK K
            simp only [Act.put]
            refine anyH_step1 (i := 13) rfl (by kernel_rfl) (fun K hK => ?_)
            go_simp
            refine hK.out _ _ gw9 ?_
            clear hK K
            try simp only [Act.put, List.setIfInBounds_toArray, List.set_cons_zero, List.set_cons_succ]
            refine wpAnyH_done (by kernel_rfl) ?_ _
            exact ⟨rfl, b, ys, rfl, hyl, hyz, hB9, by have := unhide HSD; omega, grown_trans gd gw9⟩
        · skip
          go_simp
          have baw1 := heap_alloc_new Wd (.cells #[.int .i64 0, .int .i64 0, .int .i64 0, .int .i64 0, .int .i64 0, .int .i64 0, .int .i64 0, .int .i64 0, .int .i64 0, .int .i64 0, .int .i64 0, .int .i64 0, .int .i64 0, .int .i64 0, .int .i64 0, .int .i64 0, .int .i64 0, .int .i64 0, .int .i64 0, .int .i64 0, .int .i64 0, .int .i64 0, .int .i64 0, .int .i64 0, .int .i64 0, .int .i64 0, .int .i64 0, .int .i64 0, .int .i64 0, .int .i64 0, .int .i64 0, .int .i64 0, .int .i64 0, .int .i64 0, .int .i64 0, .int .i64 0, .int .i64 0, .int .i64 0, .int .i64 0, .int .i64 0, .int .i64 0, .int .i64 0, .int .i64 0, .int .i64 0, .int .i64 0, .int .i64 0, .int .i64 0, .int .i64 0, .int .i64 0, .int .i64 0, .int .i64 0, .int .i64 0, .int .i64 0, .int .i64 0, .int .i64 0, .int .i64 0, .int .i64 0, .int .i64 0, .int .i64 0, .int .i64 0, .int .i64 0, .int .i64 0, .int .i64 0, .int .i64 0] 116)
          have gw1 : Wd.grownBy (Wd.alloc (.cells #[.int .i64 0, .int .i64 0, .int .i64 0, .int .i64 0, .int .i64 0, .int .i64 0, .int .i64 0, .int .i64 0, .int .i64 0, .int .i64 0, .int .i64 0, .int .i64 0, .int .i64 0, .int .i64 0, .int .i64 0, .int .i64 0, .int .i64 0, .int .i64 0, .int .i64 0, .int .i64 0, .int .i64 0, .int .i64 0, .int .i64 0, .int .i64 0, .int .i64 0, .int .i64 0, .int .i64 0, .int .i64 0, .int .i64 0, .int .i64 0, .int .i64 0, .int .i64 0, .int .i64 0, .int .i64 0, .int .i64 0, .int .i64 0, .int .i64 0, .int .i64 0, .int .i64 0, .int .i64 0, .int .i64 0, .int .i64 0, .int .i64 0, .int .i64 0, .int .i64 0, .int .i64 0, .int .i64 0, .int .i64 0, .int .i64 0, .int .i64 0, .int .i64 0, .int .i64 0, .int .i64 0, .int .i64 0, .int .i64 0, .int .i64 0, .int .i64 0, .int .i64 0, .int .i64 0, .int .i64 0, .int .i64 0, .int .i64 0, .int .i64 0, .int .i64 0] 116)) none := grown_alloc (World.grownBy.refl Wd none) _
          obtain ⟨b, hbe⟩ : ∃ b, Wd.heap.size = b := ⟨_, rfl⟩
          have hlo : Wd.heap.size ≤ b := by rw [← hbe]; exact (World.grownBy.refl Wd none).size
          rw [hbe] at baw1 ⊢
          generalize Wd.alloc (.cells #[.int .i64 0, .int .i64 0, .int .i64 0, .int .i64 0, .int .i64 0, .int .i64 0, .int .i64 0, .int .i64 0, .int .i64 0, .int .i64 0, .int .i64 0, .int .i64 0, .int .i64 0, .int .i64 0, .int .i64 0, .int .i64 0, .int .i64 0, .int .i64 0, .int .i64 0, .int .i64 0, .int .i64 0, .int .i64 0, .int .i64 0, .int .i64 0, .int .i64 0, .int .i64 0, .int .i64 0, .int .i64 0, .int .i64 0, .int .i64 0, .int .i64 0, .int .i64 0, .int .i64 0, .int .i64 0, .int .i64 0, .int .i64 0, .int .i64 0, .int .i64 0, .int .i64 0, .int .i64 0, .int .i64 0, .int .i64 0, .int .i64 0, .int .i64 0, .int .i64 0, .int .i64 0, .int .i64 0, .int .i64 0, .int .i64 0, .int .i64 0, .int .i64 0, .int .i64 0, .int .i64 0, .int .i64 0, .int .i64 0, .int .i64 0, .int .i64 0, .int .i64 0, .int .i64 0, .int .i64 0, .int .i64 0, .int .i64 0, .int .i64 0, .int .i64 0] 116) = w1 at *
          clear hbe
          refine hK.out _ _ gw1 ?_
          clear hK K
          try simp only [Act.put, List.setIfInBounds_toArray, List.set_cons_zero, List.set_cons_succ]
          refine anyH_step1 (i := 4) rfl (by kernel_rfl) (fun K hK => ?_)
          go_simp
          refine (gridIndex bw r cc _ _ (by omega) (by omega) (by omega) pre.length HK1 w1).mono ?_
          rintro e w2 ⟨rfl, gi⟩
          have gw2 := grown_trans gw1 gi
          have baw2 := grown_atT gi baw1 (by simp)
          clear gi
          refine hK.out _ _ gw2 ?_
          clear hK K
          try simp only [Act.put, List.setIfInBounds_toArray, List.set_cons_zero, List.set_cons_succ]
          refine anyH_take (i := 5) (v := ?_) rfl (by kernel_rfl) (fun _ _ _ h => by cases h.1) (Or.inl ⟨by rfl, ?_⟩) gw2 ?_
          rotate_left 1
          · intro w' hSw
            go_simp
            try with_reducible rfl
          try simp only [Act.put, List.setIfInBounds_toArray, List.set_cons_zero, List.set_cons_succ]
          refine anyH_take (i := 6) (v := ?_) rfl (by kernel_rfl) (fun _ _ _ h => by cases h.1) (Or.inl ⟨by rfl, ?_⟩) gw2 ?_
          rotate_left 1
          · intro w' hSw
            have c6 := hSw.cell (unhide cu) (by simp)
            go_simp
            try with_reducible rfl
          try simp only [Act.put, List.setIfInBounds_toArray, List.set_cons_zero, List.set_cons_succ]
          refine anyH_step1 (i := 7) rfl (by kernel_rfl) (fun K hK => ?_)
          go_simp
          refine (fixLevels uo un uc zs w2 ((unhide ru).grown gw2) okb HOK).mono ?_
          rintro e w3 ⟨⟨ys, rfl, hyl, hyz⟩, gi⟩
          have gw3 := grown_trans gw2 gi
          refine hK.out _ _ gw3 ?_
          clear hK K
          try simp only [Act.put, List.setIfInBounds_toArray, List.set_cons_zero, List.set_cons_succ]
          refine anyH_take (i := 8) (v := ?_) rfl (by kernel_rfl) (fun _ _ _ h => by cases h.1) (Or.inl ⟨by rfl, ?_⟩) gw3 ?_
          rotate_left 1
          · intro w' hSw
            go_simp
            try with_reducible rfl
          try simp only [Act.put, List.setIfInBounds_toArray, List.set_cons_zero, List.set_cons_succ]
          refine anyH_take (i := 9) (v := ?_) rfl (by kernel_rfl) (fun _ _ _ h => by cases h.1) (Or.inl ⟨by rfl, ?_⟩) gw3 ?_
          rotate_left 1
          · intro w' hSw
            go_simp
            try with_reducible rfl
          try simp only [Act.put, List.setIfInBounds_toArray, List.set_cons_zero, List.set_cons_succ]
          refine anyH_take (i := 10) (v := ?_) rfl (by kernel_rfl) (fun _ _ _ h => by cases h.1) (Or.inl ⟨by rfl, ?_⟩) gw3 ?_
          rotate_left 1
          · intro w' hSw
            go_simp
            try with_reducible rfl
          try simp only [Act.put, List.setIfInBounds_toArray, List.set_cons_zero, List.set_cons_succ]
          have baw3 := grown_atT gi baw2 (by simp)
          refine anyH_step1 (i := 12) rfl (by kernel_rfl) (fun K hK => ?_)
          refine step_store_row (by rfl) 116 _ _ rfl b rfl (sq ys) rfl #[.int .i64 0, .int .i64 0, .int .i64 0, .int .i64 0, .int .i64 0, .int .i64 0, .int .i64 0, .int .i64 0, .int .i64 0, .int .i64 0, .int .i64 0, .int .i64 0, .int .i64 0, .int .i64 0, .int .i64 0, .int .i64 0, .int .i64 0, .int .i64 0, .int .i64 0, .int .i64 0, .int .i64 0, .int .i64 0, .int .i64 0, .int .i64 0, .int .i64 0, .int .i64 0, .int .i64 0, .int .i64 0, .int .i64 0, .int .i64 0, .int .i64 0, .int .i64 0, .int .i64 0, .int .i64 0, .int .i64 0, .int .i64 0, .int .i64 0, .int .i64 0, .int .i64 0, .int .i64 0, .int .i64 0, .int .i64 0, .int .i64 0, .int .i64 0, .int .i64 0, .int .i64 0, .int .i64 0, .int .i64 0, .int .i64 0, .int .i64 0, .int .i64 0, .int .i64 0, .int .i64 0, .int .i64 0, .int .i64 0, .int .i64 0, .int .i64 0, .int .i64 0, .int .i64 0, .int .i64 0, .int .i64 0, .int .i64 0, .int .i64 0, .int .i64 0] 116 baw3 (by rw [sq_size, hyl]; rfl) (by rw [sq_size, hyl]; kernel_rfl) (sq_one _) ?_
          intro w9 hB9 g9
          have gw9 : Wd.grownBy w9 none := grown_new gw3 g9 (fun q e => by simp at e; omega)
          refine hK.out _ _ gw9 ?_
          clear hK K
          simp only [Act.put]
          refine anyH_step1 (i := 13) rfl (by kernel_rfl) (fun K hK => ?_)
          go_simp
          refine hK.out _ _ gw9 ?_
          clear hK K
          try simp only [Act.put, List.setIfInBounds_toArray, List.set_cons_zero, List.set_cons_succ]
          refine wpAnyH_done (by kernel_rfl) ?_ _
          exact ⟨rfl, b, ys, rfl, hyl, hyz, hB9, by have := unhide HSD; omega, grown_trans gd gw9⟩
      case rest =>
        rintro e a' W' ⟨rfl, b, ys, rfl, hyl, hyz, hbB, hbl, hgr⟩
        have T1 := hide ((unhide HTA).grown hgr)
        have c6 := grown_atT hgr (unhide HRA) (by simp)
        have k6 : W'.cell? ⟨w.heap.size + 1 + 1 + 1, 0, none⟩ = some (.bool false) := by rw [cell_of_row _ _ 0 _ _ (0, 0) c6]; rfl
        have f6 := frozen_of_row W' (w.heap.size + 1 + 1 + 1) 0 _ _ c6
        have k4 : W'.cell? ⟨w.heap.size + 1, 0, none⟩ = some (.int .i64 (c : Int)) := by rw [cell_of_row _ _ 0 _ _ (0, 0) (grown_atT hgr (unhide X4) (by simp))]; rfl
        have Y3 := hide (grown_atT hgr (unhide X3) (by simp))
        have Y7 := hide (grown_atT hgr (unhide X7) (by simp))
        have HBb := hide hbB
        have HGR := hide hgr
        have H6 := hide c6
        have BUT : Hid (∀ W'', W'.grownBy W'' (some g) → But (fun k => k = g ∨ k = w.heap.size + 1 + 1 + 1) Wa W'') := fun W'' g' => (But.of_grown (unhide HGR) (fun q e => by cases e)).trans (But.of_grown g' (fun q e => by cases e; exact .inl rfl))
        have STOP : Hid (t = false → ∀ W'', W'.grownBy W'' none → W''.heap[w.heap.size + 1 + 1 + 1]? = some (.cells #[.bool false] 4 (0, 0)) ∧ (t = false ∧ (W''.setCell ⟨w.heap.size + 1 + 1 + 1, 0, none⟩ (.bool false)).heap[w.heap.size + 1 + 1 + 1]? = some (.cells #[.bool false] 4 (0, 0))) ∧ But (fun k => k = g ∨ k = w.heap.size + 1 + 1 + 1) Wa (W''.setCell ⟨w.heap.size + 1 + 1 + 1, 0, none⟩ (.bool false))) := fun ht W'' g' => by
          have c9 := grown_atT g' (unhide H6) (by simp)
          refine ⟨c9, ⟨ht, ?_⟩, ?_⟩
          · rw [heap_setCell_same W'' _ 0 _ _ _ c9]; rfl
          · exact (But.of_grown (grown_trans (unhide HGR) g') (fun q e => by cases e)).trans (But.of_grown (grown_set W'' (w.heap.size + 1 + 1 + 1) 0 (.bool false)) (fun q e => by cases e; exact .inr rfl))
        clear hbB hgr c6
        have hbad : blockB (hidB bw (nwG wd n C c) (nhG ht n C c) pre.length) (P.getD pre.length []) = false → t = false := fun h => by rw [← unhide HT]; exact plane_bad pre.length (unhide HKP) h
        have HBAD := hide hbad
        clear hbad
        cases okb
        · have htf : t = false := unhide HBAD (by unfold blockB; rw [unhide HZS, unhide HOK]; rfl)
          gi_wp2_with (refine skip_in (by rfl) ?_)
          all_goals exact (unhide STOP htf W' (World.grownBy.refl _ _)).2
        · obtain ⟨hz64, _⟩ := lev_at (unhide HOK)
          obtain rfl : ys = zs := hyz (by rw [← unhide HUN]; exact hz64)
          have HSY : Hid ((sq ys).size = 64) := by unfold Hid; rw [sq_size, hz64]
          obtain ⟨z, HZ⟩ : ∃ z, Hid ((ys == zs64) = z) := ⟨_, rfl⟩
          have hsq : ∀ w, (Op.equalIn 10000 116 (.agg (sq ys)) (.agg #[.int .i64 0, .int .i64 0, .int .i64 0, .int .i64 0, .int .i64 0, .int .i64 0, .int .i64 0, .int .i64 0, .int .i64 0, .int .i64 0, .int .i64 0, .int .i64 0, .int .i64 0, .int .i64 0, .int .i64 0, .int .i64 0, .int .i64 0, .int .i64 0, .int .i64 0, .int .i64 0, .int .i64 0, .int .i64 0, .int .i64 0, .int .i64 0, .int .i64 0, .int .i64 0, .int .i64 0, .int .i64 0, .int .i64 0, .int .i64 0, .int .i64 0, .int .i64 0, .int .i64 0, .int .i64 0, .int .i64 0, .int .i64 0, .int .i64 0, .int .i64 0, .int .i64 0, .int .i64 0, .int .i64 0, .int .i64 0, .int .i64 0, .int .i64 0, .int .i64 0, .int .i64 0, .int .i64 0, .int .i64 0, .int .i64 0, .int .i64 0, .int .i64 0, .int .i64 0, .int .i64 0, .int .i64 0, .int .i64 0, .int .i64 0, .int .i64 0, .int .i64 0, .int .i64 0, .int .i64 0, .int .i64 0, .int .i64 0, .int .i64 0, .int .i64 0])).run Tryz.prog w = .ok z w := fun w => by rw [← sq_z64, eqSq hz64 zs64_len w, unhide HZ]
          have hPLL : P.length = L.length := by rw [unhide HPL, unhide HLL]
          have hkL : pre.length < (mixL P L pre.length).length := by rw [mixL_len hPLL, ← hPLL]; exact unhide HKP
          have put0 := fun (Wp : World) (hT : Th_gridrows Wp g (mixL P L pre.length)) => gridPut bw bh g gc r cc (mixL P L pre.length) ys hz64 (by omega) (by omega) (by omega) pre.length HK1 hkL Wp hT
          rw [mixL_len hPLL] at put0
          have PUT0 := hide put0
          have GOON : Hid (blockB (hidB bw (nwG wd n C c) (nhG ht n C c) pre.length) (P.getD pre.length []) = true → ∀ Wp W'', W'.grownBy Wp none → Th_gridrows W'' g ((mixL P L pre.length).set pre.length ys) → Wp.grownBy W'' (some g) → (Th_gridrows W'' g (mixL P L (pre ++ [(r, cc)]).length) ∧ (∀ k, k < (pre ++ [(r, cc)]).length → blockB (hidB bw (nwG wd n C c) (nhG ht n C c) k) (P.getD k []) = true) ∧ W''.heap[w.heap.size + 1 + 1 + 1]? = some (.cells #[.bool false] 4 (0, 0))) ∧ But (fun k => k = g ∨ k = w.heap.size + 1 + 1 + 1) Wa W'') := fun hok Wp W'' gp tT gT => by
            have el : (pre ++ [(r, cc)]).length = pre.length + 1 := by simp
            rw [el]
            refine ⟨⟨?_, fun k hk => ?_, ?_⟩, ?_⟩
            · rw [← unhide HZS, mixL_set hPLL _ (by rw [mixL_len hPLL] at hkL; exact hkL)] at tT; exact tT
            · by_cases e9 : k < pre.length
              · exact unhide HOKS k e9
              · obtain rfl : k = pre.length := by omega
                exact hok
            · exact grown_atT gT (grown_atT gp (unhide H6) (by simp)) (by simp; omega)
            · exact (But.of_grown (grown_trans (unhide HGR) gp) (fun q e => by cases e)).trans (But.of_grown gT (fun q e => by cases e; exact .inl rfl))
          clear put0 hkL hPLL
          cases z
          · have i2 : (0 : Int) ≤ (c : Int) := i0
            obtain ⟨sh, HSH⟩ : ∃ sh, Hid ((decide (0 ≤ (c : Int) ∧ (c : Int) ≤ (n : Int) - 1) && (decide (0 ≤ (r : Int) ∧ (r : Int) ≤ (nhG ht n C (c : Int).toNat : Int) - 1) && decide (0 ≤ (cc : Int) ∧ (cc : Int) ≤ (nwG wd n C (c : Int).toNat : Int) - 1))) = sh) := ⟨_, rfl⟩
            have HSE : Hid (blockB (hidB bw (nwG wd n C c) (nhG ht n C c) pre.length) (P.getD pre.length []) = sh) := by
              unfold Hid blockB
              rw [unhide HZS, unhide HOK, ← zero_same hz64, unhide HZ, ← unhide HK1, hid_spot hk3, ← unhide HSH, Int.toNat_natCast]
              rw [Bool.eq_iff_iff]
              simp only [Bool.and_eq_true, Bool.or_eq_true, Bool.not_eq_true', Bool.or_eq_false_iff, decide_eq_true_eq, decide_eq_false_iff_not, Bool.false_eq_true, or_false, true_and]
              omega
            gi_wp2_with (first | (refine skip_in (by rfl) ?_) | (refine load_rowR rfl 116 _ rfl b rfl (sq ys) 116 (unhide HBb) _ Tryz.underlying116 rfl (by rw [unhide HSY]; kernel_rfl) ?_) | (refine load_rowR rfl 131 _ rfl W4.heap.size rfl #[.int .i64 (bw : Int), .int .i64 (bh : Int), .slice (some ⟨g, 0, none⟩) L.length gc] 131 (unhide Y7) _ Tryz.underlying131 rfl (by kernel_rfl) ?_) | (refine load_rowR rfl 105 _ rfl w.heap.size rfl (plV X (.slice (some ⟨gr, 0, none⟩) n gcap)) 105 (unhide Y3) _ Tryz.underlying105 rfl (by rw [plV_size (unhide HSX)]; kernel_rfl) ?_))
            refine ⟨trivial, (fun h => by simp [Fence.wide] at h), ?_⟩
            refine (CallsIn.inRound l' (callsIn_wide.2 (planesShows X p wd ht rs n C (unhide HX) (unhide HGE) _ (c : Int) (r : Int) (cc : Int) sh HSH W'))).mono ?_
            rintro e w9 ⟨rfl, g9⟩
            have T9 := hide ((unhide T1).grown g9)
            have Z7 := hide (grown_atT g9 (unhide Y7) (by simp))
            have Zb := hide (grown_atT g9 (unhide HBb) (by simp))
            cases sh
            · have htf : t = false := unhide HBAD (unhide HSE)
              obtain ⟨c9, st9⟩ := unhide STOP htf w9 g9
              have k9 : w9.cell? ⟨w.heap.size + 1 + 1 + 1, 0, none⟩ = some (.bool false) := by rw [cell_of_row _ _ 0 _ _ (0, 0) c9]; rfl
              have f9 := frozen_of_row w9 (w.heap.size + 1 + 1 + 1) 0 _ _ c9
              have ST9 := hide st9
              clear st9 c9
              gi_wp2
              exact unhide ST9
            · gi_wp2_with (first | (refine load_rowR rfl 116 _ rfl b rfl (sq ys) 116 (unhide Zb) _ Tryz.underlying116 rfl (by rw [unhide HSY]; kernel_rfl) ?_) | (refine load_rowR rfl 131 _ rfl W4.heap.size rfl #[.int .i64 (bw : Int), .int .i64 (bh : Int), .slice (some ⟨g, 0, none⟩) L.length gc] 131 (unhide Z7) _ Tryz.underlying131 rfl (by kernel_rfl) ?_))
              refine ⟨trivial, (fun h => by simp [Fence.wide] at h), ?_⟩
              refine (CallsIn.inRound l' (callsIn_wide.2 (unhide PUT0 w9 (unhide T9)))).mono ?_
              rintro e w10 ⟨⟨v9, rfl⟩, t9, g10⟩
              gi_wp2
              exact unhide GOON (unhide HSE) w9 w10 g9 t9 g10
          · have hblk : blockB (hidB bw (nwG wd n C c) (nhG ht n C c) pre.length) (P.getD pre.length []) = true := by
              unfold blockB
              rw [unhide HZS, unhide HOK, ← zero_same hz64, unhide HZ]
              simp
            have HBK := hide hblk
            clear hblk
            gi_wp2_with (first | (refine skip_in (by rfl) ?_) | (refine load_rowR rfl 116 _ rfl b rfl (sq ys) 116 (unhide HBb) _ Tryz.underlying116 rfl (by rw [unhide HSY]; kernel_rfl) ?_) | (refine load_rowR rfl 131 _ rfl W4.heap.size rfl #[.int .i64 (bw : Int), .int .i64 (bh : Int), .slice (some ⟨g, 0, none⟩) L.length gc] 131 (unhide Y7) _ Tryz.underlying131 rfl (by kernel_rfl) ?_) | (refine load_rowR rfl 105 _ rfl w.heap.size rfl (plV X (.slice (some ⟨gr, 0, none⟩) n gcap)) 105 (unhide Y3) _ Tryz.underlying105 rfl (by rw [plV_size (unhide HSX)]; kernel_rfl) ?_))
            refine ⟨trivial, (fun h => by simp [Fence.wide] at h), ?_⟩
            refine (CallsIn.inRound l' (callsIn_wide.2 (unhide PUT0 W' (unhide T1)))).mono ?_
            rintro e w9 ⟨⟨v9, rfl⟩, t9, g9⟩
            gi_wp2
            exact unhide GOON (unhide HBK) W' w9 (World.grownBy.refl _ _) t9 g9
    case done =>
      intro D W9 hD hi b9 hdef
      obtain ⟨t9, ok9, r9⟩ := hi
      have hlen9 : (sTo bw bh).length = L.length := by rw [sTo_len, unhide HLL, Nat.mul_comm]
      have hPLL : P.length = L.length := by rw [unhide HPL, unhide HLL]
      rw [hlen9, mixL_all hPLL] at t9
      have htt : t = true := by rw [← unhide HT]; exact plane_all (unhide HPL) (fun k hk => ok9 k (by rw [hlen9, ← hPLL]; exact hk))
      have c9 : W9.cell? ⟨w.heap.size + 1 + 1 + 1, 0, none⟩ = some (.bool false) := by rw [cell_of_row _ _ 0 _ _ (0, 0) r9]; rfl
      have f9 := frozen_of_row W9 (w.heap.size + 1 + 1 + 1) 0 _ _ r9
      have gs := grown_set W9 (w.heap.size + 1 + 1 + 1) 0 (.bool true)
      have cs : (W9.setCell ⟨w.heap.size + 1 + 1 + 1, 0, none⟩ (.bool true)).cell? ⟨w.heap.size + 1 + 1 + 1, 0, none⟩ = some (.bool true) := World.cell?_setCell_same _ _ _ c9
      have T9 := hide t9
      have HDEF := hide (grown_atT gs hdef (by have := unhide HS4; simp; omega))
      have HB9 := hide b9
      have HLE := hide hPLL
      subst htt
      clear t9 ok9 r9 hdef b9 hlen9 hPLL
      go_wp2
      refine ⟨by simp, .inl ⟨_, _, rfl, run_takeDeferred (unhide HDEF), ?_⟩⟩
      have hS4 := unhide HS4
      have cs' : ((W9.setCell ⟨w.heap.size + 1 + 1 + 1, 0, none⟩ (.bool true)).putObj D (.deferred none)).cell? ⟨w.heap.size + 1 + 1 + 1, 0, none⟩ = some (.bool true) := by
        unfold World.cell? at cs ⊢
        rw [World.putObj_heap_other (by show w.heap.size + 1 + 1 + 1 ≠ D; omega)]
        exact cs
      have w9r : Wr [g] w ((W9.setCell ⟨w.heap.size + 1 + 1 + 1, 0, none⟩ (.bool true)).putObj D (.deferred none)) := by
        have gd : w.grownBy w8 none := grown_trans (unhide HG4) (unhide D8)
        have b9 := unhide HB9
        have gp := grownBy_putObj' (W9.setCell ⟨w.heap.size + 1 + 1 + 1, 0, none⟩ (.bool true)) D (.deferred none)
        refine ⟨gp.os.trans (gs.os.trans (b9.os.trans gd.os)), gp.tape.trans (gs.tape.trans (b9.tape.trans gd.tape)), gp.output.trans (gs.output.trans (b9.output.trans gd.output)), Nat.le_trans gd.size (Nat.le_trans b9.size (Nat.le_trans gs.size gp.size)), fun q hq hn => ?_⟩
        have hqg : q ≠ g := fun e => hn (by simp [e])
        have hg8 := gd.size
        rw [World.putObj_heap_other (by omega), heap_setCell_other W9 ⟨w.heap.size + 1 + 1 + 1, 0, none⟩ q _ (by show q ≠ w.heap.size + 1 + 1 + 1; omega), b9.block q (by omega) (fun e => by omega)]
        exact gd.block q hq (by simp)
      have t9' : Th_gridrows ((W9.setCell ⟨w.heap.size + 1 + 1 + 1, 0, none⟩ (.bool true)).putObj D (.deferred none)) g P := (unhide T9).same (by rw [World.putObj_heap_other (by omega), heap_setCell_other W9 ⟨w.heap.size + 1 + 1 + 1, 0, none⟩ g _ (by show g ≠ w.heap.size + 1 + 1 + 1; omega)])
      obtain ⟨F9, o9, n9, m9⟩ := unhide TURN _ P w9r t9' (unhide HLE)
      exact ⟨_, (by rw [results_c1 rfl]; simp only [Array.getD_eq_getD_getElem?]; exact load_bool cs'), rfl, ⟨g, hgF, w9r⟩, ⟨F9, o9, n9, m9⟩⟩
    case stop =>
      intro D W9 hD hi b9 hdef
      obtain ⟨rfl, r9⟩ := hi
      refine ⟨by simp, .inl ⟨_, _, rfl, run_takeDeferred hdef, ?_⟩⟩
      have hS4 := unhide HS4
      have cs' : (W9.putObj D (.deferred none)).cell? ⟨w.heap.size + 1 + 1 + 1, 0, none⟩ = some (.bool false) := by
        rw [cell_of_row _ _ 0 _ _ (0, 0) ((World.putObj_heap_other (by omega)).trans r9)]
        rfl
      have w9r : Wr [g] w (W9.putObj D (.deferred none)) := by
        have gd : w.grownBy w8 none := grown_trans (unhide HG4) (unhide D8)
        have gp := grownBy_putObj' W9 D (.deferred none)
        refine ⟨gp.os.trans (b9.os.trans gd.os), gp.tape.trans (b9.tape.trans gd.tape), gp.output.trans (b9.output.trans gd.output), Nat.le_trans gd.size (Nat.le_trans b9.size gp.size), fun q hq hn => ?_⟩
        have hqg : q ≠ g := fun e => hn (by simp [e])
        have hg8 := gd.size
        rw [World.putObj_heap_other (by omega), b9.block q (by omega) (fun e => by omega)]
        exact gd.block q hq (by simp)
      exact ⟨_, (by rw [results_c1 rfl]; simp only [Array.getD_eq_getD_getElem?]; exact load_bool cs'), rfl, ⟨g, hgF, w9r⟩, fun e => by cases e⟩
  · have hpl : ((P.length : Int) != (bw : Int) * (bh : Int)) = true := by rw [bne_iff_ne]; intro e; exact hPL (by exact_mod_cast e)
    obtain rfl : t = false := by rw [← unhide HT]; exact plane_short hPL
    go_simp
    refine hK.out _ _ (.inl rfl) (tailL_nil (NoPanic.normal ?_))
    clear hK K
    have gs := grown_set w7 (w.heap.size + 1 + 1 + 1) 0 (.bool false)
    have cs : (w7.setCell ⟨w.heap.size + 1 + 1 + 1, 0, none⟩ (.bool false)).cell? ⟨w.heap.size + 1 + 1 + 1, 0, none⟩ = some (.bool false) := World.cell?_setCell_same _ _ _ cr
    go_wp2
    refine ⟨_, (by rw [results_c1 rfl]; simp only [Array.getD_eq_getD_getElem?]; exact load_bool cs), rfl, ⟨g, hgF, ?_⟩, fun e => by cases e⟩
    exact Wr.ofNone (grown_new (grown_trans (unhide HG4) d7) gs (fun q e => by simp at e; omega))

end Go.Proofs.YtjkokbijnaodnaaGreat

namespace Go.Proofs.YtjkokbijnaodnaaGreat
open Go.RowKit Go.Shelf

theorem dims_congr {wd ht : Int} {n : Nat} {C D : Nat → Nat → Int} (e : ∀ i, i < n → D i = C i) (c : Nat) (hc : c < n) : bwG wd n D c = bwG wd n C c ∧ bhG ht n D c = bhG ht n C c ∧ nwG wd n D c = nwG wd n C c ∧ nhG ht n D c = nhG ht n C c := by
  refine ⟨?_, ?_, ?_, ?_⟩
  · unfold bwG; rw [mostA_congr n e, e c hc]
  · unfold bhG; rw [mostA_congr n e, e c hc]
  · unfold nwG; rw [mostA_congr n e, e c hc]
  · unfold nhG; rw [mostA_congr n e, e c hc]

/-- The grids of a frame: the first i of coefficients, behind them noughts. -/
def gridsTo (wd ht : Int) (n : Nat) (C : Nat → Nat → Int) (Y : List (List (List Int))) (i : Nat) : List Gd := (List.range n).map fun c => (bwG wd n C c, bhG ht n C c, if c < i then Y.getD c [] else List.replicate (bwG wd n C c * bhG ht n C c) noughts)
theorem gridsTo_len (wd ht : Int) (n : Nat) (C : Nat → Nat → Int) (Y : List (List (List Int))) (i : Nat) : (gridsTo wd ht n C Y i).length = n := by simp [gridsTo]
theorem gridsTo_at (wd ht : Int) (n : Nat) (C : Nat → Nat → Int) (Y : List (List (List Int))) (i c : Nat) (hc : c < n) : (gridsTo wd ht n C Y i).getD c (0, 0, []) = (bwG wd n C c, bhG ht n C c, if c < i then Y.getD c [] else List.replicate (bwG wd n C c * bhG ht n C c) noughts) := by simp [gridsTo, hc]
theorem gridsTo_zero (wd ht : Int) (n : Nat) (C : Nat → Nat → Int) (Y : List (List (List Int))) : gridsTo wd ht n C Y 0 = newGr n (bwG wd n C) (bhG ht n C) := by simp [gridsTo, newGr]
theorem gridsTo_set (wd ht : Int) (n : Nat) (C : Nat → Nat → Int) (Y : List (List (List Int))) (i : Nat) (hi : i < n) : (gridsTo wd ht n C Y i).set i (bwG wd n C i, bhG ht n C i, Y.getD i []) = gridsTo wd ht n C Y (i + 1) := by
  apply List.ext_getElem?
  intro c
  by_cases hc : c < n
  · rw [List.getElem?_set]
    have e1 : (gridsTo wd ht n C Y i)[c]? = some (bwG wd n C c, bhG ht n C c, if c < i then Y.getD c [] else List.replicate (bwG wd n C c * bhG ht n C c) noughts) := by simp [gridsTo, hc]
    have e2 : (gridsTo wd ht n C Y (i + 1))[c]? = some (bwG wd n C c, bhG ht n C c, if c < i + 1 then Y.getD c [] else List.replicate (bwG wd n C c * bhG ht n C c) noughts) := by simp [gridsTo, hc]
    rw [e1, e2, gridsTo_len]
    by_cases e : i = c
    · subst e; rw [if_pos rfl, if_pos hi, if_pos (by omega)]
    · rw [if_neg e]
      by_cases h : c < i
      · rw [if_pos h, if_pos (by omega)]
      · rw [if_neg h, if_neg (by omega)]
  · rw [List.getElem?_eq_none (by rw [List.length_set, gridsTo_len]; omega), List.getElem?_eq_none (by rw [gridsTo_len]; omega)]
/-- The grids of coefficients that are ok. -/
def gridsOf (wd ht : Int) (n : Nat) (C : Nat → Nat → Int) (Y : List (List (List Int))) : List Gd := gridsTo wd ht n C Y n
theorem coefs_gridsOf {wd ht : Int} {n : Nat} {C : Nat → Nat → Int} {Y : List (List (List Int))} (h : Y.length = n) : coefsG (gridsOf wd ht n C Y) = Y := by
  apply List.ext_getElem?
  intro c
  by_cases hc : c < n
  · have : Y[c]? = some (Y.getD c []) := by simp [show c < Y.length by omega]
    rw [this]
    simp [coefsG, gridsOf, gridsTo, hc]
  · rw [List.getElem?_eq_none (by simp [coefsG, gridsOf, gridsTo]; omega), List.getElem?_eq_none (by omega)]
theorem coefs_newGr (n : Nat) (bw bh : Nat → Nat) : coefsG (newGr n bw bh) = emptyG n (fun c => bw c * bh c) := by simp [coefsG, newGr, emptyG]

set_option maxRecDepth 20000 in
/-- Planes of noughts, of a frame that was fixed. -/
theorem emptyOf (p wd ht rs : Int) (n : Nat) (C : Nat → Nat → Int) (b : Bool) (HFB : Hid (frameB p wd ht rs n C = b)) (X : Array Value) (h1 : b = false → X = #[.int .i64 0, .int .i64 0, .int .i64 0, .int .i64 0, .int .i64 0, .int .i64 0, .int .i64 0, .int .i64 0, .int .i64 0, .int .i64 0, .int .i64 0, .int .i64 0, .int .i64 0, .int .i64 0, .int .i64 0, .int .i64 0, .int .i64 0, .int .i64 0, .int .i64 0, .int .i64 0, .int .i64 0]) (h2 : b = true → ∃ D, Fx X p wd ht rs n D ∧ ∀ i, i < n → D i = C i) (w : World) :
    Calls Tryz.prog 78 #[.agg X] w fun e w' => ∃ gv F, e = .returned (.agg (plV X gv)) ∧ OwGr w' gv (if b = true then newGr n (bwG wd n C) (bhG ht n C) else []) F ∧ F.Nodup ∧ (∀ x ∈ F, w.heap.size ≤ x) ∧ w.grownBy w' none := by
  cases b
  · rw [h1 rfl]
    exact emptyPlanes #[.int .i64 0, .int .i64 0, .int .i64 0, .int .i64 0, .int .i64 0, .int .i64 0, .int .i64 0, .int .i64 0, .int .i64 0, .int .i64 0, .int .i64 0, .int .i64 0, .int .i64 0, .int .i64 0, .int .i64 0, .int .i64 0, .int .i64 0, .int .i64 0, .int .i64 0, .int .i64 0, .int .i64 0] rfl fzOne 0 (by omega) rfl (fun _ => 0) (fun _ => 0) (fun c hc => by omega) (fun c hc => by omega) w
  · obtain ⟨D, hF, hD⟩ := h2 rfl
    have hG := (geo_of (unhide HFB)).congr hD
    have em : mostA 1 C 1 n = mostA 1 D 1 n := (mostA_congr n hD).symm
    have ev : mostA 1 C 2 n = mostA 1 D 2 n := (mostA_congr n hD).symm
    rw [em, ev] at hG
    have e : newGr n (bwG wd n C) (bhG ht n C) = newGr n (bwG wd n D) (bhG ht n D) := by
      unfold newGr
      refine List.map_congr_left (fun c hc => ?_)
      have hc' : c < n := by simpa using hc
      obtain ⟨e1, e2, _, _⟩ := dims_congr (wd := wd) (ht := ht) hD c hc'
      rw [e1, e2]
    rw [if_pos rfl, e]
    refine emptyPlanes X hF.size hF.one n hG.n4 hF.c4 (bwG wd n D) (bhG ht n D) (fun c hc => ?_) (fun c hc W => ?_) w
    · have d := dims_of hG c hc
      have := d.bw1
      have := d.bh1
      omega
    · have d := dims_of hG c hc
      have e1 := d.bw
      have e2 := d.bh
      rw [Int.mul_comm] at e1 e2
      have := blocks X p wd ht rs n D hF _ _ hG c hc _ _ rfl rfl W
      rw [e1, e2] at this
      exact this

/-- What fixCoefs answers. -/
def FixedTo (p wd ht rs : Int) (n : Nat) (C : Nat → Nat → Int) (Y : List (List (List Int))) (base : Nat) (b : Bool) (A : Array Value) (w' : World) : Prop :=
  (b = false → A = #[.int .i64 0, .int .i64 0, .int .i64 0, .int .i64 0, .int .i64 0, .int .i64 0, .int .i64 0, .int .i64 0, .int .i64 0, .int .i64 0, .int .i64 0, .int .i64 0, .int .i64 0, .int .i64 0, .int .i64 0, .int .i64 0, .int .i64 0, .int .i64 0, .int .i64 0, .int .i64 0, .int .i64 0, .slice none 0 0]) ∧ (b = true → ∃ X D gv F, A = plV X gv ∧ Fx X p wd ht rs n D ∧ (∀ i, i < n → D i = C i) ∧ OwGr w' gv (gridsOf wd ht n C Y) F ∧ F.Nodup ∧ ∀ x ∈ F, base ≤ x)

end Go.Proofs.YtjkokbijnaodnaaGreat

namespace Go.Proofs.YtjkokbijnaodnaaGreat
open Go.RowKit Go.Shelf

/-- While planes are filled. -/
structure Fc (w wr : World) (X : Array Value) (gv v : Value) (b6 : Nat) : Prop where
  c : wr.heap[w.heap.size + 1]? = some (.cells #[v] 38 (0, 0))
  r : wr.heap[w.heap.size + 1 + 1]? = some (.cells #[.int .i64 0, .int .i64 0, .int .i64 0, .int .i64 0, .int .i64 0, .int .i64 0, .int .i64 0, .int .i64 0, .int .i64 0, .int .i64 0, .int .i64 0, .int .i64 0, .int .i64 0, .int .i64 0, .int .i64 0, .int .i64 0, .int .i64 0, .int .i64 0, .int .i64 0, .int .i64 0, .int .i64 0, .slice none 0 0] 105 (0, 0))
  all : wr.heap[b6]? = some (.cells (plV X gv) 105 (0, 0))
  grown : w.grownBy wr none
theorem Fc.new {w wr w' : World} {X : Array Value} {gv v : Value} {b6 : Nat} (h : Fc w wr X gv v b6) (g : wr.grownBy w' none) : Fc w w' X gv v b6 :=
  ⟨grown_atT g h.c (by simp), grown_atT g h.r (by simp), grown_atT g h.all (by simp), grown_trans h.grown g⟩

theorem pzOne : (#[.int .i64 0, .int .i64 0, .int .i64 0, .int .i64 0, .int .i64 0, .int .i64 0, .int .i64 0, .int .i64 0, .int .i64 0, .int .i64 0, .int .i64 0, .int .i64 0, .int .i64 0, .int .i64 0, .int .i64 0, .int .i64 0, .int .i64 0, .int .i64 0, .int .i64 0, .int .i64 0, .int .i64 0, .slice none 0 0] : Array Value).all (·.oneCell') = true := by simp [Value.oneCell']

set_option maxRecDepth 100000 in
set_option maxHeartbeats 6400000 in
theorem fixCoefs (p wd ht rs : Int) (ao : Option Addr) (n cap : Nat) (C : Nat → Nat → Int) (v : Value) (Y : List (List (List Int))) (w : World) (hr : RdC w ao n C) (hn : n ≤ 4194304) (hY : Rd3 w v Y) (fb b : Bool) (HFB : Hid (frameB p wd ht rs n C = fb)) (HB : Hid (coefsOkF fb wd ht n C Y = b)) :
    Calls Tryz.prog 68 #[.agg #[.int .i64 p, .int .i64 wd, .int .i64 ht, .int .i64 rs, .slice ao n cap], .agg #[v]] w fun e w' => ∃ A, e = .returned (.tuple #[.agg A, .bool b]) ∧ FixedTo p wd ht rs n C Y w.heap.size b A w' ∧ w.grownBy w' none := by
  obtain ⟨vo, vc, rfl, hYr⟩ := hY
  obtain ⟨W0, hW0⟩ : ∃ W0, ((w.alloc (.cells #[.int .i64 p, .int .i64 wd, .int .i64 ht, .int .i64 rs, .slice ao n cap] 37)).alloc (.cells #[.slice vo Y.length vc] 38)).alloc (.cells #[.int .i64 0, .int .i64 0, .int .i64 0, .int .i64 0, .int .i64 0, .int .i64 0, .int .i64 0, .int .i64 0, .int .i64 0, .int .i64 0, .int .i64 0, .int .i64 0, .int .i64 0, .int .i64 0, .int .i64 0, .int .i64 0, .int .i64 0, .int .i64 0, .int .i64 0, .int .i64 0, .int .i64 0, .slice none 0 0] 105) = W0 := ⟨_, rfl⟩
  have G0 : w.grownBy W0 none := by rw [← hW0]; exact grown_alloc (grown_alloc (World.grownBy_alloc _ _ _) _) _
  have s0 : W0.heap.size = w.heap.size + 3 := by rw [← hW0]; simp
  have p1 : W0.heap[w.heap.size + 1]? = some (.cells #[.slice vo Y.length vc] 38 (0, 0)) := by
    rw [← hW0, Below.heap_alloc _ _ _ (by simp)]
    have := heap_alloc_new (w.alloc (.cells #[.int .i64 p, .int .i64 wd, .int .i64 ht, .int .i64 rs, .slice ao n cap] 37)) (.cells #[.slice vo Y.length vc] 38)
    simpa using this
  have p2 : W0.heap[w.heap.size + 1 + 1]? = some (.cells #[.int .i64 0, .int .i64 0, .int .i64 0, .int .i64 0, .int .i64 0, .int .i64 0, .int .i64 0, .int .i64 0, .int .i64 0, .int .i64 0, .int .i64 0, .int .i64 0, .int .i64 0, .int .i64 0, .int .i64 0, .int .i64 0, .int .i64 0, .int .i64 0, .int .i64 0, .int .i64 0, .int .i64 0, .slice none 0 0] 105 (0, 0)) := by
    rw [← hW0]
    have := heap_alloc_new ((w.alloc (.cells #[.int .i64 p, .int .i64 wd, .int .i64 ht, .int .i64 rs, .slice ao n cap] 37)).alloc (.cells #[.slice vo Y.length vc] 38)) (.cells #[.int .i64 0, .int .i64 0, .int .i64 0, .int .i64 0, .int .i64 0, .int .i64 0, .int .i64 0, .int .i64 0, .int .i64 0, .int .i64 0, .int .i64 0, .int .i64 0, .int .i64 0, .int .i64 0, .int .i64 0, .int .i64 0, .int .i64 0, .int .i64 0, .int .i64 0, .int .i64 0, .int .i64 0, .slice none 0 0] 105)
    simpa using this
  have HR := hide (hr.grown G0)
  have HYR := hide hYr
  have HW := hide hW0
  have P1 := hide p1
  have P2 := hide p2
  have HG0 := hide G0
  have HS0 := hide s0
  clear hr hYr hW0 p1 p2 G0 s0
  go_enter Tryz.func68, Tryz.ntmps68
  go_wp2_with fail
  rw [unhide HW]
  clear HW
  refine (fixFrame p wd ht rs ao n cap C W0 (unhide HR) hn fb HFB).mono ?_
  rintro e w1 ⟨X, rfl, h1, h2, g1⟩
  have H1 := hide h1
  have H2 := hide h2
  have HG1 := hide g1
  have HSX : Hid (X.size = 21) := by
    cases fb
    · rw [h1 rfl]; rfl
    · obtain ⟨D, hF, _⟩ := h2 rfl; exact hF.size
  have HOX : Hid (X.all (·.oneCell') = true) := by
    cases fb
    · rw [h1 rfl]; exact fzOne
    · obtain ⟨D, hF, _⟩ := h2 rfl; exact hF.one
  clear h1 h2 g1
  go_wp2_with fail
  refine (emptyOf p wd ht rs n C fb HFB X (unhide H1) (unhide H2) w1).mono ?_
  rintro e w2 ⟨gv, F, rfl, o2, n2, l2, g2⟩
  obtain ⟨go, gcap, rfl⟩ := o2.form
  generalize hgl : (if fb = true then newGr n (bwG wd n C) (bhG ht n C) else []).length = gn at *
  have G2 : w.grownBy w2 none := grown_trans (unhide HG0) (grown_trans (unhide HG1) g2)
  have hs2 : w.heap.size + 3 ≤ w2.heap.size := by
    have h3 := (unhide HG1).size
    have h4 := g2.size
    have h5 := unhide HS0
    omega
  have hl1 : w.heap.size + 3 ≤ w1.heap.size := by
    have h3 := (unhide HG1).size
    have h5 := unhide HS0
    omega
  have HB6 := hide (heap_alloc_new w2 (.cells #[.int .i64 0, .int .i64 0, .int .i64 0, .int .i64 0, .int .i64 0, .int .i64 0, .int .i64 0, .int .i64 0, .int .i64 0, .int .i64 0, .int .i64 0, .int .i64 0, .int .i64 0, .int .i64 0, .int .i64 0, .int .i64 0, .int .i64 0, .int .i64 0, .int .i64 0, .int .i64 0, .int .i64 0, .slice none 0 0] 105))
  have HST : Hid (∀ w3 : World, w3.heap[w2.heap.size]? = some (.cells (plV X (.slice go gn gcap)) 105 (0, 0)) → (w2.alloc (.cells #[.int .i64 0, .int .i64 0, .int .i64 0, .int .i64 0, .int .i64 0, .int .i64 0, .int .i64 0, .int .i64 0, .int .i64 0, .int .i64 0, .int .i64 0, .int .i64 0, .int .i64 0, .int .i64 0, .int .i64 0, .int .i64 0, .int .i64 0, .int .i64 0, .int .i64 0, .int .i64 0, .int .i64 0, .slice none 0 0] 105)).grownBy w3 (some w2.heap.size) → Fc w w3 X (.slice go gn gcap) (.slice vo Y.length vc) w2.heap.size ∧ OwGr w3 (.slice go gn gcap) (if fb = true then newGr n (bwG wd n C) (bhG ht n C) else []) F) := by
    intro w3 hB3 g3
    have ga : w2.grownBy (w2.alloc (.cells #[.int .i64 0, .int .i64 0, .int .i64 0, .int .i64 0, .int .i64 0, .int .i64 0, .int .i64 0, .int .i64 0, .int .i64 0, .int .i64 0, .int .i64 0, .int .i64 0, .int .i64 0, .int .i64 0, .int .i64 0, .int .i64 0, .int .i64 0, .int .i64 0, .int .i64 0, .int .i64 0, .int .i64 0, .slice none 0 0] 105)) none := World.grownBy_alloc _ _ _
    have g23 : w2.grownBy w3 none := grown_new ga g3 (fun q e => by simp at e; omega)
    have g03 : W0.grownBy w3 none := grown_trans (grown_trans (unhide HG1) g2) g23
    exact ⟨⟨grown_atT g03 (unhide P1) (by simp), grown_atT g03 (unhide P2) (by simp), hB3, grown_trans (unhide HG0) g03⟩, okGr.keep o2 g23⟩
  have N2 := hide n2
  have L2 : Hid (∀ x ∈ F, w.heap.size ≤ x ∧ w.heap.size + 3 ≤ x) := fun x hx => by have := l2 x hx; omega
  have LT2 : Hid (∀ x ∈ F, x < w2.heap.size) := fun x hx => okGr.lt _ _ _ _ o2 x hx
  have HGL := hide hgl
  clear o2 n2 l2 g2 hgl G2
  go_wp2_with (first | (refine store_row rfl 105 _ _ rfl w2.heap.size rfl (plV X (.slice go gn gcap)) rfl #[.int .i64 0, .int .i64 0, .int .i64 0, .int .i64 0, .int .i64 0, .int .i64 0, .int .i64 0, .int .i64 0, .int .i64 0, .int .i64 0, .int .i64 0, .int .i64 0, .int .i64 0, .int .i64 0, .int .i64 0, .int .i64 0, .int .i64 0, .int .i64 0, .int .i64 0, .int .i64 0, .int .i64 0, .slice none 0 0] 105 (unhide HB6) (by rw [plV_size (unhide HSX)]; rfl) (by rw [plV_size (unhide HSX)]; kernel_rfl) (plV_one (unhide HOX) rfl) ?_; intro w3 hB3 g3; obtain ⟨hE, o3⟩ := unhide HST w3 hB3 g3; have HE := hide hE; have O3 := hide o3; clear hB3 g3 hE o3) | (refine load_mid rfl 83 _ rfl w2.heap.size 0 rfl X (pl_frame (unhide HE).all) _ Tryz.underlying83 rfl (by rw [unhide HSX]; kernel_rfl) ?_))
  clear HST HB6 P1 P2
  cases fb
  · have eX := unhide H1 rfl
    subst eX
    obtain rfl : b = false := by rw [← unhide HB]; rfl
    refine (isNone_yes _).mono ?_
    rintro e w4 ⟨rfl, g4⟩
    have E4 := hide ((unhide HE).new g4)
    clear g4 HE
    go_wp2_with (refine store_row rfl 105 _ _ rfl (w.heap.size + 1 + 1) rfl #[.int .i64 0, .int .i64 0, .int .i64 0, .int .i64 0, .int .i64 0, .int .i64 0, .int .i64 0, .int .i64 0, .int .i64 0, .int .i64 0, .int .i64 0, .int .i64 0, .int .i64 0, .int .i64 0, .int .i64 0, .int .i64 0, .int .i64 0, .int .i64 0, .int .i64 0, .int .i64 0, .int .i64 0, .slice none 0 0] rfl #[.int .i64 0, .int .i64 0, .int .i64 0, .int .i64 0, .int .i64 0, .int .i64 0, .int .i64 0, .int .i64 0, .int .i64 0, .int .i64 0, .int .i64 0, .int .i64 0, .int .i64 0, .int .i64 0, .int .i64 0, .int .i64 0, .int .i64 0, .int .i64 0, .int .i64 0, .int .i64 0, .int .i64 0, .slice none 0 0] 105 (unhide E4).r rfl (by kernel_rfl) pzOne ?_; intro w8 hB8 g8)
    refine bodyPost_ret (v := .tuple #[.agg #[.int .i64 0, .int .i64 0, .int .i64 0, .int .i64 0, .int .i64 0, .int .i64 0, .int .i64 0, .int .i64 0, .int .i64 0, .int .i64 0, .int .i64 0, .int .i64 0, .int .i64 0, .int .i64 0, .int .i64 0, .int .i64 0, .int .i64 0, .int .i64 0, .int .i64 0, .int .i64 0, .int .i64 0, .slice none 0 0], .bool false]) ?_ rfl ⟨_, rfl, ⟨fun _ => rfl, fun e => by cases e⟩, ?_⟩
    · exact results_c2 (p := 4) (q := 5) (ty := 105) rfl _ _ _ (w.heap.size + 1 + 1) rfl _ (run_loadVar_row w8 _ 105 105 _ (0, 0) _ hB8 Tryz.underlying105 rfl (by kernel_rfl))
    · exact grown_new (unhide E4).grown g8 (fun q e => by simp at e; omega)
  · obtain ⟨D, hF, hD⟩ := unhide H2 rfl
    have hG := (geo_of (unhide HFB)).congr hD
    have em : mostA 1 C 1 n = mostA 1 D 1 n := (mostA_congr n hD).symm
    have ev : mostA 1 C 2 n = mostA 1 D 2 n := (mostA_congr n hD).symm
    rw [em, ev] at hG
    have hn4 := hG.n4
    have hp : (p == 0) = false := by
      have h := unhide HFB
      rw [frameB, Bool.and_eq_true] at h
      rcases (headB_facts h.1).1 with rfl | rfl <;> rfl
    have HF := hide hF
    have HD := hide hD
    have HG := hide hG
    obtain rfl : gn = n := by rw [← unhide HGL, if_pos rfl, newGr_len]
    have hkB : coefsOkB wd ht gn C Y = b := by rw [← unhide HB]; rfl
    have HKB := hide hkB
    clear hF hD hG em ev hkB HB
    refine (isNone_no X p wd ht rs gn D (unhide HF) hp _).mono ?_
    rintro e w4 ⟨rfl, g4⟩
    have E4 := hide ((unhide HE).new g4)
    have O4 := hide (okGr.keep (unhide O3) g4)
    have c1 : w4.cell? ⟨w.heap.size + 1, 0, none⟩ = some (.slice vo Y.length vc) := by rw [cell_of_row _ _ 0 _ _ (0, 0) (unhide E4).c]; rfl
    have c2 := (pl_grids (unhide HSX) (unhide E4).all).1
    clear g4 HE O3 H1 H2
    by_cases hYn : Y.length = gn
    · have hyl : ((Y.length : Int) != (gn : Int)) = false := by simp [hYn]
      have HYN := hide hYn
      clear hYn
      have OT : Hid (OwGr w4 (.slice go gn gcap) (gridsTo wd ht gn C Y 0) F) := by unfold Hid; rw [gridsTo_zero]; exact unhide O4
      clear O4
      go_wp2
      clear c1 c2 hyl
      go_loopw [28] (fun iv wr => ∃ (i : Nat) (F' : List Nat), i ≤ Y.length ∧ iv = .int .i64 i ∧ Hid (Fc w wr X (.slice go gn gcap) (.slice vo Y.length vc) w2.heap.size) ∧ Hid (OwGr wr (.slice go gn gcap) (gridsTo wd ht gn C Y i) F') ∧ Hid F'.Nodup ∧ Hid (∀ x ∈ F', x ∈ F) ∧ Hid (∀ c, c < i → planeB (bwG wd gn C c) (bhG ht gn C c) (nwG wd gn C c) (nhG ht gn C c) (Y.getD c []) = true)) (fun iv _ => Y.length - (intOf iv).toNat)
      case atStart => exact ⟨0, F, Nat.zero_le _, rfl, E4, OT, N2, fun x hx => hx, fun c hc => by omega⟩
      case round =>
        clear E4 OT
        obtain ⟨i, F', hi, rfl, hE, hO, hN, hS, hK⟩ := hrel
        by_cases hlt : i < Y.length
        · have hltI : (i : Int) < (Y.length : Int) := by omega
          have hin : i < gn := by have := unhide HYN; omega
          obtain ⟨pb, poff, u, rfl, cu, ru⟩ := unhide HYR i hlt
          obtain ⟨P, HP⟩ : ∃ P, Hid (Y.getD i [] = P) := ⟨_, rfl⟩
          have eP : Y[i] = P := by rw [← unhide HP]; simp [hlt]
          rw [eP] at ru
          have cu' := (unhide hE).grown.cell cu (by simp)
          obtain ⟨uo, uc, rfl⟩ : ∃ uo uc, u = .slice uo P.length uc := by obtain ⟨uo, uc, e, _⟩ := ru; exact ⟨uo, uc, e⟩
          have RU := hide ru
          obtain ⟨e1, e2, e3, e4⟩ := dims_congr (wd := wd) (ht := ht) (unhide HD) i hin
          have hat := gridsTo_at wd ht gn C Y i i hin
          rw [if_neg (Nat.lt_irrefl i), ← e1, ← e2] at hat
          obtain ⟨t, HT⟩ : ∃ t, Hid (planeB (bwG wd gn C i) (bhG ht gn C i) (nwG wd gn C i) (nhG ht gn C i) P = t) := ⟨_, rfl⟩
          have HTD : Hid (planeB (bwG wd gn D i) (bhG ht gn D i) (nwG wd gn D i) (nhG ht gn D i) P = t) := by unfold Hid; rw [e1, e2, e3, e4]; exact unhide HT
          have FILL : Hid (Calls Tryz.prog 79 #[.agg (plV X (.slice go gn gcap)), .int .i64 (i : Int), .slice uo P.length uc] wr fun e w' => e = .returned (.bool t) ∧ (∃ g ∈ F', Wr [g] wr w') ∧ (t = true → ∃ F'', OwGr w' (.slice go gn gcap) ((gridsTo wd ht gn C Y i).set i (bwG wd gn D i, bhG ht gn D i, P)) F'' ∧ F''.Nodup ∧ ∀ x ∈ F'', x ∈ F')) := fillPlanes X p wd ht rs gn D (unhide HF) (unhide HG) _ _ F' wr (unhide hO) (unhide hN) (gridsTo_len _ _ _ _ _ _) i hin _ hat (by rw [List.length_replicate]) w (unhide hE).grown (fun x hx => (unhide L2 x (unhide hS x hx)).1) _ P (unhide RU) t HTD
          have ET : Hid (t = true → (gridsTo wd ht gn C Y i).set i (bwG wd gn D i, bhG ht gn D i, P) = gridsTo wd ht gn C Y (i + 1)) := fun _ => by rw [← unhide HP, e1, e2]; exact gridsTo_set wd ht gn C Y i hin
          have HLE : Hid (∀ x ∈ F', w.heap.size + 3 ≤ x ∧ x < w2.heap.size) := fun x hx => ⟨(unhide L2 x (unhide hS x hx)).2, unhide LT2 x (unhide hS x hx)⟩
          clear cu ru eP hat e1 e2 e3 e4 RU HTD
          go_wp2_with (refine load_row rfl 105 _ rfl w2.heap.size rfl (plV X (.slice go gn gcap)) 105 (unhide hE).all _ Tryz.underlying105 rfl (by rw [plV_size (unhide HSX)]; kernel_rfl) ?_)
          refine (unhide FILL).mono ?_
          rintro e w5 ⟨rfl, ⟨g, hgF, g5⟩, h5⟩
          obtain ⟨hg1, hg2⟩ := unhide HLE g hgF
          have hbl : w2.heap.size < wr.heap.size := (Array.getElem?_eq_some_iff.1 (unhide hE).all).1
          have E5 : Hid (Fc w w5 X (.slice go gn gcap) (.slice (some ⟨pb, poff, none⟩) Y.length vc) w2.heap.size) := by
            have E := unhide hE
            refine ⟨(g5.block _ (by omega) (fun e => by simp at e; omega)).trans E.c, (g5.block _ (by omega) (fun e => by simp at e; omega)).trans E.r, (g5.block _ hbl (fun e => by simp at e; omega)).trans E.all, Wr.new E.grown g5 (fun x hx => by simp at hx; omega)⟩
          have H5 := hide h5
          clear h5 g5 FILL hE hO cu'
          cases t
          · have hbf : b = false := by
              rw [← unhide HKB]
              cases hk : coefsOkB wd ht gn C Y with
              | false => rfl
              | true =>
                unfold coefsOkB at hk
                rw [Bool.and_eq_true] at hk
                have := List.all_eq_true.1 hk.2 i (by simpa using hlt)
                rw [unhide HP, unhide HT] at this
                exact this.symm
            subst hbf
            go_wp2_with (refine store_row rfl 105 _ _ rfl (w.heap.size + 1 + 1) rfl #[.int .i64 0, .int .i64 0, .int .i64 0, .int .i64 0, .int .i64 0, .int .i64 0, .int .i64 0, .int .i64 0, .int .i64 0, .int .i64 0, .int .i64 0, .int .i64 0, .int .i64 0, .int .i64 0, .int .i64 0, .int .i64 0, .int .i64 0, .int .i64 0, .int .i64 0, .int .i64 0, .int .i64 0, .slice none 0 0] rfl #[.int .i64 0, .int .i64 0, .int .i64 0, .int .i64 0, .int .i64 0, .int .i64 0, .int .i64 0, .int .i64 0, .int .i64 0, .int .i64 0, .int .i64 0, .int .i64 0, .int .i64 0, .int .i64 0, .int .i64 0, .int .i64 0, .int .i64 0, .int .i64 0, .int .i64 0, .int .i64 0, .int .i64 0, .slice none 0 0] 105 (unhide E5).r rfl (by kernel_rfl) pzOne ?_; intro w8 hB8 g8)
            refine bodyPost_ret (v := .tuple #[.agg #[.int .i64 0, .int .i64 0, .int .i64 0, .int .i64 0, .int .i64 0, .int .i64 0, .int .i64 0, .int .i64 0, .int .i64 0, .int .i64 0, .int .i64 0, .int .i64 0, .int .i64 0, .int .i64 0, .int .i64 0, .int .i64 0, .int .i64 0, .int .i64 0, .int .i64 0, .int .i64 0, .int .i64 0, .slice none 0 0], .bool false]) ?_ rfl ⟨_, rfl, ⟨fun _ => rfl, fun e => by cases e⟩, ?_⟩
            · exact results_c2 (p := 4) (q := 5) (ty := 105) rfl _ _ _ (w.heap.size + 1 + 1) rfl _ (run_loadVar_row w8 _ 105 105 _ (0, 0) _ hB8 Tryz.underlying105 rfl (by kernel_rfl))
            · exact grown_new (unhide E5).grown g8 (fun q e => by simp at e; omega)
          · obtain ⟨F6, o6, n6, m6⟩ := unhide H5 rfl
            rw [unhide ET rfl] at o6
            have O6 := hide o6
            have N6 := hide n6
            have M6 : Hid (∀ x ∈ F6, x ∈ F) := fun x hx => unhide hS x (m6 x hx)
            have K6 : Hid (∀ c, c < i + 1 → planeB (bwG wd gn C c) (bhG ht gn C c) (nwG wd gn C c) (nhG ht gn C c) (Y.getD c []) = true) := fun c hc => by
              by_cases e9 : c < i
              · exact unhide hK c e9
              · obtain rfl : c = i := by omega
                rw [unhide HP]
                exact unhide HT
            clear o6 n6 m6 H5 hK hS hN ET
            go_wp2
            go_roundw
            case rel => exact ⟨i + 1, F6, by omega, by go_num, E5, O6, N6, M6, K6⟩
            case measure => simp [intOf]; omega
        · obtain rfl : i = Y.length := by omega
          have hbt : b = true := by
            rw [← unhide HKB]
            unfold coefsOkB
            rw [Bool.and_eq_true]
            exact ⟨decide_eq_true (unhide HYN), List.all_eq_true.2 (fun c hc => unhide hK c (by simpa using hc))⟩
          subst hbt
          go_wp2_with (first | (refine load_row rfl 105 _ rfl w2.heap.size rfl (plV X (.slice go gn gcap)) 105 (unhide hE).all _ Tryz.underlying105 rfl (by rw [plV_size (unhide HSX)]; kernel_rfl) ?_) | (refine store_row rfl 105 _ _ rfl (w.heap.size + 1 + 1) rfl (plV X (.slice go gn gcap)) rfl #[.int .i64 0, .int .i64 0, .int .i64 0, .int .i64 0, .int .i64 0, .int .i64 0, .int .i64 0, .int .i64 0, .int .i64 0, .int .i64 0, .int .i64 0, .int .i64 0, .int .i64 0, .int .i64 0, .int .i64 0, .int .i64 0, .int .i64 0, .int .i64 0, .int .i64 0, .int .i64 0, .int .i64 0, .slice none 0 0] 105 (unhide hE).r (by rw [plV_size (unhide HSX)]; rfl) (by rw [plV_size (unhide HSX)]; kernel_rfl) (plV_one (unhide HOX) rfl) ?_; intro w8 hB8 g8))
          have o8 : OwGr w8 (.slice go gn gcap) (gridsOf wd ht gn C Y) F' := by
            unfold gridsOf
            have := unhide HYN
            rw [← this]
            rw [this]
            have h9 := unhide hO
            rw [this] at h9
            exact okGr.wr h9 (Wr.ofRow (F := [w.heap.size + 1 + 1]) g8 (fun q e => by have e9 := Option.some.inj e; simp [e9])) (fun x hx e => by simp at e; have := (unhide L2 x (unhide hS x hx)).2; omega)
          refine bodyPost_ret (v := .tuple #[.agg (plV X (.slice go gn gcap)), .bool true]) ?_ rfl ⟨_, rfl, ⟨(fun e => by cases e), fun _ => ⟨X, D, _, F', rfl, unhide HF, unhide HD, o8, unhide hN, fun x hx => (unhide L2 x (unhide hS x hx)).1⟩⟩, ?_⟩
          · exact results_c2 (p := 4) (q := 5) (ty := 105) rfl _ _ _ (w.heap.size + 1 + 1) rfl _ (run_loadVar_row w8 _ 105 105 _ (0, 0) _ hB8 Tryz.underlying105 rfl (by rw [plV_size (unhide HSX)]; kernel_rfl))
          · exact grown_new (unhide hE).grown g8 (fun q e => by simp at e; omega)
    · have hyl : ((Y.length : Int) != (gn : Int)) = true := by rw [bne_iff_ne]; intro e; exact hYn (by exact_mod_cast e)
      obtain rfl : b = false := by
        rw [← unhide HKB]
        unfold coefsOkB
        rw [decide_eq_false hYn, Bool.false_and]
      clear hYn
      go_wp2_with (refine store_row rfl 105 _ _ rfl (w.heap.size + 1 + 1) rfl #[.int .i64 0, .int .i64 0, .int .i64 0, .int .i64 0, .int .i64 0, .int .i64 0, .int .i64 0, .int .i64 0, .int .i64 0, .int .i64 0, .int .i64 0, .int .i64 0, .int .i64 0, .int .i64 0, .int .i64 0, .int .i64 0, .int .i64 0, .int .i64 0, .int .i64 0, .int .i64 0, .int .i64 0, .slice none 0 0] rfl #[.int .i64 0, .int .i64 0, .int .i64 0, .int .i64 0, .int .i64 0, .int .i64 0, .int .i64 0, .int .i64 0, .int .i64 0, .int .i64 0, .int .i64 0, .int .i64 0, .int .i64 0, .int .i64 0, .int .i64 0, .int .i64 0, .int .i64 0, .int .i64 0, .int .i64 0, .int .i64 0, .int .i64 0, .slice none 0 0] 105 (unhide E4).r rfl (by kernel_rfl) pzOne ?_; intro w8 hB8 g8)
      refine bodyPost_ret (v := .tuple #[.agg #[.int .i64 0, .int .i64 0, .int .i64 0, .int .i64 0, .int .i64 0, .int .i64 0, .int .i64 0, .int .i64 0, .int .i64 0, .int .i64 0, .int .i64 0, .int .i64 0, .int .i64 0, .int .i64 0, .int .i64 0, .int .i64 0, .int .i64 0, .int .i64 0, .int .i64 0, .int .i64 0, .int .i64 0, .slice none 0 0], .bool false]) ?_ rfl ⟨_, rfl, ⟨fun _ => rfl, fun e => by cases e⟩, ?_⟩
      · exact results_c2 (p := 4) (q := 5) (ty := 105) rfl _ _ _ (w.heap.size + 1 + 1) rfl _ (run_loadVar_row w8 _ 105 105 _ (0, 0) _ hB8 Tryz.underlying105 rfl (by kernel_rfl))
      · exact grown_new (unhide E4).grown g8 (fun q e => by simp at e; omega)

end Go.Proofs.YtjkokbijnaodnaaGreat
