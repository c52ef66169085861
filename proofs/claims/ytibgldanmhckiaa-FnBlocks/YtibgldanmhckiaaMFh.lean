/-
  WithDraw, BlocksPure, CoefCopy, CoefWith, FrameLaws, FrameMarks, CoefBox, SameInts, SameDeep, LawAid.
-/
import Derived.Test.YtibgldanmhckiaaRows
import Derived.Deep.QuietTactic
import Derived.BigQuiet
import Derived.Test.YtibgldanmhckiaaMFg

namespace Go.Proofs.Ytibgldanmhckiaa
open Go.RowKit

theorem step_store_rowC {P : Program} {op : Oper} {a : Act} {w : World} {K : Act → World → Prop} {Q : Exit → Act → World → Prop} {t0 : Bool} {Z : Prop} (hw : t0 = true) (ty : TypeId) (x y : Operand) (ho : op.op = .store ty x y)
    (b : Nat) (hx : a.eval x = .pointer (some ⟨b, 0, none⟩)) (X : Array Value) (hy : a.eval y = .agg X) (Y : Array Value) (t : TypeId) (hb : w.heap[b]? = some (.cells Y t (0, 0))) (hYX : Y.size = X.size)
    (hi : (P.info? ty).map (·.size) = some X.size) (h1 : X.all (·.oneCell') = true)
    (h : ∀ w', w'.heap[b]? = some (.cells X t (0, 0)) → w.grownBy w' (some b) → K (a.put op.dst undef) w') : if t0 = true then Oper.wp P op a w K Q else Z := by
  rw [if_pos hw]
  unfold Oper.wp execOp
  simp only [ho, hx, hy, Instr.storeAt, Instr.sureAddr, Sem.run_bind, Sem.run_pure, Result.andThen_ok, run_storeVar_row w b t ty Y X hb hi hYX h1]
  exact h _ (setRow_heap w b Y X t _ hb) (grown_setRow w b X)

theorem placeCells {w : World} {g : Nat} {a b c : Value} {t : TypeId} (hb : w.heap[g]? = some (.cells #[a, b, c] t (0, 0))) : w.cell? ⟨g, 0, none⟩ = some a ∧ w.cell? ⟨g, 1, none⟩ = some b ∧ w.cell? ⟨g, 2, none⟩ = some c :=
  ⟨by rw [cell_of_row w g 0 _ _ (0, 0) hb]; rfl, by rw [cell_of_row w g 1 _ _ (0, 0) hb]; rfl, by rw [cell_of_row w g 2 _ _ (0, 0) hb]; rfl⟩

/-- What is drawn for WithBlock. -/
structure Wd (w w' : World) (fo : Option Addr) (fn : Nat) (C : Nat → Nat → Int) (pv : Value) (X : List (List (List Int))) (so : Option Addr) (m : Nat) (bl : List Int) : Prop where
  rc : RdC w' fo fn C
  n5 : fn ≤ 5
  co : Rd3 w' pv X
  sh : Shape4 X
  rd : Rd .i64 w' so m bl
  m65 : m ≤ 65
  grown : w.grownBy w' none

set_option maxRecDepth 20000 in
set_option maxHeartbeats 3200000 in
theorem drawWithBlock (ao : Option Addr) (n cap : Nat) (zs : List Int) (w : World) (hr : Rd .u8 w ao n zs) (hb : ∀ i, 0 ≤ zs.getD i 0 ∧ zs.getD i 0 ≤ 255) (hn : n ≤ 1048576) :
    Calls Try.prog 9 #[.slice ao n cap] w fun e w' => ∃ (p wd ht rs : Int) (fo : Option Addr) (fn fc : Nat) (C : Nat → Nat → Int) (pv : Value) (X : List (List (List Int))) (co ro cl : Int) (so : Option Addr) (m sc : Nat) (bl : List Int), e = .returned (.tuple #[.agg #[.int .i64 p, .int .i64 wd, .int .i64 ht, .int .i64 rs, .slice fo fn fc], .agg #[pv], .agg #[.int .i64 co, .int .i64 ro, .int .i64 cl], .slice so m sc]) ∧ Wd w w' fo fn C pv X so m bl := by
  have hlt := hr.lt
  have HB := hide hb
  obtain ⟨W3, HW3⟩ : ∃ W3, Hid ((((w.alloc (.cells #[.int .i64 0, .int .i64 0, .int .i64 0, .int .i64 0, .slice none 0 0] 26)).alloc (.cells #[.slice none 0 0] 29)).alloc (.cells #[.int .i64 0, .int .i64 0, .int .i64 0] 31)) = W3) := ⟨_, rfl⟩
  have G0 : w.grownBy W3 none := by rw [← unhide HW3]; exact grown_alloc (grown_alloc (grown_alloc (World.grownBy.refl _ _) _) _) _
  have hs3 : W3.heap.size = w.heap.size + 3 := by rw [← unhide HW3]; simp
  have A0 : W3.heap[w.heap.size]? = some (.cells #[.int .i64 0, .int .i64 0, .int .i64 0, .int .i64 0, .slice none 0 0] 26 (0, 0)) := by
    rw [← unhide HW3]
    exact at_row (World.grownBy_alloc _ _ none) (at_row (World.grownBy_alloc _ _ none) (heap_alloc_new w _) (by simp)) (by simp)
  have A1 : W3.heap[w.heap.size + 1]? = some (.cells #[.slice none 0 0] 29 (0, 0)) := by
    rw [← unhide HW3]
    refine at_row (World.grownBy_alloc _ _ none) ?_ (by simp)
    have := heap_alloc_new (w.alloc (.cells #[.int .i64 0, .int .i64 0, .int .i64 0, .int .i64 0, .slice none 0 0] 26)) (.cells #[.slice none 0 0] 29)
    simpa using this
  have A2 : W3.heap[w.heap.size + 1 + 1]? = some (.cells #[.int .i64 0, .int .i64 0, .int .i64 0] 31 (0, 0)) := by
    rw [← unhide HW3]
    have := heap_alloc_new ((w.alloc (.cells #[.int .i64 0, .int .i64 0, .int .i64 0, .int .i64 0, .slice none 0 0] 26)).alloc (.cells #[.slice none 0 0] 29)) (.cells #[.int .i64 0, .int .i64 0, .int .i64 0] 31)
    simpa using this
  have HR := hide (hr.grown G0)
  have HA : Hid (∀ W row, W3.grownBy W row → (∀ k, row = some k → w.heap.size + 3 ≤ k) → W.heap[w.heap.size]? = some (.cells #[.int .i64 0, .int .i64 0, .int .i64 0, .int .i64 0, .slice none 0 0] 26 (0, 0)) ∧ W.heap[w.heap.size + 1]? = some (.cells #[.slice none 0 0] 29 (0, 0)) ∧ W.heap[w.heap.size + 1 + 1]? = some (.cells #[.int .i64 0, .int .i64 0, .int .i64 0] 31 (0, 0))) := fun W row g h => ⟨at_row g A0 (fun e => by have := h _ e; omega), at_row g A1 (fun e => by have := h _ e; omega), at_row g A2 (fun e => by have := h _ e; omega)⟩
  have HG0 := hide G0
  have HL := hide hlt
  clear hr hb hlt A0 A1 A2 G0
  go_enter Try.func9, Try.ntmps9
  go_wp2_with fail
  rw [unhide HW3]
  clear HW3
  refine (open_of ao n cap zs W3 (unhide HR) (unhide HB) hn).mono ?_
  rintro e w1 ⟨rfl, c1, g1⟩
  obtain ⟨tb, htb⟩ : ∃ tb, W3.heap.size = tb := ⟨_, rfl⟩
  rw [htb] at c1 ⊢
  have hs1 : tb < w1.heap.size := c1.lt
  have HC1 : Hid (0 < n → ∀ b off, ao = some ⟨b, off, none⟩ → b < w1.heap.size) := fun h b off e => by have := unhide HL h b off e; omega
  have C1 := hide c1
  have HG1 : Hid (W3.grownBy w1 (some tb)) := grown_any g1
  clear c1 HR g1
  go_wp2_with fail
  refine (drawAny tb ao n cap 0 zs w1 (unhide C1) (by omega) (unhide HC1) 20 (by omega) (by omega)).mono ?_
  rintro e w2 ⟨p, wd, ht, rs, C, fn, fc, q, fo, rfl, hm1, hm5, o2, c2, hq, g2⟩
  have hs2 := g2.size
  have HAB := hide (heap_alloc_new w2 (.cells #[.int .i64 0, .int .i64 0, .int .i64 0, .int .i64 0, .slice none 0 0] 26))
  have HAG : Hid (w2.grownBy (w2.alloc (.cells #[.int .i64 0, .int .i64 0, .int .i64 0, .int .i64 0, .slice none 0 0] 26)) none) := grown_alloc (World.grownBy.refl _ _) _
  have HO2 := hide o2
  have HC2 := hide c2
  have HG2 : Hid (W3.grownBy w2 (some tb)) := grown_trans (unhide HG1) g2
  clear o2 c2 g2 C1 HG1
  go_wp2_with (refine wpList_store_row rfl 26 _ _ rfl w2.heap.size rfl #[.int .i64 p, .int .i64 wd, .int .i64 ht, .int .i64 rs, .slice fo fn fc] rfl #[.int .i64 0, .int .i64 0, .int .i64 0, .int .i64 0, .slice none 0 0] 26 (unhide HAB) rfl (by kernel_rfl) (by simp [Value.oneCell']) ?_)
  intro w3 hB3 g3
  obtain ⟨xb7, hx7⟩ : ∃ xb7, w2.heap.size = xb7 := ⟨_, rfl⟩
  have G23 : w2.grownBy w3 none := grown_new (unhide HAG) g3 (fun g e => by simp at e; omega)
  rw [hx7] at hB3 ⊢
  have hz3 := G23.size
  have hb3 : xb7 < w3.heap.size := (Array.getElem?_eq_some_iff.1 hB3).1
  have HO3 := hide (own_grown (unhide HO2) G23)
  have HC3 := hide ((unhide HC2).grown G23)
  have HG3 : Hid (W3.grownBy w3 (some tb)) := grown_trans (unhide HG2) (grown_any G23)
  obtain ⟨k0, k1, k2, k3, k4⟩ := frameCells5 hB3
  have HB3 := hide hB3
  clear g3 G23 HAG HAB HO2 HC2 HG2 hB3
  go_wp2_with fail
  refine (drawCoefs tb ao n cap q zs w3 (unhide HC3) (by omega) p wd ht rs fo fn fc C w1.heap.size (unhide HO3) hs1 20 (by omega)).mono ?_
  rintro e w4 ⟨pv, X, F, q4, rfl, o4, nd4, lo4, sh4, c4, hq4, g4⟩
  have hB4 := at_row g4 (unhide HB3) (by simp; omega)
  have HO4 := hide (own_beneath (unhide HO3) g4 (fun a b e1 e2 => by have := ((unhide HO3).lt a e1).1; simp at e2; omega))
  have hz4 := g4.size
  have HG4 : Hid (W3.grownBy w4 (some tb)) := grown_trans (unhide HG3) g4
  have gA : w4.grownBy (w4.alloc (.cells #[pv] 29)) none := World.grownBy_alloc _ _ _
  have A4 := heap_alloc_new w4 (.cells #[pv] 29)
  obtain ⟨po, pc, rfl⟩ := OwR.form o4
  obtain ⟨xb8, HX8⟩ : ∃ xb8, Hid (w4.heap.size = xb8) := ⟨_, rfl⟩
  rw [unhide HX8] at A4
  have HC5 := hide (c4.grown gA)
  have HB5 := hide (at_row gA hB4 (by simp))
  have HO5 := hide (own_grown (unhide HO4) gA)
  have HX5 := hide (ok3.keep o4 gA)
  have HG5 : Hid (W3.grownBy (w4.alloc (.cells #[.slice po X.length pc] 29)) (some tb)) := grown_trans (unhide HG4) (grown_any gA)
  have hz5 : (w4.alloc (.cells #[.slice po X.length pc] 29)).heap.size = xb8 + 1 := by simp; exact unhide HX8
  have HLO : Hid (∀ g ∈ F, tb < g) := fun g hg => by have := lo4 g hg; omega
  have HSH := hide sh4
  obtain ⟨j0, j1, j2, j3, j4⟩ := frameCells5 (unhide HB5)
  obtain ⟨w5, HW5⟩ : ∃ w5, Hid (w4.alloc (.cells #[.slice po X.length pc] 29) = w5) := ⟨_, rfl⟩
  rw [unhide HW5] at A4 HC5 HB5 HO5 HX5 HG5 hz5
  have HA5 := hide A4
  clear o4 nd4 lo4 sh4 c4 g4 hB4 HO4 HG4 gA HC3 HO3 HG3 HB3 k0 k1 k2 k3 k4 A4
  go_wp2_with fail
  rw [unhide HW5, unhide HX8]
  have hz45 : w4.heap.size = xb8 := unhide HX8
  have h8 : tb < xb8 := by omega
  have h78 : xb7 < xb8 := by omega
  clear HW5 HX8 j0 j1 j2 j3 j4 hz45
  refine (drawPlace tb ao n cap q4 zs w5 (unhide HC5) (by omega) p wd ht rs fo fn fc (by omega)).mono ?_
  rintro e w6 ⟨co, ro, cl, q6, rfl, c6, hq6, g6⟩
  have hz6 := g6.size
  have HB6 := hide (at_row g6 (unhide HB5) (by simp; omega))
  have HA6 := hide (at_row g6 (unhide HA5) (by simp; omega))
  have HO6 := hide (own_beneath (unhide HO5) g6 (fun a b e1 e2 => by have := ((unhide HO5).lt a e1).1; simp at e2; omega))
  have HX6 := hide (ok3.wr (unhide HX5) (Wr.ofRow (F := [tb]) g6 (fun x e => by simp at e; simp [e])) (fun x hx e => by simp at e; have := unhide HLO x hx; omega))
  have HG6 : Hid (W3.grownBy w6 (some tb)) := grown_trans (unhide HG5) g6
  have HC6 := hide c6
  have HAB6 := hide (heap_alloc_new w6 (.cells #[.int .i64 0, .int .i64 0, .int .i64 0] 31))
  have HAG6 : Hid (w6.grownBy (w6.alloc (.cells #[.int .i64 0, .int .i64 0, .int .i64 0] 31)) none) := grown_alloc (World.grownBy.refl _ _) _
  clear c6 g6 HB5 HA5 HO5 HX5 HG5 HC5
  go_wp2_with (refine wpList_store_row rfl 31 _ _ rfl w6.heap.size rfl #[.int .i64 co, .int .i64 ro, .int .i64 cl] rfl #[.int .i64 0, .int .i64 0, .int .i64 0] 31 (unhide HAB6) rfl (by kernel_rfl) (by simp [Value.oneCell']) ?_)
  intro w7 hB7 g7
  have G67 : w6.grownBy w7 none := grown_new (unhide HAG6) g7 (fun g e => by simp at e; omega)
  have hb9 : w6.heap.size < w7.heap.size := (Array.getElem?_eq_some_iff.1 hB7).1
  obtain ⟨xb9, HX9⟩ : ∃ xb9, Hid (w6.heap.size = xb9) := ⟨_, rfl⟩
  rw [unhide HX9] at hB7 hb9 ⊢
  have h9 : xb8 < xb9 := by have := unhide HX9; omega
  have HB7 := hide hB7
  have HF7 := hide (at_row G67 (unhide HB6) (by simp))
  have HA7 := hide (at_row G67 (unhide HA6) (by simp))
  have HO7 := hide (own_grown (unhide HO6) G67)
  have HX7 := hide (ok3.keep (unhide HX6) G67)
  have HG7 : Hid (W3.grownBy w7 (some tb)) := grown_trans (unhide HG6) (grown_any G67)
  have HC7 := hide ((unhide HC6).grown G67)
  have KEEP : Hid (∀ W row, w7.grownBy W row → (∀ k, row = some k → k < xb7) → (W.cell? ⟨xb7, 0, none⟩ = some (.int .i64 p) ∧ W.cell? ⟨xb7, 1, none⟩ = some (.int .i64 wd) ∧ W.cell? ⟨xb7, 2, none⟩ = some (.int .i64 ht) ∧ W.cell? ⟨xb7, 3, none⟩ = some (.int .i64 rs) ∧ W.cell? ⟨xb7, 4, none⟩ = some (.slice fo fn fc)) ∧ W.cell? ⟨xb8, 0, none⟩ = some (.slice po X.length pc) ∧ (W.cell? ⟨xb9, 0, none⟩ = some (.int .i64 co) ∧ W.cell? ⟨xb9, 1, none⟩ = some (.int .i64 ro) ∧ W.cell? ⟨xb9, 2, none⟩ = some (.int .i64 cl))) := fun W row g h => ⟨frameCells5 (at_row g (unhide HF7) (fun e => by have := h _ e; omega)), by rw [cell_of_row W xb8 0 _ _ (0, 0) (at_row g (unhide HA7) (fun e => by have := h _ e; omega))]; rfl, placeCells (at_row g (unhide HB7) (fun e => by have := h _ e; omega))⟩
  have hxb7 : tb < xb7 := by omega
  have KEEP2 : Hid (∀ (W V : World) (k : Nat), ((W.cell? ⟨xb7, 0, none⟩ = some (.int .i64 p) ∧ W.cell? ⟨xb7, 1, none⟩ = some (.int .i64 wd) ∧ W.cell? ⟨xb7, 2, none⟩ = some (.int .i64 ht) ∧ W.cell? ⟨xb7, 3, none⟩ = some (.int .i64 rs) ∧ W.cell? ⟨xb7, 4, none⟩ = some (.slice fo fn fc)) ∧ W.cell? ⟨xb8, 0, none⟩ = some (.slice po X.length pc) ∧ (W.cell? ⟨xb9, 0, none⟩ = some (.int .i64 co) ∧ W.cell? ⟨xb9, 1, none⟩ = some (.int .i64 ro) ∧ W.cell? ⟨xb9, 2, none⟩ = some (.int .i64 cl))) → W.grownBy V (some k) → k < xb7 → ((V.cell? ⟨xb7, 0, none⟩ = some (.int .i64 p) ∧ V.cell? ⟨xb7, 1, none⟩ = some (.int .i64 wd) ∧ V.cell? ⟨xb7, 2, none⟩ = some (.int .i64 ht) ∧ V.cell? ⟨xb7, 3, none⟩ = some (.int .i64 rs) ∧ V.cell? ⟨xb7, 4, none⟩ = some (.slice fo fn fc)) ∧ V.cell? ⟨xb8, 0, none⟩ = some (.slice po X.length pc) ∧ (V.cell? ⟨xb9, 0, none⟩ = some (.int .i64 co) ∧ V.cell? ⟨xb9, 1, none⟩ = some (.int .i64 ro) ∧ V.cell? ⟨xb9, 2, none⟩ = some (.int .i64 cl)))) := fun W V k s g h => by
    obtain ⟨⟨a0, a1, a2, a3, a4⟩, a5, a6, a7, a8⟩ := s
    exact ⟨⟨g.cell a0 (by simp; omega), g.cell a1 (by simp; omega), g.cell a2 (by simp; omega), g.cell a3 (by simp; omega), g.cell a4 (by simp; omega)⟩, g.cell a5 (by simp; omega), g.cell a6 (by simp; omega), g.cell a7 (by simp; omega), g.cell a8 (by simp; omega)⟩
  have SS := unhide KEEP _ _ (grown_drew (World.grownBy.refl w7 none)) (fun k e => by simp at e)
  have HSS := hide SS
  clear hB7 g7 G67 HX9 HB6 HA6 HO6 HX6 HG6 HC6 HAG6 HAB6 SS
  go_wp2
  refine wp_region_noPanic ?_
  refine wp_region_tail (fun w' => (w'.cell? ⟨xb7, 0, none⟩ = some (.int .i64 p) ∧ w'.cell? ⟨xb7, 1, none⟩ = some (.int .i64 wd) ∧ w'.cell? ⟨xb7, 2, none⟩ = some (.int .i64 ht) ∧ w'.cell? ⟨xb7, 3, none⟩ = some (.int .i64 rs) ∧ w'.cell? ⟨xb7, 4, none⟩ = some (.slice fo fn fc)) ∧ w'.cell? ⟨xb8, 0, none⟩ = some (.slice po X.length pc) ∧ (w'.cell? ⟨xb9, 0, none⟩ = some (.int .i64 co) ∧ w'.cell? ⟨xb9, 1, none⟩ = some (.int .i64 ro) ∧ w'.cell? ⟨xb9, 2, none⟩ = some (.int .i64 cl))) [true, true, true, true, false, false, false, false, false] (by kernel_rfl) (fun _ _ _ _ _ h => h) rfl (by kernel_rfl) (unhide HSS) ?_
  iterate 4
    refine heldF_take (v := ?_) (Or.inl ⟨by rfl, ?_⟩) ?_
    rotate_left 1
    · intro w' hSw
      try dsimp only at hSw
      obtain ⟨⟨z0, z1, z2, z3, z4⟩, z5, z6, z7, z8⟩ := hSw
      go_simp
      try with_reducible rfl
    simp only [Act.put, List.setIfInBounds_toArray, List.set_cons_zero, List.set_cons_succ]
  iterate 5 refine heldF_skip ?_
  refine heldF_nil ?_
  iterate 4 refine tailF_skip ?_
  refine tailF_step (fun K hK => ?_)
  go_simp
  refine (drawAny5 tb ao n cap q6 zs w7.drew ((unhide HC7).grown (grown_drew (World.grownBy.refl _ _))) (by omega) 900 (by omega)).mono ?_
  rintro e w8 ⟨so, m, sc, rfl, hd⟩
  have g8 : w7.grownBy w8 (some tb) := grown_trans (grown_any (grown_drew (World.grownBy.refl w7 none))) hd.grown
  have S8 := hide (unhide KEEP _ _ g8 (fun k e => by simp at e; omega))
  have hA8 := unhide HA _ _ (grown_trans (unhide HG7) g8) (fun k e => by simp at e; omega)
  have HA8 := hide hA8
  have hz8 := g8.size
  obtain ⟨bl, hbl⟩ := hd.rd
  have hnew : ∀ b off, so = some ⟨b, off, none⟩ → w7.heap.size ≤ b := fun b off e => by have := hd.new b off e; simpa using this
  have HD8 := hide hd.len
  have HBL := hide hbl
  have HNW := hide hnew
  have HG8 := hide g8
  refine hK.out _ _ (unhide S8) ?_
  clear hK K hd g8 hbl hnew hA8
  try simp only [Act.put, List.setIfInBounds_toArray, List.set_cons_zero, List.set_cons_succ]
  refine tailF_step (fun K hK => ?_)
  refine step_store_rowC (by rfl) 26 _ _ rfl w.heap.size rfl #[.int .i64 p, .int .i64 wd, .int .i64 ht, .int .i64 rs, .slice fo fn fc] rfl #[.int .i64 0, .int .i64 0, .int .i64 0, .int .i64 0, .slice none 0 0] 26 (unhide HA8).1 rfl (by kernel_rfl) (by simp [Value.oneCell']) ?_
  intro wa hBa ga
  have Sa := hide (unhide KEEP2 _ _ _ (unhide S8) ga (by omega))
  have A1 := at_row ga (unhide HA8).2.1 (fun e => by have := Option.some.inj e; omega)
  have A2 := at_row ga (unhide HA8).2.2 (fun e => by have := Option.some.inj e; omega)
  have HA1 := hide A1
  have HA2 := hide A2
  have HBA := hide hBa
  have HGA := hide ga
  refine hK.out _ _ (unhide Sa) ?_
  clear hK K A1 A2 hBa ga
  try simp only [Act.put]
  refine tailF_step (fun K hK => ?_)
  refine step_store_rowC (by rfl) 29 _ _ rfl (w.heap.size + 1) rfl #[.slice po X.length pc] rfl #[.slice none 0 0] 29 (unhide HA1) rfl (by kernel_rfl) (by simp [Value.oneCell']) ?_
  intro wb hBb gb
  have Sb := hide (unhide KEEP2 _ _ _ (unhide Sa) gb (by omega))
  have HA3 := hide (at_row gb (unhide HA2) (fun e => by have := Option.some.inj e; omega))
  have HBB := hide hBb
  have HGB := hide gb
  refine hK.out _ _ (unhide Sb) ?_
  clear hK K hBb gb
  try simp only [Act.put]
  refine tailF_step (fun K hK => ?_)
  refine step_store_rowC (by rfl) 31 _ _ rfl (w.heap.size + 1 + 1) rfl #[.int .i64 co, .int .i64 ro, .int .i64 cl] rfl #[.int .i64 0, .int .i64 0, .int .i64 0] 31 (unhide HA3) rfl (by kernel_rfl) (by simp [Value.oneCell']) ?_
  intro wc hBc gc
  have Sc := hide (unhide KEEP2 _ _ _ (unhide Sb) gc (by omega))
  have HGC := hide gc
  have F0 := frameCells5 (at_row gc (at_row (unhide HGB) (unhide HBA) (fun e => by have := Option.some.inj e; omega)) (fun e => by have := Option.some.inj e; omega))
  have F1 : wc.cell? ⟨w.heap.size + 1, 0, none⟩ = some (.slice po X.length pc) := by rw [cell_of_row wc _ 0 _ _ (0, 0) (at_row gc (unhide HBB) (fun e => by have := Option.some.inj e; omega))]; rfl
  have F2 := placeCells hBc
  have HRES := hide (And.intro F0 (And.intro F1 F2))
  refine hK.out _ _ (unhide Sc) ?_
  clear hK K hBc gc F0 F1 F2
  try simp only [Act.put]
  refine tailF_step (fun K hK => ?_)
  go_simp
  refine hK.out _ _ (unhide Sc) ?_
  clear hK K
  refine tailF_nil (NoPanic.normal ?_)
  have HE : Hid (Wd w wc fo fn C (.slice po X.length pc) X so m bl) := by
    have hw1 : ∀ k, w.heap.size ≤ k → k < w.heap.size + 3 → ∀ U V, U.grownBy V (some k) → w7.heap.size ≤ U.heap.size → U.ownsRow w1.heap.size 70 4 (.slice fo fn fc) fn (rowsK fn 4 (compCells C)) → Ow3 U (.slice po X.length pc) X F → Rd .i64 U so m bl → w.grownBy U none → V.ownsRow w1.heap.size 70 4 (.slice fo fn fc) fn (rowsK fn 4 (compCells C)) ∧ Ow3 V (.slice po X.length pc) X F ∧ Rd .i64 V so m bl ∧ w.grownBy V none := by
      intro k hk1 hk2 U V g hU h1 h2 h3 h4
      refine ⟨own_beneath h1 g (fun a b e1 e2 => by have := (h1.lt a e1).1; simp at e2; omega), ok3.wr h2 (Wr.ofRow (F := [k]) g (fun x e => by simp at e; simp [e])) (fun x hx e => by simp at e; have := unhide HLO x hx; omega), h3.beside g (fun hm b off e => by have := unhide HNW b off e; omega), grown_new h4 g (fun x e => by simp at e; omega)⟩
    have s8 := unhide HG8
    have o8 := own_beneath (unhide HO7) s8 (fun a b e1 e2 => by have := ((unhide HO7).lt a e1).1; simp at e2; omega)
    have x8 := ok3.wr (unhide HX7) (Wr.ofRow (F := [tb]) s8 (fun x e => by simp at e; simp [e])) (fun x hx e => by simp at e; have := unhide HLO x hx; omega)
    have gr8 : w.grownBy w8 none := grown_new (unhide HG0) (grown_trans (unhide HG7) s8) (fun k e => by simp at e; omega)
    obtain ⟨a1, a2, a3, a4⟩ := hw1 w.heap.size (Nat.le_refl _) (by omega) _ _ (unhide HGA) s8.size o8 x8 (unhide HBL) gr8
    obtain ⟨b1, b2, b3, b4⟩ := hw1 (w.heap.size + 1) (by omega) (by omega) _ _ (unhide HGB) (Nat.le_trans s8.size (unhide HGA).size) a1 a2 a3 a4
    obtain ⟨d1, d2, d3, d4⟩ := hw1 (w.heap.size + 1 + 1) (by omega) (by omega) _ _ (unhide HGC) (Nat.le_trans s8.size (Nat.le_trans (unhide HGA).size (unhide HGB).size)) b1 b2 b3 b4
    exact ⟨own_rdC d1, by omega, Ow3.rd d2, unhide HSH, d3, unhide HD8, d4⟩
  clear HGA HGB HGC HG8 HO7 HX7 HBL HNW HG7 HC7 KEEP KEEP2 Sa Sb Sc S8
  go_wp2
  refine bodyPost_ret (v := .tuple #[.agg #[.int .i64 p, .int .i64 wd, .int .i64 ht, .int .i64 rs, .slice fo fn fc], .agg #[.slice po X.length pc], .agg #[.int .i64 co, .int .i64 ro, .int .i64 cl], .slice so m sc]) (by obtain ⟨⟨r0, r1, r2, r3, r4⟩, r5, r6, r7, r8⟩ := unhide HRES; simp [results, Try.results9, go_sem, r0, r1, r2, r3, r4, r5, r6, r7, r8]) rfl ?_
  exact ⟨p, wd, ht, rs, fo, fn, fc, C, _, X, co, ro, cl, so, m, sc, bl, rfl, unhide HE⟩

end Go.Proofs.Ytibgldanmhckiaa

namespace Go.Proofs.Ytibgldanmhckiaa
open Go.RowKit

theorem ok_of {wd ht : Int} {n : Nat} {C : Nat → Nat → Int} {X : List (List (List Int))} (hl : X.length = n) (h : ∀ c (hc : c < X.length), X[c].length = bwG wd n C c * bhG ht n C c ∧ ∀ k (hk : k < X[c].length), blockB (hidB (bwG wd n C c) (nwG wd n C c) (nhG ht n C c) k) X[c][k] = true) : coefsOkB wd ht n C X = true := by
  unfold coefsOkB
  rw [Bool.and_eq_true]
  refine ⟨decide_eq_true hl, List.all_eq_true.2 fun c hc => ?_⟩
  have hc := List.mem_range.1 hc
  obtain ⟨h1, h2⟩ := h c hc
  have e : X.getD c [] = X[c] := by simp [hc]
  rw [e]
  unfold planeB
  rw [Bool.and_eq_true]
  refine ⟨decide_eq_true h1, List.all_eq_true.2 fun k hk => ?_⟩
  have hk := List.mem_range.1 hk
  have e2 : X[c].getD k [] = X[c][k] := by simp [hk]
  rw [e2]
  exact h2 k hk

/-- What is so where a block was put. -/
structure Putted (wd ht : Int) (n : Nat) (C : Nat → Nat → Int) (X : List (List (List Int))) (co ro cl : Int) (bl : List Int) (Y : List (List (List Int))) (c k : Nat) : Prop where
  eco : co = (c : Int)
  pl : placeO wd ht n C co ro cl = some k
  kk : ((k : Nat) : Int) = ro * (bwG wd n C c : Int) + cl
  lc : c < X.length
  lk : k < X[c].length
  ok : coefsOkB wd ht n C X = true
  set : Y = X.set c (X[c].set k bl)
  okY : coefsOkB wd ht n C Y = true

theorem put_of {b : Bool} {wd ht : Int} {n : Nat} {C : Nat → Nat → Int} {X : List (List (List Int))} {co ro cl : Int} {bl : List Int} {Y : List (List (List Int))} (hY : withBlockF b wd ht n C X co ro cl bl = Y) (h : Y ≠ []) : b = true ∧ ∃ c k, Putted wd ht n C X co ro cl bl Y c k := by
  unfold withBlockF at hY
  split at hY
  · rename_i h0
    rw [Bool.and_eq_true] at h0
    obtain ⟨h1, h2⟩ := h0
    unfold coefsOkF at h1
    rw [Bool.and_eq_true] at h1
    obtain ⟨hb, hok⟩ := h1
    split at hY
    · rename_i k hk
      split at hY
      · exact absurd hY.symm h
      · rename_i hh
        obtain ⟨c, r, l, e1, e2, e3, hc, hr, hl, ek, hkl⟩ := place_in hk
        subst e1 e2 e3 ek
        obtain ⟨hX, hXl, hXb⟩ := ok_plane hok c hc
        have hlt : r * bwG wd n C c + l < X[c].length := by rw [hXl]; exact hkl
        have eX : X.getD c [] = X[c] := by simp [hX]
        rw [Int.toNat_natCast, eX] at hY
        refine ⟨hb, c, r * bwG wd n C c + l, rfl, hk, by push_cast; rfl, hX, hlt, hok, hY.symm, ?_⟩
        subst hY
        refine ok_of (by rw [List.length_set]; exact of_decide_eq_true (Bool.and_eq_true _ _ ▸ hok |>.1)) fun c' hc' => ?_
        have hc2 : c' < X.length := by rw [List.length_set] at hc'; exact hc'
        have hc3 : c' < n := by have : X.length = n := of_decide_eq_true (Bool.and_eq_true _ _ ▸ hok |>.1); omega
        obtain ⟨_, hXl', hXb'⟩ := ok_plane hok c' hc3
        rw [List.getElem_set]
        split
        · rename_i ec
          subst ec
          refine ⟨by rw [List.length_set]; exact hXl, fun k' hk' => ?_⟩
          rw [List.getElem_set]
          split
          · rename_i ek
            subst ek
            have hlow : l < bwG wd n C c := hl
            have e1 : (r * bwG wd n C c + l) / bwG wd n C c = r := by
              rw [Nat.mul_comm, Nat.mul_add_div (by omega), Nat.div_eq_of_lt hlow, Nat.add_zero]
            have e2 : (r * bwG wd n C c + l) % bwG wd n C c = l := by
              rw [Nat.mul_comm, Nat.mul_add_mod, Nat.mod_eq_of_lt hlow]
            have hhid : hidB (bwG wd n C c) (nwG wd n C c) (nhG ht n C c) (r * bwG wd n C c + l) = false := by
              unfold hidB
              rw [e1, e2]
              unfold hiddenI at hh
              rw [Int.toNat_natCast] at hh
              simp at hh ⊢
              omega
            unfold blockB
            rw [hhid, h2]
            rfl
          · rename_i ne
            rw [List.length_set] at hk'
            exact hXb k' hk'
        · exact ⟨hXl', fun k' hk' => hXb' k' hk'⟩
    · exact absurd hY.symm h
  · exact absurd hY.symm h

theorem at_put {wd ht : Int} {n : Nat} {C : Nat → Nat → Int} {X : List (List (List Int))} {co ro cl : Int} {bl : List Int} {Y : List (List (List Int))} {c k : Nat} (h : Putted wd ht n C X co ro cl bl Y c k) : blockAtF true wd ht n C Y co ro cl = bl := by
  unfold blockAtF coefsOkF
  rw [h.okY, h.pl, h.eco, Int.toNat_natCast]
  have hc := h.lc
  have hk := h.lk
  rw [h.set]
  simp [hc, hk]

theorem put_other {wd ht : Int} {n : Nat} {C : Nat → Nat → Int} {X : List (List (List Int))} {co ro cl : Int} {bl : List Int} {Y : List (List (List Int))} {c k : Nat} (h : Putted wd ht n C X co ro cl bl Y c k) (i j : Nat) (hi : i < X.length) (hj : j < X[i].length) : ∃ hi' : i < Y.length, ∃ hj' : j < Y[i].length, (¬ (i = c ∧ j = k) → Y[i][j] = X[i][j]) := by
  obtain ⟨_, _, _, lc, lk, _, e, _⟩ := h
  subst e
  refine ⟨by rw [List.length_set]; exact hi, ?_, ?_⟩
  · rw [List.getElem_set]
    split
    · rename_i ec; subst ec; rw [List.length_set]; exact hj
    · exact hj
  · intro hne
    by_cases ec : c = i
    · subst ec
      have hjk : ¬ k = j := fun e => hne ⟨rfl, e.symm⟩
      simp [hjk]
    · simp [ec]

theorem empty_ok (wd ht : Int) (n : Nat) (C : Nat → Nat → Int) : coefsOkF true wd ht n C (emptyF true wd ht n C) = true := by
  unfold coefsOkF emptyF
  rw [Bool.true_and, if_pos rfl]
  unfold emptyG
  refine ok_of (by simp) fun c hc => ?_
  simp only [List.getElem_map, List.getElem_range, List.length_replicate, List.getElem_replicate]
  refine ⟨trivial, fun k hk => ?_⟩
  have e1 : levB (-16383) 16383 noughts = true := by decide
  have e2 : zeroB noughts = true := by decide
  unfold blockB
  rw [e1, e2]
  simp

end Go.Proofs.Ytibgldanmhckiaa

namespace Go.Proofs.Ytibgldanmhckiaa
open Go.RowKit

theorem takeX_next {α : Type} (X : List α) (i : Nat) (h : i < X.length) : X.take i ++ [X[i]] = X.take (i + 1) := (List.take_succ_eq_append_getElem h).symm

set_option maxRecDepth 20000 in
set_option maxHeartbeats 3200000 in
theorem specCopy (v : Value) (X : List (List (List Int))) (w : World) (hx : Rd3 w v X) (hlen : X.length ≤ 900000) (hs : ∀ c (hc : c < X.length), X[c].length ≤ 900000) (h64 : ∀ c (hc : c < X.length) k (hk : k < X[c].length), X[c][k].length = 64) :
    Calls Try.prog 48 #[.agg #[v]] w fun e w' => ∃ u F, e = .returned u ∧ OwCo w' u X F ∧ F.Nodup ∧ (∀ g ∈ F, w.heap.size ≤ g) ∧ w.grownBy w' none := by
  obtain ⟨xo, xc, rfl, hel⟩ := id hx
  have HEL := hide hel
  have HS := hide hs
  have H64 := hide h64
  obtain ⟨m, HM⟩ : ∃ m, Hid (X.length = m) := ⟨_, rfl⟩
  rw [unhide HM] at hlen ⊢
  obtain ⟨W3, hW3⟩ : ∃ W3, (((w.alloc (.cells #[.slice xo m xc] 29)).alloc (.cells #[.slice none 0 0] 29)).alloc (.cells #[.slice none 0 0] 29)) = W3 := ⟨_, rfl⟩
  have H0 : Hid (Em w W3 (.cells #[.slice xo m xc] 29) (.slice none 0 0) [] []) := by
    refine ⟨OwR.nil _ _ _, List.nodup_nil, fun g hg => by simp at hg, ?_, ?_, ?_, ?_⟩
    · rw [← hW3, Below.heap_alloc _ _ _ (by simp; omega), Below.heap_alloc _ _ _ (by simp)]
      exact heap_alloc_new w _
    · rw [← hW3, Below.heap_alloc _ _ _ (by simp)]
      have := heap_alloc_new (w.alloc (.cells #[.slice xo m xc] 29)) (.cells #[.slice none 0 0] 29)
      simpa using this
    · rw [← hW3]
      have := heap_alloc_new ((w.alloc (.cells #[.slice xo m xc] 29)).alloc (.cells #[.slice none 0 0] 29)) (.cells #[.slice none 0 0] 29)
      simpa using this
    · rw [← hW3]; exact grown_alloc (grown_alloc (grown_alloc (World.grownBy.refl _ _) _) _) _
  have HW := hide hW3
  have HEND : Hid (∀ (wr : World) (po : Option Addr) (pn pc : Nat) (L : List (List (List Int))) (F : List Nat), Em w wr (.cells #[.slice xo m xc] 29) (.slice po pn pc) L F → L = X →
      (wr.setCell ⟨w.heap.size + 1, 0, none⟩ (.slice po pn pc)).cell? ⟨w.heap.size + 1, 0, none⟩ = some (.slice po pn pc) ∧ OwCo (wr.setCell ⟨w.heap.size + 1, 0, none⟩ (.slice po pn pc)) (.agg #[.slice po pn pc]) X F ∧ F.Nodup ∧ (∀ g ∈ F, w.heap.size ≤ g) ∧ w.grownBy (wr.setCell ⟨w.heap.size + 1, 0, none⟩ (.slice po pn pc)) none) := by
    intro wr po pn pc L F h e
    subst e
    have G := grown_set wr (w.heap.size + 1) 0 (.slice po pn pc)
    refine ⟨?_, ⟨_, rfl, ok3.wr h.own (Wr.ofRow (F := [w.heap.size + 1]) G (fun x e => by have := Option.some.inj e; simp [this])) (fun x hx e => by simp at e; have := h.lo x hx; omega)⟩, h.nd, fun g hg => by have := h.lo g hg; omega, grown_new h.grown G (fun k e => by have := Option.some.inj e; omega)⟩
    rw [cell_of_row _ _ 0 _ _ (0, 0) (heap_setCell_same wr _ 0 _ _ _ h.rb)]; rfl
  clear hW3 hx hel hs h64
  go_enter Try.func48, Try.ntmps48
  go_wp2
  rw [unhide HW]
  clear HW
  go_loopw [4] (fun iv wr => ∃ (i : Nat) (po : Option Addr) (pn pc : Nat) (F : List Nat), i ≤ m ∧ iv = .int .i64 i ∧ Hid (Em w wr (.cells #[.slice xo m xc] 29) (.slice po pn pc) (X.take i) F)) (fun iv _ => m - (intOf iv).toNat)
  case atStart => exact ⟨0, none, 0, 0, [], Nat.zero_le _, rfl, H0⟩
  case round =>
    clear H0
    obtain ⟨i, po, pn, pc, F, hi, rfl, hem⟩ := hrel
    have f0 : wr.cell? ⟨w.heap.size, 0, none⟩ = some (.slice xo m xc) := by rw [cell_of_row wr _ 0 _ _ (0, 0) (unhide hem).fb]; rfl
    by_cases hlt : i < m
    · have hia : i < X.length := by rw [unhide HM]; exact hlt
      obtain ⟨pb, poff, pu, rfl, pc0, pq⟩ := unhide HEL i hia
      obtain ⟨plo, pcap, rfl, pel⟩ := pq
      have HPE := hide pel
      have hpl := unhide HS i hia
      have HP64 := hide (unhide H64 i hia)
      have HTN := hide (takeX_next X i hia)
      generalize X[i] = Pl at *
      obtain ⟨pl, HPL⟩ : ∃ pl, Hid (Pl.length = pl) := ⟨_, rfl⟩
      rw [unhide HPL] at hpl pc0
      have hiI : (i : Int) < (m : Int) := by omega
      have H3 := hide ((unhide hem).new (World.grownBy_alloc wr (.cells #[] 32) none))
      have HO3 : Hid (Ow2 (wr.alloc (.cells #[] 32)) (.slice (some ⟨wr.heap.size, 0, none⟩) 0 0) (Pl.take 0) (blk (.slice (some ⟨wr.heap.size, 0, none⟩) 0 0))) := OwR.made (n := 0) (fun w => OwI.nil .i64 3 w) (World.ownsRow_lit wr #[] 0 (Nat.zero_le _) (by unfold maxLen; omega) rfl)
      have HL3 : Hid (∀ x ∈ blk (.slice (some ⟨wr.heap.size, 0, none⟩) 0 0), w.heap.size + 3 ≤ x ∧ x ∉ F) := fun x hx => by
        have e9 : wr.heap.size = x := Option.some.inj (mem_blk.1 hx)
        have h5 := (unhide hem).size
        exact ⟨by omega, fun hF => by have := ok3.lt _ _ _ _ (unhide hem).own x hF; omega⟩
      obtain ⟨wo, HWO⟩ : ∃ wo, Hid (wr.heap.size = wo) := ⟨_, rfl⟩
      rw [unhide HWO] at HO3 HL3
      clear hem pel
      go_wp2
      rw [unhide HWO]
      clear f0
      go_loopw [5, 6] (fun v kv wr => ∃ (k : Nat) (vo : Option Addr) (vn vc : Nat) (F2 : List Nat), k ≤ pl ∧ v = .slice vo vn vc ∧ kv = .int .i64 k ∧ Hid (Ow2 wr (.slice vo vn vc) (Pl.take k) F2) ∧ Hid F2.Nodup ∧ Hid (∀ x ∈ F2, w.heap.size + 3 ≤ x ∧ x ∉ F) ∧ Hid (Em w wr (.cells #[.slice (some ⟨pb, poff, none⟩) m xc] 29) (.slice po pn pc) (X.take i) F)) (fun _ kv _ => pl - (intOf kv).toNat)
      case atStart => exact ⟨0, some ⟨wo, 0, none⟩, 0, 0, _, Nat.zero_le _, rfl, rfl, HO3, blk_nodup _, HL3, H3⟩
      case round =>
        clear HO3 HL3 H3
        obtain ⟨k, vo, vn, vc, F2, hk, rfl, rfl, ho, hn2, hl2, hem⟩ := hrel
        have f0 : wr.cell? ⟨w.heap.size, 0, none⟩ = some (.slice (some ⟨pb, poff, none⟩) m xc) := by rw [cell_of_row wr _ 0 _ _ (0, 0) (unhide hem).fb]; rfl
        have p0 := (unhide hem).grown.cell pc0 (by simp)
        by_cases hkl : k < pl
        · have hka : k < Pl.length := by rw [unhide HPL]; exact hkl
          obtain ⟨kb, koff, ku, rfl, kc0, kq⟩ := unhide HPE k hka
          obtain ⟨zo, zcap, rfl, zr⟩ := kq
          have hz64 := unhide HP64 k hka
          have HTK := hide (takeX_next Pl k hka)
          generalize Pl[k] = zs at *
          obtain ⟨zb, zoff, rfl, _⟩ := zr.2 0 (by omega)
          rw [hz64] at kc0 zr
          have k0 := (unhide hem).grown.cell kc0 (by simp)
          obtain ⟨W4, HW4⟩ : ∃ W4, Hid (wr.alloc (.cells #[] 3) = W4) := ⟨_, rfl⟩
          have g4 : wr.grownBy W4 none := by rw [← unhide HW4]; exact World.grownBy_alloc _ _ _
          have H4 := hide ((unhide hem).new g4)
          have HO4 := hide (ok2.keep (unhide ho) g4)
          have HE4 : Hid (W4.ownsRow wr.heap.size 3 1 (.slice (some ⟨wr.heap.size, 0, none⟩) 0 0) ([] : List Int).length (([] : List Int).map (Value.int .i64))) := by
            unfold Hid
            rw [← unhide HW4]
            exact World.ownsRow_lit wr #[] 0 (Nat.le_refl _) (by unfold maxLen; omega) rfl
          have HZ4 := hide (zr.grown (unhide H4).grown)
          have a0 : (wr.alloc (.cells #[] 3)).cell? ⟨w.heap.size, 0, none⟩ = some (.slice (some ⟨pb, poff, none⟩) m xc) := by rw [unhide HW4]; exact g4.cell f0 (by simp)
          have a1 := g4.cell p0 (by simp)
          have a2 := g4.cell k0 (by simp)
          rw [← unhide HW4] at a1 a2
          have hiI2 : (k : Int) < (pl : Int) := by omega
          have HS4 : Hid (wr.heap.size ≤ W4.heap.size) := g4.size
          have HZ64 := hide hz64
          have HLT : Hid ((∀ x ∈ F2, x < wr.heap.size) ∧ (∀ x ∈ F, x < wr.heap.size) ∧ w.heap.size + 3 ≤ wr.heap.size) := ⟨ok2.lt _ _ _ _ (unhide ho), ok3.lt _ _ _ _ (unhide hem).own, (unhide hem).size⟩
          clear hem ho k0 kc0 zr g4 hz64
          go_wp2_with (at_builtin; rw [unhide HW4]; refine append_rdI rfl _ _ rfl wr.heap.size (.slice (some ⟨wr.heap.size, 0, none⟩) 0 0) [] rfl (unhide HE4) ⟨zb, zoff, none⟩ 64 zcap zs rfl (unhide HZ4) (by simp) (unhide HS4) zs (List.nil_append zs) ?_)
          intro v5 w5 o5 g5
          obtain ⟨so5, sc5, rfl⟩ := own_form o5
          have hlo5 : ∀ x ∈ blk (.slice so5 zs.length sc5), wr.heap.size ≤ x := fun x hx => (o5.lt x (mem_blk.1 hx)).1
          have HB5 : Hid (∀ x ∈ blk (.slice so5 zs.length sc5), x ∉ F2 ∧ x ∉ F ∧ w.heap.size + 3 ≤ x) := fun x hx => by
            have h1 := hlo5 x hx
            obtain ⟨q1, q2, q3⟩ := unhide HLT
            exact ⟨fun h => by have := q1 x h; omega, fun h => by have := q2 x h; omega, by omega⟩
          have HU5 : Hid (OwI .i64 3 w5 (.slice so5 zs.length sc5) zs (blk (.slice so5 zs.length sc5))) := OwI.of o5
          have g5b : Wr [wr.heap.size] W4 w5 := Wr.ofRow g5 (fun g e => by have : wr.heap.size = g := Option.some.inj e; simp [this])
          have HO5 := hide (ok2.wr (unhide HO4) g5b (fun x hx e => by simp at e; have := (unhide HLT).1 x hx; omega))
          have H5 := hide ((unhide H4).wr g5b (fun x hx => by simp at hx; have := (unhide HLT).2.2; omega) (fun x hx e => by simp at e; have := (unhide HLT).2.1 x hx; omega))
          have HRL : Hid ((Pl.take k).length ≤ 1000000) := by unfold Hid; rw [List.length_take]; have := unhide HPL; omega
          obtain ⟨zl, HZL⟩ : ∃ zl, Hid (zs.length = zl) := ⟨_, rfl⟩
          rw [unhide HZL] at HU5 HB5 ⊢
          clear o5 g5 g5b hlo5 HE4 HZ4 HO4 H4 a0 a1 a2 HS4 f0 p0
          go_wp2_with (at_builtin; refine append_rowR ok1 Try.underlying42 infoIntSS rfl _ _ rfl (.slice vo vn vc) (Pl.take k) F2 rfl (unhide HO5) (unhide hn2) _ zs _ (unhide HU5) (blk_nodup _) (fun x hx => (unhide HB5 x hx).1) rfl (unhide HRL) _ (unhide HTK) ?_)
          intro v6 w6 F6 o6 n6 m6 g6
          obtain ⟨vo6, vc6, rfl⟩ := o6.form
          obtain ⟨tl, HTL⟩ : ∃ tl, Hid ((Pl.take (k + 1)).length = tl) := ⟨_, rfl⟩
          rw [unhide HTL] at o6 ⊢
          have HO6 := hide o6
          have HN6 := hide n6
          have hsub : ∀ x ∈ blk (.slice vo vn vc), x ∈ F2 := by
            obtain ⟨us, Fs, _, _, _, _, e9⟩ := unhide HO5
            intro x hx
            rw [e9]
            simp [hx]
          have HL6 : Hid (∀ x ∈ F6, w.heap.size + 3 ≤ x ∧ x ∉ F) := fun x hx => by
            rcases m6 x hx with h | h | h
            · exact unhide hl2 x h
            · exact ⟨(unhide HB5 x h).2.2, (unhide HB5 x h).2.1⟩
            · have h5 := (unhide H5).size
              exact ⟨by omega, fun hF => by have := ok3.lt _ _ _ _ (unhide H5).own x hF; omega⟩
          have H6 := hide ((unhide H5).wr g6 (fun x hx => (unhide hl2 x (hsub x hx)).1) (fun x hx hx2 => (unhide hl2 x (hsub x hx2)).2 hx))
          clear o6 n6 m6 g6 hsub HO5 H5 HU5 HB5 hn2 hl2 HRL HLT
          go_wp2
          go_roundw
          case rel => exact ⟨k + 1, vo6, tl, vc6, F6, by omega, rfl, by go_num, HO6, HN6, HL6, H6⟩
          case measure => simp [intOf]; omega
        · obtain rfl : k = pl := by omega
          have hall : Pl.take k = Pl := by rw [← unhide HPL, List.take_length]
          rw [hall] at ho
          obtain ⟨vo', vc', e8⟩ := (unhide ho).form
          obtain ⟨rfl, rfl, rfl⟩ : vo = vo' ∧ vn = Pl.length ∧ vc = vc' := by simpa using e8
          clear e8 hall
          have c2 : wr.cell? ⟨w.heap.size + 1 + 1, 0, none⟩ = some (.slice po pn pc) := by rw [cell_of_row wr _ 0 _ _ (0, 0) (unhide hem).cb]; rfl
          have HRL : Hid ((X.take i).length ≤ 1000000) := by
            unfold Hid
            rw [List.length_take]
            have h9 := unhide HM
            omega
          rw [unhide HPL] at ho ⊢
          go_wp2_with (at_builtin; refine append_rowR ok2 Try.underlying27 infoIntSSS rfl _ _ rfl (.slice po pn pc) (X.take i) F rfl (unhide hem).own (unhide hem).nd _ Pl F2 (unhide ho) (unhide hn2) (fun x hx => (unhide hl2 x hx).2) rfl (unhide HRL) _ (unhide HTN) ?_)
          intro v6 w6 F6 o6 n6 m6 g6
          obtain ⟨vo6, vc6, rfl⟩ := o6.form
          have hsub : ∀ x ∈ blk (.slice po pn pc), w.heap.size + 3 ≤ x := by
            obtain ⟨us, Fs, _, _, _, _, e9⟩ := (unhide hem).own
            intro x hx
            exact (unhide hem).lo x (by rw [e9]; simp [hx])
          have hl6 : ∀ x ∈ F6, w.heap.size + 3 ≤ x := fun x hx => by
            rcases m6 x hx with h | h | h
            · exact (unhide hem).lo x h
            · exact (unhide hl2 x h).1
            · have := (unhide hem).size; omega
          have H6 := hide ((unhide hem).put g6 o6 n6 hl6 hsub)
          have hcb6 := (g6.block (w.heap.size + 2) (by have := (unhide hem).size; omega) (fun e => by have := hsub _ e; omega)).trans (unhide hem).cb
          have c6 : w6.cell? ⟨w.heap.size + 1 + 1, 0, none⟩ = some (.slice po pn pc) := by rw [cell_of_row w6 _ 0 _ _ (0, 0) hcb6]; rfl
          have k6 : w6.frozen? ⟨w.heap.size + 1 + 1, 0, none⟩ = false := frozen_of_row w6 _ 0 _ _ hcb6
          obtain ⟨el, HEL2⟩ : ∃ el, Hid ((X.take (i + 1)).length = el) := ⟨_, rfl⟩
          rw [unhide HEL2] at H6 ⊢
          clear o6 n6 m6 g6 hl6 hsub hem ho hn2 hl2 HRL hcb6 c2 f0 p0
          go_wp2
          go_roundw
          case rel => exact ⟨i + 1, vo6, el, vc6, F6, by omega, by go_num, H6⟩
          case measure => simp [intOf]; omega
    · obtain rfl : i = m := by omega
      have hall : X.take i = X := by rw [← unhide HM, List.take_length]
      have c0 : wr.cell? ⟨w.heap.size + 1 + 1, 0, none⟩ = some (.slice po pn pc) := by rw [cell_of_row wr _ 0 _ _ (0, 0) (unhide hem).cb]; rfl
      have d0 : wr.cell? ⟨w.heap.size + 1, 0, none⟩ = some (.slice none 0 0) := by rw [cell_of_row wr _ 0 _ _ (0, 0) (unhide hem).rb]; rfl
      have k0 : wr.frozen? ⟨w.heap.size + 1, 0, none⟩ = false := frozen_of_row wr _ 0 _ _ (unhide hem).rb
      have HE := hide (unhide HEND wr po pn pc _ F (unhide hem) hall)
      clear hem HEND hall
      go_wp2
      refine bodyPost_ret (v := .agg #[.slice po pn pc]) (by have hcc := (unhide HE).1; simp [results, Try.results48, go_sem, hcc]) rfl ?_
      exact ⟨_, F, rfl, (unhide HE).2⟩

end Go.Proofs.Ytibgldanmhckiaa

namespace Go.Proofs.Ytibgldanmhckiaa
open Go.RowKit

theorem step_append_copy {w : World} {ops : Array Oper} {o : Oper} {a : Act} {K : Act → World → Prop} {Q : Exit → Act → World → Prop} {E : Prop} (hgd : o.guard = none) (s x : Operand)
    (ho : o.op = .call { callee := .builtin .append, args := #[s, x], argTypes := #[32, 32] })
    (sz : Nat) (hsz : w.heap.size = sz) (hs : a.eval s = .slice (some ⟨sz, 0, none⟩) 0 0) (ad : Addr) (m c : Nat) (zs : List Int) (hx : a.eval x = .slice (some ad) m c) (hr : Rd .i64 w (some ad) m zs) (hm : 0 < m) (hb : m ≤ 1000000)
    (h : ∀ g c' w', OwI .i64 3 w' (.slice (some ⟨g, 0, none⟩) zs.length c') zs (blk (.slice (some ⟨g, 0, none⟩) zs.length c')) → sz ≤ g → w.grownBy w' none → K (a.put o.dst (.slice (some ⟨g, 0, none⟩) zs.length c')) w') :
    if Region.wanted o (yielded ops a.tmps) = true then Oper.wp Try.prog o a (w.alloc (.cells #[] 3)) K Q else E := by
  subst hsz
  obtain ⟨i0, hi, hz0, hz1, hz2⟩ := info_parts info_i9
  have hl := hr.1
  have hr2 := hr.grown (World.grownBy_alloc w (.cells #[] 3) none)
  have ho2 : (w.alloc (.cells #[] 3)).ownsRow w.heap.size 3 1 (.slice (some ⟨w.heap.size, 0, none⟩) 0 0) 0 [] := World.ownsRow_lit w #[] 0 (Nat.le_refl _) (by unfold maxLen; omega) rfl
  refine step_append_lies _ hgd s x 32 ho w.heap.size 3 i0 _ 1 8 Try.underlying32 hi hz0 hz1 hz2 rfl (by decide) (.slice (some ⟨w.heap.size, 0, none⟩) 0 0) 0 _ hs ho2 ad m c (zs.map (Value.int .i64)) hx (by simp [hl]) (rd_newsI hr2) (by intro u hu; obtain ⟨y, _, rfl⟩ := List.mem_map.1 hu; rfl) (by omega) (by unfold maxLen; omega) (by omega) (by simp) _ rfl ?_
  intro g c' w' h1 h2 _ _
  rw [Nat.zero_add, List.nil_append, ← hl] at h1
  rw [Nat.zero_add, ← hl]
  refine h g c' w' (OwI.of h1) (h1.lt g rfl).1 ?_
  exact grown_new (World.grownBy_alloc w (.cells #[] 3) none) h2 (fun k e => by have : w.heap.size = k := Option.some.inj e; omega)

/-- The four boxes of WithBlock. -/
structure Wb (w W : World) (b0 b1 b2 : Array Value) : Prop where
  fb : W.heap[w.heap.size]? = some (.cells b0 26 (0, 0))
  cb : W.heap[w.heap.size + 1]? = some (.cells b1 29 (0, 0))
  pb : W.heap[w.heap.size + 1 + 1]? = some (.cells b2 31 (0, 0))
  rb : W.heap[w.heap.size + 1 + 1 + 1]? = some (.cells #[.slice none 0 0] 29 (0, 0))
  grown : w.grownBy W none
theorem Wb.new {w W W' : World} {b0 b1 b2 : Array Value} (h : Wb w W b0 b1 b2) (g : W.grownBy W' none) : Wb w W' b0 b1 b2 := ⟨grown_atT g h.fb (by simp), grown_atT g h.cb (by simp), grown_atT g h.pb (by simp), grown_atT g h.rb (by simp), grown_trans h.grown g⟩
theorem Wb.size {w W : World} {b0 b1 b2 : Array Value} (h : Wb w W b0 b1 b2) : w.heap.size + 4 ≤ W.heap.size := by have := (Array.getElem?_eq_some_iff.1 h.rb).1; omega
theorem Wb.start (w : World) (b0 b1 b2 : Array Value) : Wb w ((((w.alloc (.cells b0 26)).alloc (.cells b1 29)).alloc (.cells b2 31)).alloc (.cells #[.slice none 0 0] 29)) b0 b1 b2 := by
  refine ⟨?_, ?_, ?_, ?_, grown_alloc (grown_alloc (grown_alloc (grown_alloc (World.grownBy.refl _ _) _) _) _) _⟩
  · rw [Below.heap_alloc _ _ _ (by first | (simp; done) | (simp; omega)), Below.heap_alloc _ _ _ (by first | (simp; done) | (simp; omega)), Below.heap_alloc _ _ _ (by simp)]
    exact heap_alloc_new w _
  · rw [Below.heap_alloc _ _ _ (by first | (simp; done) | (simp; omega)), Below.heap_alloc _ _ _ (by simp)]
    have := heap_alloc_new (w.alloc (.cells b0 26)) (.cells b1 29)
    simpa using this
  · rw [Below.heap_alloc _ _ _ (by simp)]
    have := heap_alloc_new ((w.alloc (.cells b0 26)).alloc (.cells b1 29)) (.cells b2 31)
    simpa using this
  · have := heap_alloc_new (((w.alloc (.cells b0 26)).alloc (.cells b1 29)).alloc (.cells b2 31)) (.cells #[.slice none 0 0] 29)
    simpa using this
theorem Wb.cell {w W : World} {b0 b1 b2 : Array Value} (h : Wb w W b0 b1 b2) : (∀ j, W.cell? ⟨w.heap.size, j, none⟩ = b0[j]?) ∧ (∀ j, W.cell? ⟨w.heap.size + 1, j, none⟩ = b1[j]?) ∧ (∀ j, W.cell? ⟨w.heap.size + 1 + 1, j, none⟩ = b2[j]?) :=
  ⟨fun j => cell_of_row W _ j _ _ (0, 0) h.fb, fun j => cell_of_row W _ j _ _ (0, 0) h.cb, fun j => cell_of_row W _ j _ _ (0, 0) h.pb⟩
theorem Wb.set {w W : World} {b0 b1 b2 : Array Value} (h : Wb w W b0 b1 b2) {g : Nat} (hg : w.heap.size + 4 ≤ g) (k : Nat) (v : Value) : Wb w (W.setCell ⟨g, k, none⟩ v) b0 b1 b2 := by
  have gs := grown_set W g k v
  exact ⟨grown_atT gs h.fb (by simp; omega), grown_atT gs h.cb (by simp; omega), grown_atT gs h.pb (by simp; omega), grown_atT gs h.rb (by simp; omega), grown_new h.grown gs (fun x e => by have := Option.some.inj e; omega)⟩
theorem OwR.memF {α : Type} {e : TypeId} {P : World → Value → α → List Nat → Prop} {w : World} {g n c : Nat} {L : List α} {F : List Nat} (h : OwR e P w (.slice (some ⟨g, 0, none⟩) n c) L F) : g ∈ F := by
  obtain ⟨us, Fs, _, _, _, _, rfl⟩ := h
  exact List.mem_append.2 (.inl (mem_blk.2 rfl))
/-- The answer is put into its box. -/
theorem Wb.fin {w W : World} {b0 b1 b2 : Array Value} (h : Wb w W b0 b1 b2) (v : Value) : (W.setCell ⟨w.heap.size + 1 + 1 + 1, 0, none⟩ v).cell? ⟨w.heap.size + 1 + 1 + 1, 0, none⟩ = some v ∧ W.cell? ⟨w.heap.size + 1 + 1 + 1, 0, none⟩ = some (.slice none 0 0) ∧ W.frozen? ⟨w.heap.size + 1 + 1 + 1, 0, none⟩ = false ∧ w.grownBy (W.setCell ⟨w.heap.size + 1 + 1 + 1, 0, none⟩ v) none := by
  refine ⟨?_, by rw [cell_of_row W _ 0 _ _ (0, 0) h.rb]; rfl, frozen_of_row W _ 0 _ _ h.rb, grown_new h.grown (grown_set _ _ _ _) (fun k e => by have := Option.some.inj e; omega)⟩
  rw [cell_of_row _ _ 0 _ _ (0, 0) (heap_setCell_same W _ 0 _ _ _ h.rb)]; rfl

set_option maxRecDepth 20000 in
set_option maxHeartbeats 6400000 in
theorem specWith (p wd ht rs : Int) (ao : Option Addr) (n cap : Nat) (C : Nat → Nat → Int) (v : Value) (X : List (List (List Int))) (co ro cl : Int) (bo : Option Addr) (bn bc : Nat) (bl : List Int) (w : World) (hr : RdC w ao n C) (hx : Rd3 w v X) (hs : szCo X ≤ 1048576) (hbl : Rd .i64 w bo bn bl) (fb : Bool) (HFB : Hid (frameB p wd ht rs n C = fb)) (L : List (List (List Int))) (HL : Hid (withBlockF fb wd ht n C X co ro cl bl = L)) :
    Calls Try.prog 11 #[.agg #[.int .i64 p, .int .i64 wd, .int .i64 ht, .int .i64 rs, .slice ao n cap], .agg #[v], .agg #[.int .i64 co, .int .i64 ro, .int .i64 cl], .slice bo bn bc] w fun e w' => ∃ u F, e = .returned u ∧ OwCo w' u L F ∧ F.Nodup ∧ (∀ g ∈ F, w.heap.size ≤ g) ∧ w.grownBy w' none := by
  obtain ⟨xo, xc, rfl, hel⟩ := id hx
  obtain ⟨m, HM⟩ : ∃ m, Hid (X.length = m) := ⟨_, rfl⟩
  have HX := hide hx
  rw [unhide HM] at HX ⊢
  have HW0 := hide (Wb.start w #[.int .i64 p, .int .i64 wd, .int .i64 ht, .int .i64 rs, .slice ao n cap] #[.slice xo m xc] #[.int .i64 co, .int .i64 ro, .int .i64 cl])
  obtain ⟨W4, HW⟩ : ∃ W4, Hid (((((w.alloc (.cells #[.int .i64 p, .int .i64 wd, .int .i64 ht, .int .i64 rs, .slice ao n cap] 26)).alloc (.cells #[.slice xo m xc] 29)).alloc (.cells #[.int .i64 co, .int .i64 ro, .int .i64 cl] 31)).alloc (.cells #[.slice none 0 0] 29)) = W4) := ⟨_, rfl⟩
  rw [unhide HW] at HW0
  obtain ⟨ok, HOK⟩ : ∃ ok, Hid (coefsOkF fb wd ht n C X = ok) := ⟨_, rfl⟩
  have HCO := hide (specCoefsOk p wd ht rs ao n cap C _ X W4 (hr.grown (unhide HW0).grown) (st3 _ _ _ _ (unhide HX) (unhide HW0).grown) hs fb ok HFB HOK)
  have HR := hide hr
  have HBL := hide hbl
  have HNIL : Hid (L = [] → ∀ W : World, Wb w W #[.int .i64 p, .int .i64 wd, .int .i64 ht, .int .i64 rs, .slice ao n cap] #[.slice xo m xc] #[.int .i64 co, .int .i64 ro, .int .i64 cl] → OwCo (W.setCell ⟨w.heap.size + 1 + 1 + 1, 0, none⟩ (.slice none 0 0)) (.agg #[.slice none 0 0]) L [] ∧ ([] : List Nat).Nodup ∧ (∀ g ∈ ([] : List Nat), w.heap.size ≤ g) ∧ w.grownBy (W.setCell ⟨w.heap.size + 1 + 1 + 1, 0, none⟩ (.slice none 0 0)) none) := fun e W h => by
    subst e
    exact ⟨⟨_, rfl, OwR.nil _ _ _⟩, List.nodup_nil, fun g hg => by simp at hg, (h.fin _).2.2.2⟩
  clear hr hx hel hs hbl
  obtain ⟨lv, HLV⟩ : ∃ lv, Hid (levB (-16383) 16383 bl = lv) := ⟨_, rfl⟩
  cases ok with
  | false =>
    have e : L = [] := by rw [← unhide HL, withBlockF, unhide HOK]; rfl
    go_enter Try.func11, Try.ntmps11
    go_wp2_with fail
    rw [unhide HW]
    refine (unhide HCO).mono ?_
    rintro e w1 ⟨rfl, g1⟩
    have HW1 := hide ((unhide HW0).new g1)
    clear g1 HCO
    have HE := hide (unhide HNIL e w1 (unhide HW1))
    have HFC := hide ((unhide HW1).fin (.slice none 0 0))
    have d0 := (unhide HFC).2.1
    have k0 := (unhide HFC).2.2.1
    clear HW1 HNIL e
    go_wp2
    refine bodyPost_ret (v := .agg #[.slice none 0 0]) (by have hcc := (unhide HFC).1; simp [results, Try.results11, go_sem, hcc]) rfl ?_
    exact ⟨_, [], rfl, unhide HE⟩
  | true =>
    have hfb : fb = true := by
      cases fb with
      | true => rfl
      | false => have := unhide HOK; cases this
    subst hfb
    have hg := geo_of (unhide HFB)
    have HG := hide hg
    have hokb : coefsOkB wd ht n C X = true := unhide HOK
    have HKB := hide hokb
    clear hg hokb
    cases lv with
    | false =>
      have e : L = [] := by rw [← unhide HL, withBlockF, unhide HOK, unhide HLV]; rfl
      go_enter Try.func11, Try.ntmps11
      go_wp2_with fail
      rw [unhide HW]
      refine (unhide HCO).mono ?_
      rintro e w1 ⟨rfl, g1⟩
      have HW1 := hide ((unhide HW0).new g1)
      clear g1 HCO
      go_wp2_with fail
      refine (specLevel _ bn bc bl w1 ((unhide HBL).grown (unhide HW1).grown) false HLV).mono ?_
      rintro e w2 ⟨rfl, g2⟩
      have HW2 := hide ((unhide HW1).new g2)
      clear g2 HW1
      have HE := hide (unhide HNIL e w2 (unhide HW2))
      have HFC := hide ((unhide HW2).fin (.slice none 0 0))
      have d0 := (unhide HFC).2.1
      have k0 := (unhide HFC).2.2.1
      clear HW2 HNIL e
      go_wp2
      refine bodyPost_ret (v := .agg #[.slice none 0 0]) (by have hcc := (unhide HFC).1; simp [results, Try.results11, go_sem, hcc]) rfl ?_
      exact ⟨_, [], rfl, unhide HE⟩
    | true =>
      cases hpl : placeO wd ht n C co ro cl with
      | none =>
        have e : L = [] := by rw [← unhide HL, withBlockF, unhide HOK, unhide HLV, hpl]; rfl
        have HPL : Hid ((match placeO wd ht n C co ro cl with | some k => ((k : Int), true) | none => (0, false)) = (0, false)) := by unfold Hid; rw [hpl]
        clear hpl
        go_enter Try.func11, Try.ntmps11
        go_wp2_with fail
        rw [unhide HW]
        refine (unhide HCO).mono ?_
        rintro e w1 ⟨rfl, g1⟩
        have HW1 := hide ((unhide HW0).new g1)
        clear g1 HCO
        go_wp2_with fail
        refine (specLevel _ bn bc bl w1 ((unhide HBL).grown (unhide HW1).grown) true HLV).mono ?_
        rintro e w2 ⟨rfl, g2⟩
        have HW2 := hide ((unhide HW1).new g2)
        clear g2 HW1
        have z0 := (unhide HW2).cell.1 0
        have z1 := (unhide HW2).cell.1 1
        have z2 := (unhide HW2).cell.1 2
        have z3 := (unhide HW2).cell.1 3
        have z4 := (unhide HW2).cell.1 4
        have y0 := (unhide HW2).cell.2.2 0
        have y1 := (unhide HW2).cell.2.2 1
        have y2 := (unhide HW2).cell.2.2 2
        simp only [List.getElem?_toArray, List.getElem?_cons_zero, List.getElem?_cons_succ] at z0 z1 z2 z3 z4 y0 y1 y2
        go_wp2_with fail
        refine (specPlace p wd ht rs ao n cap C w2 ((unhide HR).grown (unhide HW2).grown) (unhide HG) co ro cl 0 false HPL).mono ?_
        rintro e w3 ⟨rfl, g3⟩
        have HW3 := hide ((unhide HW2).new g3)
        clear z0 z1 z2 z3 z4 y0 y1 y2
        clear g3 HW2
        have HE := hide (unhide HNIL e w3 (unhide HW3))
        have HFC := hide ((unhide HW3).fin (.slice none 0 0))
        have d0 := (unhide HFC).2.1
        have k0 := (unhide HFC).2.2.1
        clear HW3 HNIL e
        go_wp2
        refine bodyPost_ret (v := .agg #[.slice none 0 0]) (by have hcc := (unhide HFC).1; simp [results, Try.results11, go_sem, hcc]) rfl ?_
        exact ⟨_, [], rfl, unhide HE⟩
      | some k =>
        have HPL : Hid ((match placeO wd ht n C co ro cl with | some k => ((k : Int), true) | none => (0, false)) = ((k : Int), true)) := by unfold Hid; rw [hpl]
        have hLE : L = if hiddenI wd ht n C co.toNat ro cl then [] else X.set co.toNat ((X.getD co.toNat []).set k bl) := by rw [← unhide HL, withBlockF, unhide HOK, unhide HLV, hpl]; rfl
        obtain ⟨c, r, l, rfl, rfl, rfl, hcn, -, -, -, hkb⟩ := place_in hpl
        rw [Int.toNat_natCast] at hLE
        obtain ⟨hd, HHD⟩ : ∃ hd, Hid (hiddenI wd ht n C c r l = hd) := ⟨_, rfl⟩
        rw [unhide HHD] at hLE
        clear hpl
        cases hd with
        | true =>
          have e : L = [] := hLE
          clear hLE
          go_enter Try.func11, Try.ntmps11
          go_wp2_with fail
          rw [unhide HW]
          refine (unhide HCO).mono ?_
          rintro e w1 ⟨rfl, g1⟩
          have HW1 := hide ((unhide HW0).new g1)
          clear g1 HCO
          go_wp2_with fail
          refine (specLevel _ bn bc bl w1 ((unhide HBL).grown (unhide HW1).grown) true HLV).mono ?_
          rintro e w2 ⟨rfl, g2⟩
          have HW2 := hide ((unhide HW1).new g2)
          clear g2 HW1
          have z0 := (unhide HW2).cell.1 0
          have z1 := (unhide HW2).cell.1 1
          have z2 := (unhide HW2).cell.1 2
          have z3 := (unhide HW2).cell.1 3
          have z4 := (unhide HW2).cell.1 4
          have y0 := (unhide HW2).cell.2.2 0
          have y1 := (unhide HW2).cell.2.2 1
          have y2 := (unhide HW2).cell.2.2 2
          simp only [List.getElem?_toArray, List.getElem?_cons_zero, List.getElem?_cons_succ] at z0 z1 z2 z3 z4 y0 y1 y2
          go_wp2_with fail
          refine (specPlace p wd ht rs ao n cap C w2 ((unhide HR).grown (unhide HW2).grown) (unhide HG) c r l k true HPL).mono ?_
          rintro e w3 ⟨rfl, g3⟩
          have HW3 := hide ((unhide HW2).new g3)
          clear z0 z1 z2 z3 z4 y0 y1 y2
          clear g3 HW2
          have z0 := (unhide HW3).cell.1 0
          have z1 := (unhide HW3).cell.1 1
          have z2 := (unhide HW3).cell.1 2
          have z3 := (unhide HW3).cell.1 3
          have z4 := (unhide HW3).cell.1 4
          have y0 := (unhide HW3).cell.2.2 0
          have y1 := (unhide HW3).cell.2.2 1
          have y2 := (unhide HW3).cell.2.2 2
          simp only [List.getElem?_toArray, List.getElem?_cons_zero, List.getElem?_cons_succ] at z0 z1 z2 z3 z4 y0 y1 y2
          go_wp2_with fail
          refine (specHidden p wd ht rs ao n cap C w3 ((unhide HR).grown (unhide HW3).grown) (unhide HG) c hcn r l true HHD).mono ?_
          rintro e w5 ⟨rfl, g5⟩
          have HW5 := hide ((unhide HW3).new g5)
          clear z0 z1 z2 z3 z4 y0 y1 y2
          clear g5 HW3
          have HE := hide (unhide HNIL e w5 (unhide HW5))
          have HFC := hide ((unhide HW5).fin (.slice none 0 0))
          have d0 := (unhide HFC).2.1
          have k0 := (unhide HFC).2.2.1
          clear HW5 HNIL e
          go_wp2
          refine bodyPost_ret (v := .agg #[.slice none 0 0]) (by have hcc := (unhide HFC).1; simp [results, Try.results11, go_sem, hcc]) rfl ?_
          exact ⟨_, [], rfl, unhide HE⟩
        | false =>
          obtain ⟨hX, hXl, hXb⟩ := ok_plane (unhide HKB) c hcn
          have hkX : k < X[c].length := by omega
          have hLE2 : L = X.set c (X[c].set k bl) := by rw [hLE]; simp [hX]
          have hd128 := dims_of (unhide HG) c hcn
          have hn4 := (unhide HG).n4
          have hl64 := lev_len (unhide HLV)
          have hcm : (c : Int) < (m : Int) := by have := unhide HM; omega
          have HCP : Hid (∀ W, w.grownBy W none → Calls Try.prog 48 #[.agg #[.slice xo m xc]] W fun e w' => ∃ u F, e = .returned u ∧ OwCo w' u X F ∧ F.Nodup ∧ (∀ g ∈ F, W.heap.size ≤ g) ∧ W.grownBy w' none) := fun W gW => by
            refine specCopy _ X W (st3 _ _ _ _ (unhide HX) gW) ?_ ?_ ?_
            · have h1 := unhide HKB
              unfold coefsOkB at h1
              rw [Bool.and_eq_true] at h1
              have h2 : X.length = n := of_decide_eq_true h1.1
              omega
            · intro c' hc'
              have h1 := unhide HKB
              unfold coefsOkB at h1
              rw [Bool.and_eq_true] at h1
              have h2 : X.length = n := of_decide_eq_true h1.1
              obtain ⟨_, h3, _⟩ := ok_plane (unhide HKB) c' (by omega)
              have h4 := dims_of (unhide HG) c' (by omega)
              have h5 : bwG wd n C c' * bhG ht n C c' ≤ 128 * 128 := Nat.mul_le_mul h4.bw1.2 h4.bh1.2
              omega
            · intro c' hc' k' hk'
              have h1 := unhide HKB
              unfold coefsOkB at h1
              rw [Bool.and_eq_true] at h1
              have h2 : X.length = n := of_decide_eq_true h1.1
              obtain ⟨_, _, h3⟩ := ok_plane (unhide HKB) c' (by omega)
              exact block_len (h3 k' hk')
          clear hLE hXb hXl hkb hd128
          obtain ⟨zb, zoff, hzo, _⟩ := (unhide HBL).2 0 (by have := (unhide HBL).1; omega)
          subst hzo
          have hbn := (unhide HBL).1
          have hb64 : bn = 64 := by omega
          have HB64 := hide hb64
          clear hbn hb64 hl64
          have HL2 := hide hLE2
          clear hLE2
          go_enter Try.func11, Try.ntmps11
          go_wp2_with fail
          rw [unhide HW]
          refine (unhide HCO).mono ?_
          rintro e w1 ⟨rfl, g1⟩
          have HW1 := hide ((unhide HW0).new g1)
          clear g1 HCO
          go_wp2_with fail
          refine (specLevel _ bn bc bl w1 ((unhide HBL).grown (unhide HW1).grown) true HLV).mono ?_
          rintro e w2 ⟨rfl, g2⟩
          have HW2 := hide ((unhide HW1).new g2)
          clear g2 HW1
          have z0 := (unhide HW2).cell.1 0
          have z1 := (unhide HW2).cell.1 1
          have z2 := (unhide HW2).cell.1 2
          have z3 := (unhide HW2).cell.1 3
          have z4 := (unhide HW2).cell.1 4
          have y0 := (unhide HW2).cell.2.2 0
          have y1 := (unhide HW2).cell.2.2 1
          have y2 := (unhide HW2).cell.2.2 2
          simp only [List.getElem?_toArray, List.getElem?_cons_zero, List.getElem?_cons_succ] at z0 z1 z2 z3 z4 y0 y1 y2
          go_wp2_with fail
          refine (specPlace p wd ht rs ao n cap C w2 ((unhide HR).grown (unhide HW2).grown) (unhide HG) c r l k true HPL).mono ?_
          rintro e w3 ⟨rfl, g3⟩
          have HW3 := hide ((unhide HW2).new g3)
          clear z0 z1 z2 z3 z4 y0 y1 y2
          clear g3 HW2
          have z0 := (unhide HW3).cell.1 0
          have z1 := (unhide HW3).cell.1 1
          have z2 := (unhide HW3).cell.1 2
          have z3 := (unhide HW3).cell.1 3
          have z4 := (unhide HW3).cell.1 4
          have y0 := (unhide HW3).cell.2.2 0
          have y1 := (unhide HW3).cell.2.2 1
          have y2 := (unhide HW3).cell.2.2 2
          simp only [List.getElem?_toArray, List.getElem?_cons_zero, List.getElem?_cons_succ] at z0 z1 z2 z3 z4 y0 y1 y2
          go_wp2_with fail
          refine (specHidden p wd ht rs ao n cap C w3 ((unhide HR).grown (unhide HW3).grown) (unhide HG) c hcn r l false HHD).mono ?_
          rintro e w5 ⟨rfl, g5⟩
          have HW5 := hide ((unhide HW3).new g5)
          clear z0 z1 z2 z3 z4 y0 y1 y2
          clear g5 HW3
          have q1 := (unhide HW5).cell.2.1 0
          go_wp2_with fail
          refine (unhide HCP w5 (unhide HW5).grown).mono ?_
          rintro e w6 ⟨u6, F6, rfl, o6, n6, l6, g6⟩
          obtain ⟨v6, rfl, o6⟩ := o6
          obtain ⟨yo, yc, rfl⟩ := o6.form
          have HW6 := hide ((unhide HW5).new g6)
          rw [unhide HM] at o6 ⊢
          have HO6 := hide o6
          have HN6 := hide n6
          have HL6 : Hid (∀ g ∈ F6, w.heap.size + 4 ≤ g) := fun g hg => by have := l6 g hg; have := (unhide HW5).size; omega
          clear o6 n6 l6 g6 HCP q1
          obtain ⟨W7, HW7⟩ : ∃ W7, Hid (w6.alloc (.cells #[.slice yo m yc] 29) = W7) := ⟨_, rfl⟩
          have g7 : w6.grownBy W7 none := by rw [← unhide HW7]; exact World.grownBy_alloc _ _ _
          have hob : W7.heap[w6.heap.size]? = some (.cells #[.slice yo m yc] 29 (0, 0)) := by rw [← unhide HW7]; exact heap_alloc_new w6 _
          have H7 := hide ((unhide HW6).new g7)
          have HO7 := hide (ok3.keep (unhide HO6) g7)
          have HLT6 : Hid (∀ g ∈ F6, g < w6.heap.size) := ok3.lt _ _ _ _ (unhide HO6)
          have HZ7 := hide ((unhide HBL).grown (unhide H7).grown)
          obtain ⟨ob, HOB⟩ : ∃ ob, Hid (w6.heap.size = ob) := ⟨_, rfl⟩
          have hobl : w.heap.size + 4 ≤ ob := by rw [← unhide HOB]; exact (unhide HW6).size
          rw [unhide HOB] at hob HLT6
          obtain ⟨gy, ycap, uy, Fy, ey, cy, py, ny, sy, back⟩ := (unhide HO7).turn ok2 (unhide HN6) c hX
          obtain ⟨rfl, rfl⟩ : yo = some ⟨gy, 0, none⟩ ∧ yc = ycap := by simp at ey; exact ⟨ey.1, ey.2.2⟩
          obtain ⟨gz, zc2, uz, ez, cz, fz⟩ := py.slot k hkX
          subst ez
          obtain ⟨pl, HPLN⟩ : ∃ pl, Hid (X[c].length = pl) := ⟨_, hide rfl⟩
          have HPY := hide py
          rw [unhide HPLN] at cy HPY hkX
          have hkI : (k : Int) < (pl : Int) := by omega
          have a0 : W7.cell? ⟨ob, 0, none⟩ = some (.slice (some ⟨gy, 0, none⟩) m yc) := by rw [cell_of_row W7 _ 0 _ _ (0, 0) hob]; rfl
          have a1 : W7.cell? ⟨w.heap.size + 1 + 1, 0, none⟩ = some (.int .i64 (c : Int)) := (unhide H7).cell.2.2 0
          have HBK := hide back
          have HNY := hide ny
          have HSY := hide sy
          have HOBX := hide hob
          have HSS := hide (And.intro a0 (And.intro a1 cy))
          have HKEEP : Hid (∀ W, W7.grownBy W none → W.cell? ⟨ob, 0, none⟩ = some (.slice (some ⟨gy, 0, none⟩) m yc) ∧ W.cell? ⟨w.heap.size + 1 + 1, 0, none⟩ = some (.int .i64 (c : Int)) ∧ W.cell? ⟨gy, c, none⟩ = some (.slice (some ⟨gz, 0, none⟩) pl zc2)) := fun W g => ⟨g.cell a0 (by simp), g.cell a1 (by simp), g.cell cy (by simp)⟩
          clear HW6 HO6 HW5 g7 ey py back ny sy hob
          go_wp2
          rw [unhide HW7, unhide HOB]
          clear HW7
          refine wp_region_noPanic ?_
          refine wp_region_tailL 20 (fun w' => w'.cell? ⟨ob, 0, none⟩ = some (.slice (some ⟨gy, 0, none⟩) m yc) ∧ w'.cell? ⟨w.heap.size + 1 + 1, 0, none⟩ = some (.int .i64 (c : Int)) ∧ w'.cell? ⟨gy, c, none⟩ = some (.slice (some ⟨gz, 0, none⟩) pl zc2)) [true, true, true, true, true, true, true, false, true, false, false, false] (by kernel_rfl) (fun _ _ _ _ _ h => h) rfl (by decide) (by kernel_rfl) (unhide HSS) ?_
          iterate 7
            refine heldF_take (v := ?_) (Or.inl ⟨by rfl, ?_⟩) ?_
            rotate_left 1
            · intro w' hSw
              try dsimp only at hSw
              obtain ⟨s0, s1, s2⟩ := hSw
              go_simp
              try with_reducible rfl
            simp only [Act.put, List.setIfInBounds_toArray, List.set_cons_zero, List.set_cons_succ]
          refine heldF_skip ?_
          refine heldF_take (v := ?_) (Or.inl ⟨by rfl, ?_⟩) ?_
          rotate_left 1
          · intro w' hSw
            try dsimp only at hSw
            obtain ⟨s0, s1, s2⟩ := hSw
            go_simp
            try with_reducible rfl
          simp only [Act.put, List.setIfInBounds_toArray, List.set_cons_zero, List.set_cons_succ]
          refine heldF_skip (heldF_skip (heldF_skip (heldF_nil ?_)))
          iterate 7 refine tailL_skip ?_
          refine tailL_step (fun K hK => ?_)
          go_simp
          refine hK.out _ _ (.inr (unhide HKEEP _ (grown_drew (grown_alloc (World.grownBy.refl _ _) _)))) ?_
          clear hK K
          refine tailL_skip ?_
          refine tailL_step (fun K hK => ?_)
          refine step_append_copy (w := W7.drew) (by rfl) _ _ (by rfl) W7.heap.size (by rfl) (by rfl) ⟨zb, zoff, none⟩ bn bc bl (by rfl) ((unhide HZ7).grown (grown_drew (World.grownBy.refl _ _))) (by have := unhide HB64; omega) (by have := unhide HB64; omega) ?_
          intro g9 c9 w9 ho9 hg9 gr9
          have G9 := grown_trans (grown_drew (World.grownBy.refl W7 none)) gr9
          have HS9 := hide (unhide HKEEP w9 G9)
          have x0 : w9.cell? ⟨gz, k, none⟩ = some uz := G9.cell cz (by simp)
          have HP9 := hide (ok2.keep (unhide HPY) G9)
          have hgzF : gz ∈ Fy := OwR.memF (unhide HPY)
          have hgz4 : w.heap.size + 4 ≤ gz := unhide HL6 gz (unhide HSY gz hgzF)
          have hgzo : gz < ob := unhide HLT6 gz (unhide HSY gz hgzF)
          have x1 : w9.frozen? ⟨gz, k, none⟩ = false := by
            obtain ⟨g', c', u', e', _, f'⟩ := (unhide HP9).slot k (by rw [unhide HPLN]; exact hkX)
            have : g' = gz := by simp at e'; exact e'.1.symm
            rw [← this]; exact f'
          obtain ⟨vn, HVN⟩ : ∃ vn, Hid (Value.slice (some ⟨g9, 0, none⟩) bl.length c9 = vn) := ⟨_, rfl⟩
          rw [unhide HVN] at ho9
          obtain ⟨Fn, HPN, HNN, HMN⟩ : ∃ Fn, Hid (Ow2 (w9.setCell ⟨gz, k, none⟩ vn) (.slice (some ⟨gz, 0, none⟩) pl zc2) (X[c].set k bl) Fn) ∧ Hid Fn.Nodup ∧ Hid (∀ x ∈ Fn, x ∈ Fy ∨ x = g9) := by
            obtain ⟨Fn, h1, h2, h3⟩ := OwR.put (OwI.ok _ _) (unhide HP9) (unhide HNY) k (by rw [unhide HPLN]; exact hkX) (g := gz) rfl ho9 (blk_nodup _) (fun x hx hxF => by
              rw [← unhide HVN] at hx
              have e9 : g9 = x := Option.some.inj (mem_blk.1 hx)
              have := unhide HLT6 x (unhide HSY x hxF)
              have h7 := (Array.getElem?_eq_some_iff.1 (unhide HOBX)).1
              omega)
            refine ⟨Fn, h1, h2, fun x hx => (h3 x hx).imp id (fun h => ?_)⟩
            rw [← unhide HVN] at h
            exact (Option.some.inj (mem_blk.1 h)).symm
          obtain ⟨F9, HO9, HN9, HM9⟩ : ∃ F9, Hid (Ow3 (w9.setCell ⟨gz, k, none⟩ vn) (.slice (some ⟨gy, 0, none⟩) m yc) L F9) ∧ Hid F9.Nodup ∧ Hid (∀ x ∈ F9, w.heap.size + 4 ≤ x) := by
            have h7 := (Array.getElem?_eq_some_iff.1 (unhide HOBX)).1
            have hW : Wr Fy W7 (w9.setCell ⟨gz, k, none⟩ vn) := (Wr.ofNone G9).trans (Wr.ofRow (grown_set w9 gz k vn) (fun x hx => by have e9 : gz = x := Option.some.inj hx; rw [← e9]; exact hgzF))
            obtain ⟨F9, h1, h2, h3⟩ := unhide HBK _ (X[c].set k bl) Fn hW (by rw [unhide HPLN]; exact unhide HPN) (unhide HNN) (fun x hx => (unhide HMN x hx).imp id (fun e hxF => by have := unhide HLT6 x hxF; omega))
            rw [← unhide HL2] at h1
            refine ⟨F9, h1, h2, fun x hx => ?_⟩
            rcases h3 x hx with h | h
            · exact unhide HL6 x h
            · rcases unhide HMN x h with h | h
              · exact unhide HL6 x (unhide HSY x h)
              · omega
          have HWB := hide (((unhide H7).new G9).set hgz4 k vn)
          have HC9 : Hid ((w9.setCell ⟨gz, k, none⟩ vn).cell? ⟨ob, 0, none⟩ = some (.slice (some ⟨gy, 0, none⟩) m yc)) := (grown_set w9 gz k vn).cell (unhide HS9).1 (by simp; omega)
          have hvn := unhide HVN
          clear HVN
          subst hvn
          refine hK.out _ _ (.inr (unhide HS9)) ?_
          clear hK K ho9 gr9 G9 HBK HP9 HPN HPY HOBX HKEEP
          simp only [Act.put, List.setIfInBounds_toArray, List.set_cons_zero, List.set_cons_succ]
          refine tailL_step (fun K hK => ?_)
          go_simp
          refine hK.out _ _ (.inr (unhide HS9)) ?_
          clear hK K
          refine tailL_step (fun K hK => ?_)
          go_simp
          refine hK.out _ _ (.inl rfl) ?_
          clear hK K x0 x1
          refine tailL_nil (NoPanic.normal ?_)
          obtain ⟨W9, HW9⟩ : ∃ W9, Hid (w9.setCell ⟨gz, k, none⟩ (.slice (some ⟨g9, 0, none⟩) bl.length c9) = W9) := ⟨_, rfl⟩
          rw [unhide HW9] at HO9 HWB HC9 ⊢
          clear HW9
          have x9 := unhide HC9
          have HFC := hide ((unhide HWB).fin (.slice (some ⟨gy, 0, none⟩) m yc))
          have d0 := (unhide HFC).2.1
          have k0 := (unhide HFC).2.2.1
          go_wp2
          refine bodyPost_ret (v := .agg #[.slice (some ⟨gy, 0, none⟩) m yc]) (by have hcc := (unhide HFC).1; simp [results, Try.results11, go_sem, hcc]) rfl ?_
          refine ⟨_, F9, rfl, ⟨_, rfl, ok3.wr (unhide HO9) (Wr.ofRow (F := [w.heap.size + 1 + 1 + 1]) (grown_set W9 _ 0 _) (fun x hx => by have := Option.some.inj hx; simp [this])) (fun x hx e => ?_)⟩, unhide HN9, fun x hx => ?_, (unhide HFC).2.2.2⟩
          · have := unhide HM9 x hx
            simp at e
            omega
          · have := unhide HM9 x hx
            omega

end Go.Proofs.Ytibgldanmhckiaa

namespace Go.Proofs.Ytibgldanmhckiaa
open Go.RowKit

theorem frameCells {w : World} {g : Nat} {a b c d v : Value} {t : TypeId} (hb : w.heap[g]? = some (.cells #[a, b, c, d, v] t (0, 0))) :
    w.cell? ⟨g, 0, none⟩ = some a ∧ w.cell? ⟨g, 1, none⟩ = some b ∧ w.cell? ⟨g, 2, none⟩ = some c ∧ w.cell? ⟨g, 3, none⟩ = some d ∧ w.cell? ⟨g, 4, none⟩ = some v :=
  ⟨by rw [cell_of_row w _ 0 _ _ (0, 0) hb]; rfl, by rw [cell_of_row w _ 1 _ _ (0, 0) hb]; rfl, by rw [cell_of_row w _ 2 _ _ (0, 0) hb]; rfl, by rw [cell_of_row w _ 3 _ _ (0, 0) hb]; rfl, by rw [cell_of_row w _ 4 _ _ (0, 0) hb]; rfl⟩

set_option maxHeartbeats 1600000 in
theorem toFrame (p wd ht rs : Int) (ao : Option Addr) (n cap : Nat) (C : Nat → Nat → Int) (w : World) (hr : RdC w ao n C) (hn : n ≤ 4194304) :
    Calls Try.prog 21 #[.agg #[.int .i64 p, .int .i64 wd, .int .i64 ht, .int .i64 rs, .slice ao n cap]] w fun e w' => ∃ g, e = .returned (.agg #[.int .i64 p, .int .i64 wd, .int .i64 ht, .int .i64 rs, .slice (some ⟨g, 0, none⟩) n n]) ∧
      w'.ownsRow w.heap.size 70 4 (.slice (some ⟨g, 0, none⟩) n n) n (rowsK n 4 (compCells C)) ∧ w.grownBy w' none := by
  have HR := hide hr
  clear hr
  obtain ⟨W3, hW3⟩ : ∃ W3, (((w.alloc (.cells #[.int .i64 p, .int .i64 wd, .int .i64 ht, .int .i64 rs, .slice ao n cap] 46)).alloc (.cells #[.int .i64 0, .int .i64 0, .int .i64 0, .int .i64 0, .slice none 0 0] 26)).alloc (.cells #[.int .i64 p, .int .i64 wd, .int .i64 ht, .int .i64 rs, .slice none 0 0] 26)) = W3 := ⟨_, rfl⟩
  have G0 : w.grownBy W3 none := by rw [← hW3]; exact grown_alloc (grown_alloc (grown_alloc (World.grownBy.refl _ _) _) _) _
  have b1 : W3.heap[w.heap.size + 1]? = some (.cells #[.int .i64 0, .int .i64 0, .int .i64 0, .int .i64 0, .slice none 0 0] 26 (0, 0)) := by
    rw [← hW3, Below.heap_alloc _ _ _ (by simp)]
    have := heap_alloc_new (w.alloc (.cells #[.int .i64 p, .int .i64 wd, .int .i64 ht, .int .i64 rs, .slice ao n cap] 46)) (.cells #[.int .i64 0, .int .i64 0, .int .i64 0, .int .i64 0, .slice none 0 0] 26)
    simpa using this
  have b2 : W3.heap[w.heap.size + 1 + 1]? = some (.cells #[.int .i64 p, .int .i64 wd, .int .i64 ht, .int .i64 rs, .slice none 0 0] 26 (0, 0)) := by
    rw [← hW3]
    have := heap_alloc_new ((w.alloc (.cells #[.int .i64 p, .int .i64 wd, .int .i64 ht, .int .i64 rs, .slice ao n cap] 46)).alloc (.cells #[.int .i64 0, .int .i64 0, .int .i64 0, .int .i64 0, .slice none 0 0] 26)) (.cells #[.int .i64 p, .int .i64 wd, .int .i64 ht, .int .i64 rs, .slice none 0 0] 26)
    simpa using this
  have hsz : W3.heap.size = w.heap.size + 3 := by rw [← hW3]; simp
  have HW := hide hW3
  have B1 := hide b1
  have B2 := hide b2
  have HSZ := hide hsz
  have HG0 := hide G0
  clear hW3 b1 b2 hsz G0
  go_enter Try.func21, Try.ntmps21
  go_wp2_with fail
  rw [unhide HW]
  refine (toCompS ao n cap C W3 ((unhide HR).grown (unhide HG0)) hn).mono ?_
  rintro e w1 ⟨rfl, o1, g1⟩
  have G1 := grown_trans (unhide HG0) g1
  have hz := unhide HSZ
  have e1 := (g1.block (w.heap.size + 1) (by omega) (by simp)).trans (unhide B1)
  have e2 := (g1.block (w.heap.size + 1 + 1) (by omega) (by simp)).trans (unhide B2)
  have hge : w.heap.size + 3 ≤ W3.heap.size := by omega
  have O1 := hide (own_base o1 (show w.heap.size ≤ W3.heap.size by omega))
  have HG1 := hide G1
  clear HW hz HSZ B1 B2 HG0 HR G1 o1 g1
  generalize W3.heap.size = gx at *
  have c0 : w1.cell? ⟨w.heap.size + 1 + 1, 0, none⟩ = some (.int .i64 p) := by rw [cell_of_row w1 _ 0 _ _ (0, 0) e2]; rfl
  have c1 : w1.cell? ⟨w.heap.size + 1 + 1, 1, none⟩ = some (.int .i64 wd) := by rw [cell_of_row w1 _ 1 _ _ (0, 0) e2]; rfl
  have c2 : w1.cell? ⟨w.heap.size + 1 + 1, 2, none⟩ = some (.int .i64 ht) := by rw [cell_of_row w1 _ 2 _ _ (0, 0) e2]; rfl
  have c3 : w1.cell? ⟨w.heap.size + 1 + 1, 3, none⟩ = some (.int .i64 rs) := by rw [cell_of_row w1 _ 3 _ _ (0, 0) e2]; rfl
  have c4 : w1.cell? ⟨w.heap.size + 1 + 1, 4, none⟩ = some (.slice none 0 0) := by rw [cell_of_row w1 _ 4 _ _ (0, 0) e2]; rfl
  have f4 : w1.frozen? ⟨w.heap.size + 1 + 1, 4, none⟩ = false := frozen_of_row w1 _ 4 _ _ e2
  have d0 : w1.cell? ⟨w.heap.size + 1, 0, none⟩ = some (.int .i64 0) := by rw [cell_of_row w1 _ 0 _ _ (0, 0) e1]; rfl
  have d1 : w1.cell? ⟨w.heap.size + 1, 1, none⟩ = some (.int .i64 0) := by rw [cell_of_row w1 _ 1 _ _ (0, 0) e1]; rfl
  have d2 : w1.cell? ⟨w.heap.size + 1, 2, none⟩ = some (.int .i64 0) := by rw [cell_of_row w1 _ 2 _ _ (0, 0) e1]; rfl
  have d3 : w1.cell? ⟨w.heap.size + 1, 3, none⟩ = some (.int .i64 0) := by rw [cell_of_row w1 _ 3 _ _ (0, 0) e1]; rfl
  have d4 : w1.cell? ⟨w.heap.size + 1, 4, none⟩ = some (.slice none 0 0) := by rw [cell_of_row w1 _ 4 _ _ (0, 0) e1]; rfl
  have k0 : w1.frozen? ⟨w.heap.size + 1, 0, none⟩ = false := frozen_of_row w1 _ 0 _ _ e1
  have k1 : w1.frozen? ⟨w.heap.size + 1, 1, none⟩ = false := frozen_of_row w1 _ 1 _ _ e1
  have k2 : w1.frozen? ⟨w.heap.size + 1, 2, none⟩ = false := frozen_of_row w1 _ 2 _ _ e1
  have k3 : w1.frozen? ⟨w.heap.size + 1, 3, none⟩ = false := frozen_of_row w1 _ 3 _ _ e1
  have k4 : w1.frozen? ⟨w.heap.size + 1, 4, none⟩ = false := frozen_of_row w1 _ 4 _ _ e1
  clear e1 e2
  go_wp2
  have hk : ∀ (W : World), W.ownsRow w.heap.size 70 4 (.slice (some ⟨gx, 0, none⟩) n n) n (rowsK n 4 (compCells C)) → ∀ (b j : Nat) (u : Value), b < gx → (W.setCell ⟨b, j, none⟩ u).ownsRow w.heap.size 70 4 (.slice (some ⟨gx, 0, none⟩) n n) n (rowsK n 4 (compCells C)) :=
    fun W h b j u hb => own_sameAt h (fun g e => by simp [Value.ownBlock] at e; subst e; exact Below.heap_setCell _ _ _ _ (by show gx ≠ b; omega))
  have hq : ∀ (W : World) (b j : Nat) (u : Value), w.grownBy W none → w.heap.size ≤ b → w.grownBy (W.setCell ⟨b, j, none⟩ u) none := fun W b j u h hb => grown_new h (grown_set W b j u) (fun g e => by simp at e; omega)
  refine bodyPost_ret (v := .agg #[.int .i64 p, .int .i64 wd, .int .i64 ht, .int .i64 rs, .slice (some ⟨gx, 0, none⟩) n n]) (by simp [results, Try.results21, go_sem, d0, d1, d2, d3, d4]) rfl ⟨gx, rfl, ?_, ?_⟩
  · exact hk _ (hk _ (hk _ (hk _ (hk _ (hk _ (unhide O1) _ _ _ (by omega)) _ _ _ (by omega)) _ _ _ (by omega)) _ _ _ (by omega)) _ _ _ (by omega)) _ _ _ (by omega)
  · exact hq _ _ _ _ (hq _ _ _ _ (hq _ _ _ _ (hq _ _ _ _ (hq _ _ _ _ (hq _ _ _ _ (unhide HG1) (by omega)) (by omega)) (by omega)) (by omega)) (by omega)) (by omega)

end Go.Proofs.Ytibgldanmhckiaa

namespace Go.Proofs.Ytibgldanmhckiaa
open Go.RowKit

/-- Components that are marked all over, from k0 on. -/
def markedC (k0 : Int) : Nat → Nat → Int := fun i j => k0 + 4 * (i : Int) + (j : Int)
theorem markPart_set (C : Nat → Nat → Int) (k0 : Int) (n k : Nat) (q : Int) (hq : k0 + 4 * (k : Int) = q) :
    ((((rowsK n 4 (compCells (fun i j => if i < k then markedC k0 i j else C i j))).set (k * 4) (.int .i64 q)).set (k * 4 + 1) (.int .i64 (q + 1))).set (k * 4 + 2) (.int .i64 (q + 1 + 1))).set (k * 4 + 3) (.int .i64 (q + 1 + 1 + 1)) = rowsK n 4 (compCells (fun i j => if i < k + 1 then markedC k0 i j else C i j)) := by
  have e0 := rowsK_set n 4 (compCells (fun i j => if i < k then markedC k0 i j else C i j)) k 0 (.int .i64 q) (by omega)
  rw [Nat.add_zero] at e0
  rw [e0, rowsK_set _ _ _ k 1 _ (by omega), rowsK_set _ _ _ k 2 _ (by omega), rowsK_set _ _ _ k 3 _ (by omega)]
  apply rowsK_congr
  intro i j _ hj
  have hj4 : j = 0 ∨ j = 1 ∨ j = 2 ∨ j = 3 := by omega
  by_cases e1 : i = k
  · subst e1
    rcases hj4 with rfl | rfl | rfl | rfl <;> simp [compCells, markedC, hq] <;> omega
  · by_cases e2 : i < k
    · rcases hj4 with rfl | rfl | rfl | rfl <;> simp [compCells, e1, e2, show i < k + 1 by omega]
    · rcases hj4 with rfl | rfl | rfl | rfl <;> simp [compCells, e1, e2, show ¬ i < k + 1 by omega]

set_option maxHeartbeats 1600000 in
theorem markCompS (ao : Option Addr) (n cap base : Nat) (C : Nat → Nat → Int) (k0 : Int) (w : World) (ho : w.ownsRow base 70 4 (.slice ao n cap) n (rowsK n 4 (compCells C))) (hn : n ≤ 4194304) (h0 : 0 ≤ k0) (h1 : k0 ≤ 1073741824) :
    Calls Try.prog 63 #[.slice ao n cap, .int .i64 k0] w fun e w' => e = .returned (.int .i64 (k0 + 4 * n)) ∧
      w'.ownsRow base 70 4 (.slice ao n cap) n (rowsK n 4 (compCells (markedC k0))) ∧ w.grownBy w' (Value.slice ao n cap).ownBlock := by
  have ho' : w.ownsRow base 70 4 (.slice ao n cap) n (rowsK n 4 (compCells (fun i j => if i < 0 then markedC k0 i j else C i j))) := by
    have e : rowsK n 4 (compCells (fun i j => if i < 0 then markedC k0 i j else C i j)) = rowsK n 4 (compCells C) := rowsK_congr (fun i j _ _ => by simp [compCells])
    rw [e]; exact ho
  clear ho
  have HO := hide ho'
  clear ho'
  go_enter Try.func63, Try.ntmps63
  go_wp2
  go_loopw [1, 5] (fun c i wr => ∃ k : Nat, k ≤ n ∧ i = .int .i64 k ∧ c = .int .i64 (k0 + 4 * k) ∧ wr.ownsRow base 70 4 (.slice ao n cap) n (rowsK n 4 (compCells (fun i j => if i < k then markedC k0 i j else C i j))) ∧ w.grownBy wr (Value.slice ao n cap).ownBlock) (fun _ i _ => n - (intOf i).toNat)
  case atStart => exact ⟨0, Nat.zero_le _, rfl, by go_num, unhide HO, World.grownBy.refl _ _⟩
  case round =>
    obtain ⟨k, hk, rfl, rfl, hok, hgk⟩ := hrel
    by_cases hlt : k < n
    · obtain ⟨g, rfl, _, _⟩ := own_at hok (by omega)
      obtain ⟨q, hq⟩ : ∃ q, k0 + 4 * (k : Int) = q := ⟨_, rfl⟩
      have HSET := hide (markPart_set C k0 n k q hq)
      have hqb : 0 ≤ q ∧ q ≤ 2000000000 := by omega
      have HQ := hide hq
      rw [hq]
      clear hq
      have f0 := hok.frozenAt (k * 4)
      have f1 := hok.frozenAt (k * 4 + 1)
      have f2 := hok.frozenAt (k * 4 + 2)
      have f3 := hok.frozenAt (k * 4 + 3)
      have hold : ∀ j, j < n * 4 → ∃ u, wr.cell? ⟨g, j, none⟩ = some u := fun j hj => by rw [hok.cellAt j hj]; exact ⟨_, List.getElem?_eq_getElem (by rw [hok.1]; omega)⟩
      obtain ⟨v0, hv0⟩ := hold (k * 4) (by omega)
      obtain ⟨v1, hv1⟩ := hold (k * 4 + 1) (by omega)
      obtain ⟨v2, hv2⟩ := hold (k * 4 + 2) (by omega)
      obtain ⟨v3, hv3⟩ := hold (k * 4 + 3) (by omega)
      have s0 := hok.stored (k * 4) (.int .i64 q)
      have s1 := s0.1.stored (k * 4 + 1) (.int .i64 (q + 1))
      have s2 := s1.1.stored (k * 4 + 2) (.int .i64 (q + 1 + 1))
      have s3 := s2.1.stored (k * 4 + 3) (.int .i64 (q + 1 + 1 + 1))
      have HG := hide (grown_trans hgk (grown_trans (grown_trans (grown_trans s0.2 s1.2) s2.2) s3.2))
      have HS := hide s3.1
      rw [unhide HSET] at HS
      clear s0 s1 s2 s3 hok hgk hold HSET
      go_wp2
      go_roundw
      case rel => exact ⟨k + 1, by omega, by go_num, by have := unhide HQ; congr 1; omega, unhide HS, unhide HG⟩
      case measure => simp [intOf]; omega
    · have hkn : k = n := by omega
      subst hkn
      go_wp2
      go_ret
      refine ⟨rfl, ?_, hgk⟩
      have e : rowsK k 4 (compCells (markedC k0)) = rowsK k 4 (compCells (fun i j => if i < k then markedC k0 i j else C i j)) := rowsK_congr (fun i j hi' _ => by simp [compCells, hi'])
      rw [e]; exact hok

set_option maxHeartbeats 1600000 in
theorem markFrame (p wd ht rs : Int) (ao : Option Addr) (n cap base : Nat) (C : Nat → Nat → Int) (k0 : Int) (w : World) (ho : w.ownsRow base 70 4 (.slice ao n cap) n (rowsK n 4 (compCells C))) (hn : n ≤ 4194304) (h0 : 0 ≤ k0) (h1 : k0 ≤ 1073741824) :
    Calls Try.prog 24 #[.agg #[.int .i64 p, .int .i64 wd, .int .i64 ht, .int .i64 rs, .slice ao n cap], .int .i64 k0] w fun e w' => e = .returned (.int .i64 (k0 + 4 * n)) ∧
      w'.ownsRow base 70 4 (.slice ao n cap) n (rowsK n 4 (compCells (markedC k0))) ∧ w.grownBy w' (Value.slice ao n cap).ownBlock := by
  have HO := hide (own_grown ho (grown_alloc (World.grownBy.refl w none) (.cells #[.int .i64 p, .int .i64 wd, .int .i64 ht, .int .i64 rs, .slice ao n cap] 26)))
  have G : Hid (w.grownBy (w.alloc (.cells #[.int .i64 p, .int .i64 wd, .int .i64 ht, .int .i64 rs, .slice ao n cap] 26)) (Value.slice ao n cap).ownBlock) := grown_any (grown_alloc (World.grownBy.refl _ _) _)
  clear ho
  go_enter Try.func24, Try.ntmps24
  go_wp2_with fail
  refine (markCompS ao n cap base C k0 _ (unhide HO) hn h0 h1).mono ?_
  rintro e w1 ⟨rfl, o1, g1⟩
  have O1 := hide o1
  have G1 := hide (grown_trans (unhide G) g1)
  clear o1 g1
  go_wp2
  go_ret
  exact ⟨rfl, unhide O1, unhide G1⟩

end Go.Proofs.Ytibgldanmhckiaa

namespace Go.Proofs.Ytibgldanmhckiaa
open Go.RowKit

/-- Coefficients that are owned, in a box. -/
structure Bc (W : World) (b : Nat) (v : Value) (X : List (List (List Int))) (F : List Nat) : Prop where
  box : W.heap[b]? = some (.cells #[v] 29 (0, 0))
  own : OwCo W (.agg #[v]) X F
theorem Bc.lt {W : World} {b : Nat} {v : Value} {X : List (List (List Int))} {F : List Nat} (h : Bc W b v X F) : b < W.heap.size := (Array.getElem?_eq_some_iff.1 h.box).1
theorem Bc.wr {W W' : World} {b : Nat} {v : Value} {X : List (List (List Int))} {F G : List Nat} (h : Bc W b v X F) (g : Wr G W W') (hb : b ∉ G) (hd : ∀ x ∈ F, x ∉ G) : Bc W' b v X F := ⟨(g.block b h.lt hb).trans h.box, h.own.wr g hd⟩
theorem Bc.keep {W W' : World} {b : Nat} {v : Value} {X : List (List (List Int))} {F : List Nat} (h : Bc W b v X F) (g : W.grownBy W' none) : Bc W' b v X F := ⟨(g.block b h.lt (by simp)).trans h.box, h.own.keep g⟩
theorem Bc.cell {W : World} {b : Nat} {v : Value} {X : List (List (List Int))} {F : List Nat} (h : Bc W b v X F) : W.cell? ⟨b, 0, none⟩ = some v := by rw [cell_of_row W b 0 _ _ (0, 0) h.box]; rfl
theorem Bc.new {W : World} {v : Value} {X : List (List (List Int))} {F : List Nat} (h : OwCo W (.agg #[v]) X F) : Bc (W.alloc (.cells #[v] 29)) W.heap.size v X F := ⟨heap_alloc_new W _, h.keep (World.grownBy_alloc _ _ _)⟩
theorem Bc.form {W : World} {v : Value} {X : List (List (List Int))} {F : List Nat} (h : OwCo W v X F) : ∃ so sc, v = .agg #[.slice so X.length sc] := by
  obtain ⟨u, rfl, h⟩ := h
  obtain ⟨so, sc, rfl⟩ := h.form
  exact ⟨so, sc, rfl⟩

/-- A frame that is owned, in a box. -/
structure Bf (W : World) (b : Nat) (p wd ht rs : Int) (q n base : Nat) (C : Nat → Nat → Int) : Prop where
  box : W.heap[b]? = some (.cells #[.int .i64 p, .int .i64 wd, .int .i64 ht, .int .i64 rs, .slice (some ⟨q, 0, none⟩) n n] 26 (0, 0))
  own : W.ownsRow base 70 4 (.slice (some ⟨q, 0, none⟩) n n) n (rowsK n 4 (compCells C))
section
variable {W W' : World} {b q n base : Nat} {p wd ht rs : Int} {C : Nat → Nat → Int}
theorem Bf.lt (h : Bf W b p wd ht rs q n base C) : b < W.heap.size := (Array.getElem?_eq_some_iff.1 h.box).1
theorem Bf.keep (h : Bf W b p wd ht rs q n base C) (g : W.grownBy W' none) : Bf W' b p wd ht rs q n base C := ⟨(g.block b h.lt (by simp)).trans h.box, own_grown h.own g⟩
theorem Bf.new (h : W.ownsRow base 70 4 (.slice (some ⟨q, 0, none⟩) n n) n (rowsK n 4 (compCells C))) (p wd ht rs : Int) : Bf (W.alloc (.cells #[.int .i64 p, .int .i64 wd, .int .i64 ht, .int .i64 rs, .slice (some ⟨q, 0, none⟩) n n] 26)) W.heap.size p wd ht rs q n base C :=
  ⟨heap_alloc_new W _, own_grown h (World.grownBy_alloc _ _ _)⟩
theorem Bf.rd (h : Bf W b p wd ht rs q n base C) : RdC W (some ⟨q, 0, none⟩) n C := own_rdC h.own
end

end Go.Proofs.Ytibgldanmhckiaa

namespace Go.Proofs.Ytibgldanmhckiaa
open Go.RowKit

set_option maxHeartbeats 400000 in
theorem sameIntsQ (ao bo : Option Addr) (n cap cap' : Nat) (zs : List Int) (w : World) (hx : Rd .i64 w ao n zs) (hy : Rd .i64 w bo n zs) (hn : n ≤ 4194304) :
    Calls Try.prog 15 #[.slice ao n cap, .slice bo n cap'] w fun e w' => e = .returned (.bool true) ∧ ∃ q, w' = w.drewN q := by
  obtain ⟨hl, hc⟩ := hx
  obtain ⟨_, hd⟩ := hy
  have hne : ((n : Int) != n) = false := by simp
  go_enter Try.func15, Try.ntmps15
  go_wp2
  go_loopw [5] (fun i wr => ∃ k q : Nat, k ≤ n ∧ i = .int .i64 k ∧ wr = w.drewN q) (fun i _ => n - (intOf i).toNat)
  case atStart => exact ⟨0, 0, Nat.zero_le _, rfl, rfl⟩
  case round =>
    obtain ⟨k, q, hk, rfl, rfl⟩ := hrel
    by_cases hlt : k < n
    · obtain ⟨b, off, rfl, hcb⟩ := hc k hlt
      obtain ⟨b', off', rfl, hcd⟩ := hd k hlt
      generalize zs.getD k 0 = x at hcb hcd
      have hik : (k : Int) < (n : Int) := by omega
      clear hc hd
      go_wp2
      go_quiet (fail)
      go_wp2
      go_roundw
      case rel => exact ⟨k + 1, _, by omega, by go_num, rfl⟩
      case measure => simp [intOf]; omega
    · go_wp2
      go_ret
      exact ⟨rfl, _, rfl⟩
theorem sameInts (ao bo : Option Addr) (n cap cap' : Nat) (zs : List Int) (w : World) (hx : Rd .i64 w ao n zs) (hy : Rd .i64 w bo n zs) (hn : n ≤ 4194304) :
    Calls Try.prog 15 #[.slice ao n cap, .slice bo n cap'] w fun e w' => e = .returned (.bool true) ∧ w.grownBy w' none := by
  refine (sameIntsQ ao bo n cap cap' zs w hx hy hn).mono ?_
  rintro e w' ⟨rfl, q, rfl⟩
  exact ⟨rfl, grown_drewN (World.grownBy.refl _ _) _⟩

end Go.Proofs.Ytibgldanmhckiaa

namespace Go.Proofs.Ytibgldanmhckiaa
open Go.RowKit

theorem sameIntsC : EqC 15 (RdI .i64) lenI := by
  rintro w u u' a ⟨ao, cap, rfl, hr⟩ ⟨bo, cap', rfl, hr'⟩ hs
  exact sameInts ao bo a.length cap cap' a w hr hr' (by unfold lenI at hs; omega)

set_option maxRecDepth 20000 in
set_option maxHeartbeats 1600000 in
theorem sameListsD (HE : EqC 15 (RdI .i64) lenI) (hQ : StR (RdI .i64)) : EqC 49 Rd2 (szR lenI) := by
  intro w u u' a hq hq' hs
  obtain ⟨ao, cap, rfl, hel⟩ := hq
  obtain ⟨bo, cap', rfl, hel'⟩ := hq'
  have HEL := hide hel
  have HEM := hide hel'
  have HEE := hide HE
  have hlen := szR_len (lenI) a
  have HSE := hide (fun i h => (szR_el (lenI) a i h).2)
  obtain ⟨n, HN⟩ : ∃ n, Hid (a.length = n) := ⟨_, rfl⟩
  have hn : n ≤ 1048576 := by have := unhide HN; omega
  have HS := hide hs
  rw [unhide HN]
  have hne : ((n : Int) != n) = false := by simp
  clear hel hel' HE hs hlen
  go_enter Try.func49, Try.ntmps49
  go_wp2
  go_loopw [5] (fun iv wr => ∃ i : Nat, i ≤ n ∧ iv = .int .i64 i ∧ Hid (w.grownBy wr none)) (fun iv _ => n - (intOf iv).toNat)
  case atStart => exact ⟨0, Nat.zero_le _, rfl, World.grownBy.refl _ _⟩
  case round =>
    obtain ⟨i, hin, rfl, hg⟩ := hrel
    by_cases hlt : i < n
    · have hia : i < a.length := by rw [unhide HN]; exact hlt
      obtain ⟨b, off, u, rfl, c0, q0⟩ := unhide HEL i hia
      obtain ⟨b', off', u', rfl, c0', q0'⟩ := unhide HEM i hia
      have d0 := (unhide hg).cell c0 (by simp)
      have d1 := (unhide hg).cell c0' (by simp)
      have HD := hide (And.intro d0 d1)
      have HT : Hid (∀ W, wr.grownBy W none → Calls Try.prog 15 #[u, u'] W fun e w' => e = .returned (.bool true) ∧ W.grownBy w' none) := fun W gW => unhide HEE W u u' a[i] (hQ _ _ _ _ q0 (grown_trans (unhide hg) gW)) (hQ _ _ _ _ q0' (grown_trans (unhide hg) gW)) (Nat.le_trans (unhide HSE i hia) (unhide HS))
      have hiI : (i : Int) < (n : Int) := by omega
      clear c0 q0 c0' q0'
      go_wp2
      refine wp_region_noPanic ?_
      refine wp_region_tailL 20 (fun w' => w'.cell? ⟨b, off + i, none⟩ = some u ∧ w'.cell? ⟨b', off' + i, none⟩ = some u') [true, true, true, true, true, true, true, true, false, false] (by kernel_rfl) (fun _ _ _ _ _ h => h) rfl (by decide) (by kernel_rfl) (unhide HD) ?_
      iterate 8
        refine heldF_take (v := ?_) (Or.inl ⟨by rfl, ?_⟩) ?_
        rotate_left 1
        · intro w' hSw
          try dsimp only at hSw
          obtain ⟨z0, z1⟩ := hSw
          go_simp
          try with_reducible rfl
        simp only [Act.put, List.setIfInBounds_toArray, List.set_cons_zero, List.set_cons_succ]
      iterate 2 refine heldF_skip ?_
      refine heldF_nil ?_
      iterate 8 refine tailL_skip ?_
      refine tailL_step (fun K hK => ?_)
      go_simp
      refine (unhide HT _ (grown_drew (World.grownBy.refl _ _))).mono ?_
      rintro e w2 ⟨rfl, g2⟩
      have g3 := grown_trans (grown_drew (World.grownBy.refl wr none)) g2
      have HD2 := hide (And.intro (g3.cell d0 (by simp)) (g3.cell d1 (by simp)))
      have HG3 := hide (grown_trans (unhide hg) g3)
      clear g2 g3 hg HT d0 d1 HD
      go_simp
      refine hK.out _ _ (.inr (unhide HD2)) ?_
      clear hK K
      refine tailL_step (fun K hK => ?_)
      go_simp
      refine hK.out _ _ (.inl rfl) ?_
      clear hK K HD2
      refine tailL_nil (NoPanic.normal ?_)
      go_wp2
      go_roundw
      case rel => exact ⟨i + 1, by omega, by go_num, HG3⟩
      case measure => simp [intOf]; omega
    · obtain rfl : i = n := by omega
      go_wp2
      go_ret
      exact ⟨rfl, unhide hg⟩

theorem sameListsC : EqC 49 Rd2 (szR lenI) := sameListsD sameIntsC (RdI.st .i64)

set_option maxRecDepth 20000 in
set_option maxHeartbeats 1600000 in
theorem sameCoefsC : EqC 12 RdCo szCo := by
  rintro w u u' X ⟨v, rfl, hv⟩ ⟨v', rfl, hv'⟩ hs
  obtain ⟨ao, cap, rfl, hel⟩ := hv
  obtain ⟨bo, cap', rfl, hel'⟩ := hv'
  have HEL := hide hel
  have HEM := hide hel'
  have hlen := szR_len (szR lenI) X
  have HSE := hide (fun i h => (szR_el (szR lenI) X i h).2)
  obtain ⟨n, HN⟩ : ∃ n, Hid (X.length = n) := ⟨_, rfl⟩
  have hsz : szR (szR lenI) X ≤ 1048576 := hs
  have hn : n ≤ 1048576 := by have := unhide HN; omega
  have HS := hide hsz
  rw [unhide HN]
  have hne : ((n : Int) != n) = false := by simp
  clear hel hel' hs hlen hsz
  obtain ⟨W2, HW2⟩ : ∃ W2, Hid (((w.alloc (.cells #[.slice ao n cap] 29)).alloc (.cells #[.slice bo n cap'] 29)) = W2) := ⟨_, rfl⟩
  have HG0 : Hid (w.grownBy W2 none) := by unfold Hid; rw [← unhide HW2]; exact grown_alloc (grown_alloc (World.grownBy.refl _ _) _) _
  have b0 : W2.heap[w.heap.size]? = some (.cells #[.slice ao n cap] 29 (0, 0)) := by
    rw [← unhide HW2, Below.heap_alloc _ _ _ (by simp)]
    exact heap_alloc_new w _
  have b1 : W2.heap[w.heap.size + 1]? = some (.cells #[.slice bo n cap'] 29 (0, 0)) := by
    rw [← unhide HW2]
    have := heap_alloc_new (w.alloc (.cells #[.slice ao n cap] 29)) (.cells #[.slice bo n cap'] 29)
    simpa using this
  have x0 : W2.cell? ⟨w.heap.size, 0, none⟩ = some (.slice ao n cap) := by rw [cell_of_row W2 _ 0 _ _ (0, 0) b0]; rfl
  have x1 : W2.cell? ⟨w.heap.size + 1, 0, none⟩ = some (.slice bo n cap') := by rw [cell_of_row W2 _ 0 _ _ (0, 0) b1]; rfl
  have HX0 := hide (And.intro x0 x1)
  clear b0 b1 x0 x1
  go_enter Try.func12, Try.ntmps12
  go_wp2
  rw [unhide HW2]
  clear HW2
  go_loopw [5] (fun iv wr => ∃ i : Nat, i ≤ n ∧ iv = .int .i64 i ∧ Hid (W2.grownBy wr none)) (fun iv _ => n - (intOf iv).toNat)
  case atStart => exact ⟨0, Nat.zero_le _, rfl, World.grownBy.refl _ _⟩
  case round =>
    obtain ⟨i, hin, rfl, hg⟩ := hrel
    have y0 := (unhide hg).cell (unhide HX0).1 (by simp)
    have y1 := (unhide hg).cell (unhide HX0).2 (by simp)
    by_cases hlt : i < n
    · have hia : i < X.length := by rw [unhide HN]; exact hlt
      obtain ⟨b, off, u, rfl, c0, q0⟩ := unhide HEL i hia
      obtain ⟨b', off', u', rfl, c0', q0'⟩ := unhide HEM i hia
      have d0 := (unhide hg).cell ((unhide HG0).cell c0 (by simp)) (by simp)
      have d1 := (unhide hg).cell ((unhide HG0).cell c0' (by simp)) (by simp)
      have HD := hide (And.intro (And.intro y0 y1) (And.intro d0 d1))
      have HT : Hid (∀ W, wr.grownBy W none → Calls Try.prog 49 #[u, u'] W fun e w' => e = .returned (.bool true) ∧ W.grownBy w' none) := fun W gW => sameListsC W u u' X[i] (st2 _ _ _ _ q0 (grown_trans (grown_trans (unhide HG0) (unhide hg)) gW)) (st2 _ _ _ _ q0' (grown_trans (grown_trans (unhide HG0) (unhide hg)) gW)) (Nat.le_trans (unhide HSE i hia) (unhide HS))
      have hiI : (i : Int) < (n : Int) := by omega
      clear c0 q0 c0' q0'
      go_wp2
      refine wp_region_noPanic ?_
      refine wp_region_tailL 20 (fun w' => (w'.cell? ⟨w.heap.size, 0, none⟩ = some (.slice (some ⟨b, off, none⟩) n cap) ∧ w'.cell? ⟨w.heap.size + 1, 0, none⟩ = some (.slice (some ⟨b', off', none⟩) n cap')) ∧ w'.cell? ⟨b, off + i, none⟩ = some u ∧ w'.cell? ⟨b', off' + i, none⟩ = some u') [true, true, true, true, true, true, true, true, true, true, false, false] (by kernel_rfl) (fun _ _ _ _ _ h => h) rfl (by decide) (by kernel_rfl) (unhide HD) ?_
      iterate 10
        refine heldF_take (v := ?_) (Or.inl ⟨by rfl, ?_⟩) ?_
        rotate_left 1
        · intro w' hSw
          try dsimp only at hSw
          obtain ⟨⟨z0, z1⟩, z2, z3⟩ := hSw
          go_simp
          try with_reducible rfl
        simp only [Act.put, List.setIfInBounds_toArray, List.set_cons_zero, List.set_cons_succ]
      iterate 2 refine heldF_skip ?_
      refine heldF_nil ?_
      iterate 10 refine tailL_skip ?_
      refine tailL_step (fun K hK => ?_)
      go_simp
      refine (unhide HT _ (grown_drew (World.grownBy.refl _ _))).mono ?_
      rintro e w2 ⟨rfl, g2⟩
      have g3 := grown_trans (grown_drew (World.grownBy.refl wr none)) g2
      have HD2 := hide (And.intro (And.intro (g3.cell y0 (by simp)) (g3.cell y1 (by simp))) (And.intro (g3.cell d0 (by simp)) (g3.cell d1 (by simp))))
      have HG3 := hide (grown_trans (unhide hg) g3)
      clear g2 g3 hg HT d0 d1 HD y0 y1
      go_simp
      refine hK.out _ _ (.inr (unhide HD2)) ?_
      clear hK K
      refine tailL_step (fun K hK => ?_)
      go_simp
      refine hK.out _ _ (.inl rfl) ?_
      clear hK K HD2
      refine tailL_nil (NoPanic.normal ?_)
      go_wp2
      go_roundw
      case rel => exact ⟨i + 1, by omega, by go_num, HG3⟩
      case measure => simp [intOf]; omega
    · obtain rfl : i = n := by omega
      go_wp2
      go_ret
      exact ⟨rfl, grown_trans (unhide HG0) (unhide hg)⟩

end Go.Proofs.Ytibgldanmhckiaa

namespace Go.Proofs.Ytibgldanmhckiaa
open Go.RowKit

theorem lawBig (ao : Option Addr) (n cap : Nat) (t : Bool) (w : World) (h : Hid (decide ((1048576 : Int) < (n : Int)) = t)) :
    Calls Try.prog 8 #[.slice ao n cap] w fun e w' => e = .returned (.bool t) ∧ w = w' := by
  go_enter Try.func8, Try.ntmps8
  go_wp2
  go_ret
  exact ⟨ret_bool (by rw [← unhide h]), rfl⟩

/-- What a new row of cells holds. -/
theorem cells_new (w : World) (cs : List Value) (t : TypeId) : ∀ j u, cs[j]? = some u → (w.alloc (.cells cs.toArray t)).cell? ((⟨w.heap.size, 0, none⟩ : Addr).add j) = some u := by
  intro j u h
  rw [Addr.add_lit, Nat.zero_add, cell_of_row _ w.heap.size j _ _ (0, 0) (heap_alloc_new w _)]
  simpa using h

end Go.Proofs.Ytibgldanmhckiaa
