/-
  LeftDraw, ScriptAid, LeftPure, DeepA, LeftSpec, LevSpec, CoefPure, ZeroSpec, LeftOk, SameInts.
-/
import Derived.Maps.AppendAt
import Derived.Deep.AppendLies
import Derived.Test.YtnjcmlmgjoaeeaaRows
import Derived.Deep.QuietTactic
import Derived.BigQuiet
import Derived.Test.YtnjcmlmgjoaeeaaMVg

namespace Go.Proofs.Ytnjcmlmgjoaeeaa
open Go.RowKit

/-- What is drawn for LeftOf. -/
structure Ld (w w' : World) (fo : Option Addr) (fn : Nat) (C : Nat → Nat → Int) (v : Value) (X : List Scn) : Prop where
  rc : RdC w' fo fn C
  n5 : fn ≤ 5
  rd : RdSs w' v X
  few : Few 5 X
  len : X.length ≤ 1001
  grown : w.grownBy w' none
  cap : capV v

set_option maxRecDepth 20000 in
set_option maxHeartbeats 3200000 in
theorem drawLeftOf (ao : Option Addr) (n cap : Nat) (zs : List Int) (w : World) (hr : Rd .u8 w ao n zs) (hb : ∀ i, 0 ≤ zs.getD i 0 ∧ zs.getD i 0 ≤ 255) (hn : n ≤ 1048576) :
    Calls Try.prog 9 #[.slice ao n cap] w fun e w' => ∃ (p wd ht rs : Int) (fo : Option Addr) (fn fc : Nat) (C : Nat → Nat → Int) (vo : Option Addr) (vn vc : Nat) (X : List Scn), e = .returned (.tuple #[.agg #[.int .i64 p, .int .i64 wd, .int .i64 ht, .int .i64 rs, .slice fo fn fc], .slice vo vn vc]) ∧ Ld w w' fo fn C (.slice vo vn vc) X := by
  have hlt := hr.lt
  have HB := hide hb
  obtain ⟨W1, HW1⟩ : ∃ W1, Hid (w.alloc (.cells #[.int .i64 0, .int .i64 0, .int .i64 0, .int .i64 0, .slice none 0 0] 26) = W1) := ⟨_, hide rfl⟩
  have G0 : w.grownBy W1 none := by rw [← unhide HW1]; exact World.grownBy_alloc _ _ _
  have hs1 : W1.heap.size = w.heap.size + 1 := by rw [← unhide HW1]; simp
  have A0 : W1.heap[w.heap.size]? = some (.cells #[.int .i64 0, .int .i64 0, .int .i64 0, .int .i64 0, .slice none 0 0] 26 (0, 0)) := by rw [← unhide HW1]; exact heap_alloc_new w _
  have HR := hide (hr.grown G0)
  have HA : Hid (∀ W row, W1.grownBy W row → (∀ k, row = some k → w.heap.size + 1 ≤ k) → W.heap[w.heap.size]? = some (.cells #[.int .i64 0, .int .i64 0, .int .i64 0, .int .i64 0, .slice none 0 0] 26 (0, 0))) := fun W row g h => at_rowS g A0 (fun e => by have := h _ e; omega)
  have HG0 := hide G0
  have HL := hide hlt
  clear hr hb hlt A0 G0
  go_enter Try.func9, Try.ntmps9
  go_wp2_with fail
  rw [unhide HW1]
  clear HW1
  refine (open_of ao n cap zs W1 (unhide HR) (unhide HB) hn).mono ?_
  rintro e w1 ⟨rfl, c1, g1⟩
  obtain ⟨tb, htb⟩ : ∃ tb, W1.heap.size = tb := ⟨_, rfl⟩
  rw [htb] at c1 ⊢
  have ht1 : w.heap.size < tb := by omega
  have hs2 : tb < w1.heap.size := c1.lt
  have HC1 : Hid (0 < n → ∀ b off, ao = some ⟨b, off, none⟩ → b < w1.heap.size) := fun h b off e => by have := unhide HL h b off e; omega
  have C1 := hide c1
  have HG1 : Hid (W1.grownBy w1 (some tb)) := grown_any g1
  clear c1 HR g1
  go_wp2_with fail
  refine (drawAny tb ao n cap 0 zs w1 (unhide C1) (by omega) (unhide HC1) 12 (by omega) (by omega)).mono ?_
  rintro e w2 ⟨p, wd, ht, rs, C, fn, fc, q, fo, rfl, hm1, hm5, o2, c2, hq, g2⟩
  have hz2 := g2.size
  have HAB := hide (heap_alloc_new w2 (.cells #[.int .i64 0, .int .i64 0, .int .i64 0, .int .i64 0, .slice none 0 0] 26))
  have HAG : Hid (w2.grownBy (w2.alloc (.cells #[.int .i64 0, .int .i64 0, .int .i64 0, .int .i64 0, .slice none 0 0] 26)) none) := World.grownBy_alloc _ _ _
  have HO2 := hide o2
  have HC2 := hide c2
  have HG2 : Hid (W1.grownBy w2 (some tb)) := grown_trans (unhide HG1) g2
  clear o2 c2 g2 C1 HG1
  go_wp2_with (refine wpList_store_row rfl 26 _ _ rfl w2.heap.size rfl #[.int .i64 p, .int .i64 wd, .int .i64 ht, .int .i64 rs, .slice fo fn fc] rfl #[.int .i64 0, .int .i64 0, .int .i64 0, .int .i64 0, .slice none 0 0] 26 (unhide HAB) rfl (by kernel_rfl) (by simp [Value.oneCell']) ?_)
  intro w3 hB3 g3
  obtain ⟨xb, HXB⟩ : ∃ xb, Hid (w2.heap.size = xb) := ⟨_, hide rfl⟩
  have G23 : w2.grownBy w3 none := grown_new (unhide HAG) g3 (fun g e => by simp at e; omega)
  rw [unhide HXB] at hB3 ⊢
  have hz3 := G23.size
  have hb3 : xb < w3.heap.size := (Array.getElem?_eq_some_iff.1 hB3).1
  have hbx : w1.heap.size ≤ xb := by have := unhide HXB; omega
  have HO3 := hide (own_grown (unhide HO2) G23)
  have HC3 := hide ((unhide HC2).grown G23)
  have HG3 : Hid (W1.grownBy w3 (some tb)) := grown_trans (unhide HG2) (grown_any G23)
  have HCD : Hid (0 < n → ∀ b off, ao = some ⟨b, off, none⟩ → b < w3.heap.size) := fun h b off e => by have := unhide HC1 h b off e; omega
  obtain ⟨k0, k1, k2, k3, k4⟩ := frameCells' hB3
  have HB3 := hide hB3
  clear g3 G23 HAG HAB HO2 HC2 HG2 hB3 HXB
  go_wp2_with fail
  clear k0 k1 k2 k3 k4
  refine (drawScript tb ao n cap q zs w3 (unhide HC3) (by omega) (unhide HCD) p wd ht rs fo fn fc C w1.heap.size (unhide HO3) hs2 hm5).mono ?_
  rintro e w4 ⟨v4, S4, F4, q4, rfl, o4, nd4, lo4, fw4, ln4, c4, hq4, g4⟩
  have hz4 := g4.size
  have HO4 := hide (own_beneath (unhide HO3) g4 (fun a b e1 e2 => by have := ((unhide HO3).lt a e1).1; simp at e2; omega))
  have HB4 := hide (at_rowS g4 (unhide HB3) (fun e => by have := Option.some.inj e; omega))
  have HG4 : Hid (W1.grownBy w4 (some tb)) := grown_trans (unhide HG3) g4
  obtain ⟨so, sc, rfl⟩ := OwG.form o4
  obtain ⟨m, HM⟩ : ∃ m, Hid (S4.length = m) := ⟨_, hide rfl⟩
  rw [unhide HM] at o4 ln4 ⊢
  have HO := hide o4
  have HLO : Hid (∀ g ∈ F4, tb < g) := fun g hg => by have := lo4 g hg; omega
  have HFW := hide fw4
  have HC4 := hide c4
  clear o4 nd4 lo4 fw4 c4 g4 HO3 HB3 HG3 HC3 HCD
  go_wp2_with fail
  refine (once_of tb ao n cap q4 3 zs w4 (unhide HC4) (by omega) (by omega) (by omega)).mono ?_
  rintro e w5 ⟨t5, q5, rfl, c5, hq5, g5⟩
  have hz5 := g5.size
  have HO5 := hide (own_beneath (unhide HO4) g5 (fun a b e1 e2 => by have := ((unhide HO4).lt a e1).1; simp at e2; omega))
  have HB5 := hide (at_rowS g5 (unhide HB4) (fun e => by have := Option.some.inj e; omega))
  have HG5 : Hid (W1.grownBy w5 (some tb)) := grown_trans (unhide HG4) g5
  have HS5 := hide (OwSs.ok.wr (unhide HO) (Wr.ofRow (F := [tb]) g5 (fun x e => by simp at e; simp [e])) (fun x hx e => by simp at e; have := unhide HLO x hx; omega))
  have HC5 := hide c5
  have HCD : Hid (0 < n → ∀ b off, ao = some ⟨b, off, none⟩ → b < w5.heap.size) := fun h b off e => by have := unhide HC1 h b off e; omega
  clear c5 g5 HO4 HB4 HG4 HO HC4
  cases t5 with
  | false =>
    obtain ⟨vo, vn, vc, X, hvv, HX⟩ : ∃ vo vn vc X, (vo = so ∧ vn = m ∧ vc = sc) ∧ Hid (S4 = X) := ⟨so, m, sc, S4, ⟨rfl, rfl, rfl⟩, hide rfl⟩
    obtain ⟨rfl, rfl, rfl⟩ := hvv
    have HRD : Hid (RdT (tb + 1) w5 (.slice vo vn vc) X) := by have h9 := RdT.of (lo := tb + 1) (unhide HS5) (fun g hg => unhide HLO g hg); rw [unhide HX] at h9; exact h9
    have HFX : Hid (Few 5 X) := by have h9 := few_mono (m' := 5) (unhide HFW) (by omega); rw [unhide HX] at h9; exact h9
    have hlx : X.length ≤ 1001 := by rw [← unhide HX, unhide HM]; omega
    have HOk := HO5
    have HBk := HB5
    have HGk := HG5
    have HCk := HC5
    clear HO5 HB5 HG5 HC5 HS5 HFW HX HM HLO HCD
    go_wp2_with fail
    refine (once_of tb ao n cap q5 3 zs w5 (unhide HCk) (by omega) (by omega) (by omega)).mono ?_
    rintro e w7 ⟨t7, q7, rfl, c7, hq7, g7⟩
    have hz7 := g7.size
    have HO7 := hide (own_beneath (unhide HOk) g7 (fun a b e1 e2 => by have := ((unhide HOk).lt a e1).1; simp at e2; omega))
    have HB7 := hide (at_rowS g7 (unhide HBk) (fun e => by have := Option.some.inj e; omega))
    have HG7 : Hid (W1.grownBy w7 (some tb)) := grown_trans (unhide HGk) g7
    have HR7 := hide ((unhide HRD).keep g7 (by omega))
    have HC7 := hide c7
    clear HOk HBk HGk HRD HCk c7 g7
    cases t7 with
    | false =>
      have HOE := HO7
      have HBE := HB7
      have HGE := HG7
      clear HO7 HB7 HG7 HC7
      have HRB := hide (unhide HA _ _ (unhide HGE) (fun k e => by have := Option.some.inj e; omega))
      obtain ⟨k0, k1, k2, k3, k4⟩ := frameCells' (unhide HBE)
      go_wp2_with (refine wpList_store_row rfl 26 _ _ rfl w.heap.size rfl #[.int .i64 p, .int .i64 wd, .int .i64 ht, .int .i64 rs, .slice fo fn fc] rfl #[.int .i64 0, .int .i64 0, .int .i64 0, .int .i64 0, .slice none 0 0] 26 (unhide HRB) rfl (by kernel_rfl) (by simp [Value.oneCell']) ?_)
      intro w9 hB9 g9
      clear k0 k1 k2 k3 k4
      have HE : Hid (Ld w w9 fo fn C (.slice vo vn vc) (X)) := by
        have ho := own_beneath (unhide HOE) g9 (fun a b e1 e2 => by have := ((unhide HOE).lt a e1).1; simp at e2; omega)
        have hrd := ((unhide HR7)).keep (tb := w.heap.size) g9 (by omega)
        exact ⟨own_rdC ho, hm5, hrd.rd, unhide HFX, hlx, grown_new (grown_new (unhide HG0) (unhide HGE) (fun k e => by have := Option.some.inj e; omega)) g9 (fun k e => by simp at e; omega), hrd.1⟩
      obtain ⟨f0, f1, f2, f3, f4⟩ := frameCells' hB9
      clear g9 hB9 HRB HOE HBE HGE
      go_wp2
      refine bodyPost_ret (v := .tuple #[.agg #[.int .i64 p, .int .i64 wd, .int .i64 ht, .int .i64 rs, .slice fo fn fc], .slice vo vn vc]) (by simp [results, Try.results9, go_sem, f0, f1, f2, f3, f4]) rfl ?_
      exact ⟨p, wd, ht, rs, fo, fn, fc, C, _, _, _, _, rfl, unhide HE⟩
    | true =>
      have hvf := (unhide HR7).form.2
      have ev := i64_in ((vn : Int) + 1) (by omega)
      go_wp2_with fail
      refine (pick_any tb ao n cap q7 ((vn : Int) + 1) zs w7 (unhide HC7) (by omega) (by omega) (by omega)).mono ?_
      rintro e w8 ⟨x8, q8, rfl, hx80, hx81, c8, hq8, g8⟩
      obtain ⟨x8, rfl⟩ := Int.eq_ofNat_of_zero_le hx80
      have hxv : x8 ≤ vn := by omega
      have hxc : (x8 : Int) ≤ (vc : Int) := by omega
      have HOE := hide (own_beneath (unhide HO7) g8 (fun a b e1 e2 => by have := ((unhide HO7).lt a e1).1; simp at e2; omega))
      have HBE := hide (at_rowS g8 (unhide HB7) (fun e => by have := Option.some.inj e; omega))
      have HGE : Hid (W1.grownBy w8 (some tb)) := grown_trans (unhide HG7) g8
      have HR8 := hide (((unhide HR7).keep g8 (by omega)).take x8 hxv)
      have HTL : Hid ((X.take x8).length ≤ 1001) := by unfold Hid; rw [List.length_take]; omega
      clear HO7 HB7 HG7 HC7 HR7 c8 g8 hvf hx81 ev
      have HRB := hide (unhide HA _ _ (unhide HGE) (fun k e => by have := Option.some.inj e; omega))
      obtain ⟨k0, k1, k2, k3, k4⟩ := frameCells' (unhide HBE)
      go_wp2_with (refine wpList_store_row rfl 26 _ _ rfl w.heap.size rfl #[.int .i64 p, .int .i64 wd, .int .i64 ht, .int .i64 rs, .slice fo fn fc] rfl #[.int .i64 0, .int .i64 0, .int .i64 0, .int .i64 0, .slice none 0 0] 26 (unhide HRB) rfl (by kernel_rfl) (by simp [Value.oneCell']) ?_)
      intro w9 hB9 g9
      clear k0 k1 k2 k3 k4
      have HE : Hid (Ld w w9 fo fn C (.slice vo x8 vc) (X.take x8)) := by
        have ho := own_beneath (unhide HOE) g9 (fun a b e1 e2 => by have := ((unhide HOE).lt a e1).1; simp at e2; omega)
        have hrd := ((unhide HR8)).keep (tb := w.heap.size) g9 (by omega)
        exact ⟨own_rdC ho, hm5, hrd.rd, fun a ha => unhide HFX a (List.mem_of_mem_take ha), unhide HTL, grown_new (grown_new (unhide HG0) (unhide HGE) (fun k e => by have := Option.some.inj e; omega)) g9 (fun k e => by simp at e; omega), hrd.1⟩
      obtain ⟨f0, f1, f2, f3, f4⟩ := frameCells' hB9
      clear g9 hB9 HRB HOE HBE HGE
      go_wp2
      refine bodyPost_ret (v := .tuple #[.agg #[.int .i64 p, .int .i64 wd, .int .i64 ht, .int .i64 rs, .slice fo fn fc], .slice vo x8 vc]) (by simp [results, Try.results9, go_sem, f0, f1, f2, f3, f4]) rfl ?_
      exact ⟨p, wd, ht, rs, fo, fn, fc, C, _, _, _, _, rfl, unhide HE⟩
  | true =>
    go_wp2_with fail
    refine (drawSpoil tb ao n cap q5 zs w5 (unhide HC5) (by omega) (unhide HCD) so m sc S4 F4 (unhide HS5) HM (unhide HFW) ln4).mono ?_
    rintro e w6 ⟨v6, X, q6, rfl, r6, fw6, hlx, c6, hq6, g6⟩
    have hz6 := g6.size
    obtain ⟨vo, vc, ev6, _⟩ := id r6.rd
    subst ev6
    obtain ⟨vn, HVN⟩ : ∃ vn, Hid (X.length = vn) := ⟨_, hide rfl⟩
    have hlv : vn ≤ 1001 := by rw [← unhide HVN]; exact hlx
    rw [unhide HVN] at r6 ⊢
    have HRD := hide (r6.less (show tb + 1 ≤ w5.heap.size by omega))
    have HFX := hide fw6
    have HOk := hide (own_beneath (unhide HO5) g6 (fun a b e1 e2 => by have := ((unhide HO5).lt a e1).1; simp at e2; omega))
    have HBk := hide (at_rowS g6 (unhide HB5) (fun e => by have := Option.some.inj e; omega))
    have HGk : Hid (W1.grownBy w6 (some tb)) := grown_trans (unhide HG5) g6
    have HCk := hide c6
    clear r6 fw6 c6 g6 HO5 HB5 HG5 HC5 HS5 HFW HLO HCD
    go_wp2_with fail
    refine (once_of tb ao n cap q6 3 zs w6 (unhide HCk) (by omega) (by omega) (by omega)).mono ?_
    rintro e w7 ⟨t7, q7, rfl, c7, hq7, g7⟩
    have hz7 := g7.size
    have HO7 := hide (own_beneath (unhide HOk) g7 (fun a b e1 e2 => by have := ((unhide HOk).lt a e1).1; simp at e2; omega))
    have HB7 := hide (at_rowS g7 (unhide HBk) (fun e => by have := Option.some.inj e; omega))
    have HG7 : Hid (W1.grownBy w7 (some tb)) := grown_trans (unhide HGk) g7
    have HR7 := hide ((unhide HRD).keep g7 (by omega))
    have HC7 := hide c7
    clear HOk HBk HGk HRD HCk c7 g7
    cases t7 with
    | false =>
      have HOE := HO7
      have HBE := HB7
      have HGE := HG7
      clear HO7 HB7 HG7 HC7
      have HRB := hide (unhide HA _ _ (unhide HGE) (fun k e => by have := Option.some.inj e; omega))
      obtain ⟨k0, k1, k2, k3, k4⟩ := frameCells' (unhide HBE)
      go_wp2_with (refine wpList_store_row rfl 26 _ _ rfl w.heap.size rfl #[.int .i64 p, .int .i64 wd, .int .i64 ht, .int .i64 rs, .slice fo fn fc] rfl #[.int .i64 0, .int .i64 0, .int .i64 0, .int .i64 0, .slice none 0 0] 26 (unhide HRB) rfl (by kernel_rfl) (by simp [Value.oneCell']) ?_)
      intro w9 hB9 g9
      clear k0 k1 k2 k3 k4
      have HE : Hid (Ld w w9 fo fn C (.slice vo vn vc) (X)) := by
        have ho := own_beneath (unhide HOE) g9 (fun a b e1 e2 => by have := ((unhide HOE).lt a e1).1; simp at e2; omega)
        have hrd := ((unhide HR7)).keep (tb := w.heap.size) g9 (by omega)
        exact ⟨own_rdC ho, hm5, hrd.rd, unhide HFX, hlx, grown_new (grown_new (unhide HG0) (unhide HGE) (fun k e => by have := Option.some.inj e; omega)) g9 (fun k e => by simp at e; omega), hrd.1⟩
      obtain ⟨f0, f1, f2, f3, f4⟩ := frameCells' hB9
      clear g9 hB9 HRB HOE HBE HGE
      go_wp2
      refine bodyPost_ret (v := .tuple #[.agg #[.int .i64 p, .int .i64 wd, .int .i64 ht, .int .i64 rs, .slice fo fn fc], .slice vo vn vc]) (by simp [results, Try.results9, go_sem, f0, f1, f2, f3, f4]) rfl ?_
      exact ⟨p, wd, ht, rs, fo, fn, fc, C, _, _, _, _, rfl, unhide HE⟩
    | true =>
      have hvf := (unhide HR7).form.2
      have ev := i64_in ((vn : Int) + 1) (by omega)
      go_wp2_with fail
      refine (pick_any tb ao n cap q7 ((vn : Int) + 1) zs w7 (unhide HC7) (by omega) (by omega) (by omega)).mono ?_
      rintro e w8 ⟨x8, q8, rfl, hx80, hx81, c8, hq8, g8⟩
      obtain ⟨x8, rfl⟩ := Int.eq_ofNat_of_zero_le hx80
      have hxv : x8 ≤ vn := by omega
      have hxc : (x8 : Int) ≤ (vc : Int) := by omega
      have HOE := hide (own_beneath (unhide HO7) g8 (fun a b e1 e2 => by have := ((unhide HO7).lt a e1).1; simp at e2; omega))
      have HBE := hide (at_rowS g8 (unhide HB7) (fun e => by have := Option.some.inj e; omega))
      have HGE : Hid (W1.grownBy w8 (some tb)) := grown_trans (unhide HG7) g8
      have HR8 := hide (((unhide HR7).keep g8 (by omega)).take x8 hxv)
      have HTL : Hid ((X.take x8).length ≤ 1001) := by unfold Hid; rw [List.length_take]; omega
      clear HO7 HB7 HG7 HC7 HR7 c8 g8 hvf hx81 ev
      have HRB := hide (unhide HA _ _ (unhide HGE) (fun k e => by have := Option.some.inj e; omega))
      obtain ⟨k0, k1, k2, k3, k4⟩ := frameCells' (unhide HBE)
      go_wp2_with (refine wpList_store_row rfl 26 _ _ rfl w.heap.size rfl #[.int .i64 p, .int .i64 wd, .int .i64 ht, .int .i64 rs, .slice fo fn fc] rfl #[.int .i64 0, .int .i64 0, .int .i64 0, .int .i64 0, .slice none 0 0] 26 (unhide HRB) rfl (by kernel_rfl) (by simp [Value.oneCell']) ?_)
      intro w9 hB9 g9
      clear k0 k1 k2 k3 k4
      have HE : Hid (Ld w w9 fo fn C (.slice vo x8 vc) (X.take x8)) := by
        have ho := own_beneath (unhide HOE) g9 (fun a b e1 e2 => by have := ((unhide HOE).lt a e1).1; simp at e2; omega)
        have hrd := ((unhide HR8)).keep (tb := w.heap.size) g9 (by omega)
        exact ⟨own_rdC ho, hm5, hrd.rd, fun a ha => unhide HFX a (List.mem_of_mem_take ha), unhide HTL, grown_new (grown_new (unhide HG0) (unhide HGE) (fun k e => by have := Option.some.inj e; omega)) g9 (fun k e => by simp at e; omega), hrd.1⟩
      obtain ⟨f0, f1, f2, f3, f4⟩ := frameCells' hB9
      clear g9 hB9 HRB HOE HBE HGE
      go_wp2
      refine bodyPost_ret (v := .tuple #[.agg #[.int .i64 p, .int .i64 wd, .int .i64 ht, .int .i64 rs, .slice fo fn fc], .slice vo x8 vc]) (by simp [results, Try.results9, go_sem, f0, f1, f2, f3, f4]) rfl ?_
      exact ⟨p, wd, ht, rs, fo, fn, fc, C, _, _, _, _, rfl, unhide HE⟩

end Go.Proofs.Ytnjcmlmgjoaeeaa

namespace Go.Proofs.Ytnjcmlmgjoaeeaa
open Go.RowKit

/-- A script that is made tells all where the frame is ok, and nothing else is a script. -/
theorem tells_fb {p wd ht rs : Int} {n : Nat} {C : Nat → Nat → Int} {fb : Bool} (HFB : frameB p wd ht rs n C = fb) {kind : Int} (hk : 0 ≤ kind ∧ kind ≤ 2) : scriptB fb n (scriptG fb n kind) = fb := by
  cases fb with
  | true => exact (script_tells n (geo_of HFB).n1 (geo_of HFB).n4 kind hk).1
  | false => rfl
/-- Nothing comes behind it. -/
theorem tells_end {p wd ht rs : Int} {n : Nat} {C : Nat → Nat → Int} (HFB : frameB p wd ht rs n C = true) {kind : Int} (hk : 0 ≤ kind ∧ kind ≤ 2) : ∃ a s, scriptG true n kind = a :: s ∧ leftG true n (scriptG true n kind ++ [a]) = [] :=
  (script_tells n (geo_of HFB).n1 (geo_of HFB).n4 kind hk).2
/-- What is left of a beginning. -/
theorem left_begin {fb : Bool} {n : Nat} {X : List Scn} {L : List (List Int)} (HL : leftG fb n X = L) (h0 : L ≠ []) (k : Nat) (hk : k ≤ X.length) : (leftG fb n (X.take k)).length = L.length ∧ (∀ i, i < L.length → (L.getD i []).length = 64 ∧ ((leftG fb n (X.take k)).getD i []).length = 64) ∧
    ∀ i j, i < L.length → j < 64 → 0 ≤ atL (leftG fb n (X.take k)) i j → 0 ≤ atL L i j ∧ atL L i j ≤ atL (leftG fb n (X.take k)) i j := by
  unfold leftG at HL
  cases h : leftO fb n X with
  | none => rw [h] at HL; exact absurd HL.symm h0
  | some Y =>
    rw [h] at HL
    have e : Y = L := HL
    subst e
    obtain ⟨H, h1, h2, h3, h4⟩ := left_half h k hk
    have eH : leftG fb n (X.take k) = H := by unfold leftG; rw [h1]; rfl
    rw [eH]
    exact ⟨by rw [h2.1, h3.1], fun i hi => ⟨h3.2 i (by rw [← h3.1]; exact hi), h2.2 i (by rw [← h3.1]; exact hi)⟩, fun i j _ hj h5 => h4 i j hj h5⟩
/-- How much a script is that is drawn. -/
theorem sz_drawn {X : List Scn} (h : Few 5 X) (hl : X.length ≤ 1001) : szR szSc X ≤ 10000 := by
  have h1 := sumN_top szSc 5 X (fun a ha => h a ha)
  unfold szR
  omega
theorem sz_more {L : List Scn} {a : Scn} (h : szR szSc L ≤ 1000) (ha : a.cs.length ≤ 1000) : szR szSc (L ++ [a]) ≤ 10000 := by
  have hs : ∀ l : List Scn, sumN ((l ++ [a]).map szSc) = sumN (l.map szSc) + szSc a := fun l => by
    induction l with
    | nil => simp [sumN]
    | cons b r ih => simp only [List.cons_append, List.map_cons, sumN, ih]; omega
  have h2 : szSc a = a.cs.length := rfl
  unfold szR at h ⊢
  rw [hs, List.length_append, List.length_singleton]
  omega

/-- A script's first scan appended to it: the two have one list of components. -/
theorem app_first {w : World} {g oc : Nat} {a : Scn} {s : List Scn} {F : List Nat} (h : OwSs w (.slice (some ⟨g, 0, none⟩) (s.length + 1) oc) (a :: s) F) (nd : F.Nodup) :
    ∃ co cc xs, w.ownsRow 0 38 5 (.slice (some ⟨g, 0, none⟩) (s.length + 1) oc) (s.length + 1) xs ∧
      w.cell? ⟨g, 0, none⟩ = some (.slice co a.cs.length cc) ∧ w.cell? ⟨g, 1, none⟩ = some (.int .i64 a.fr) ∧ w.cell? ⟨g, 2, none⟩ = some (.int .i64 a.to) ∧ w.cell? ⟨g, 3, none⟩ = some (.int .i64 a.hi) ∧ w.cell? ⟨g, 4, none⟩ = some (.int .i64 a.lo) ∧
      ∀ w' v', w'.ownsRow 0 38 5 v' (s.length + 1 + 1) (xs ++ [.slice co a.cs.length cc, .int .i64 a.fr, .int .i64 a.to, .int .i64 a.hi, .int .i64 a.lo]) → w.grownBy w' (some g) → RdSs w' v' ((a :: s) ++ [a]) := by
  obtain ⟨g', cap, co, cc, ev, _, _, _, _, c0, c1, c2, c3, c4⟩ := h.look 0 (by simp) a rfl
  obtain ⟨e1, -, -⟩ := Value.slice.inj ev
  obtain rfl : g = g' := by simpa using e1
  obtain ⟨U, Fs, h2, h3, h4, rfl⟩ := h
  have hgF : g ∈ blk (.slice (some ⟨g, 0, none⟩) (s.length + 1) oc) := mem_blk.2 rfl
  have hn := List.nodup_append.1 nd
  have hl : (a :: s).length = s.length + 1 := rfl
  have hgi : ∀ j, j < (a :: s).length → g ∉ Fs.getD j [] := fun j hj hx => hn.2.2 g hgF g (flat_in (by omega) g hx) rfl
  simp only [Nat.zero_mul, Nat.zero_add] at c0 c1 c2 c3 c4
  refine ⟨co, cc, _, h3, c0, c1, c2, c3, c4, fun w' v' h5 hg => ?_⟩
  have hU : ∀ j, j < 5 → w.cell? ⟨g, j, none⟩ = some (U 0 j) := fun j hj => by have := cellG h3 0 j (by simp) hj; simpa using this
  have u0 : U 0 0 = .slice co a.cs.length cc := Option.some.inj ((hU 0 (by omega)).symm.trans c0)
  have u1 : U 0 1 = .int .i64 a.fr := Option.some.inj ((hU 1 (by omega)).symm.trans c1)
  have u2 : U 0 2 = .int .i64 a.to := Option.some.inj ((hU 2 (by omega)).symm.trans c2)
  have u3 : U 0 3 = .int .i64 a.hi := Option.some.inj ((hU 3 (by omega)).symm.trans c3)
  have u4 : U 0 4 = .int .i64 a.lo := Option.some.inj ((hU 4 (by omega)).symm.trans c4)
  have er : [.slice co a.cs.length cc, .int .i64 a.fr, .int .i64 a.to, .int .i64 a.hi, .int .i64 a.lo] = rowsK 1 5 (fun _ => U 0) := by rw [← u0, ← u1, ← u2, ← u3, ← u4]; rfl
  rw [er, rowsK_append _ 1 5 (by omega), hl] at h5
  have hel : ∀ i (h : i < (a :: s).length), RdScE w' (U i) (a :: s)[i] := fun i hi => by
    have hi4 := h4 i hi
    refine ⟨hi4.1, OwI.rd ((OwI.ok .i64 3).same w w' _ _ _ hi4.2 (fun x hx => hg.block x ((OwI.ok .i64 3).lt _ _ _ _ hi4.2 x hx) (fun e => ?_)))⟩
    have e9 : x = g := Option.some.inj e
    subst e9
    exact hgi i hi hx
  obtain ⟨vo, vc, rfl⟩ := own_form h5
  obtain ⟨g', rfl, _, _⟩ := own_at h5 (by omega)
  refine ⟨some ⟨g', 0, none⟩, vc, by simp, fun i hi => ?_⟩
  have hi' : i < s.length + 1 + 1 := by simpa using hi
  refine ⟨g', 0, _, rfl, fun j hj => by rw [Nat.zero_add]; exact cellG h5 i j hi' hj, ?_⟩
  by_cases h9 : i < s.length + 1
  · rw [List.getElem_append_left (by rw [hl]; exact h9)]
    simp only [h9, if_true]
    exact hel i (by rw [hl]; exact h9)
  · obtain rfl : i = s.length + 1 := by omega
    rw [List.getElem_append_right (by rw [hl]; exact Nat.le_refl _)]
    simp only [Nat.lt_irrefl, if_false, List.getElem_singleton]
    exact hel 0 (by simp)

/-- Scans that lie somewhere behind a row that is owned, the operation being guarded. -/
theorem step_append_cutW {w : World} {ops : Array Oper} {o : Oper} {a : Act} {K : Act → World → Prop} {Q : Exit → Act → World → Prop} {E : Prop} (hw : Region.wanted o (yielded ops a.tmps) = true) (s x : Operand)
    (ho : o.op = .call { callee := .builtin .append, args := #[s, x], argTypes := #[27, 27] })
    (v : Value) (n : Nat) (xs : List Value) (hs : a.eval s = v) (hown : w.ownsRow 0 38 5 v n xs) (ado : Option Addr) (m c : Nat) (news : List Value) (hx : a.eval x = .slice ado m c) (hl : news.length = m * 5) (hado : ∃ ad, ado = some ad ∧ ∀ j u, news[j]? = some u → w.cell? (ad.add j) = some u) (h1 : ∀ u ∈ news, u.oneCell' = true) (hb : n + m ≤ 2000)
    (hK : ∀ v' w', w'.ownsRow 0 38 5 v' (n + m) (xs ++ news) → w.grownBy w' v.ownBlock → (v'.ownBlock = v.ownBlock ∨ v'.ownBlock = some w.heap.size) → K (a.put o.dst v') w') :
    if Region.wanted o (yielded ops a.tmps) = true then Oper.wp Try.prog o a w K Q else E := by
  obtain ⟨ad, rfl, hnews⟩ := hado
  rw [if_pos hw]
  obtain ⟨i0, hi, hz0, hz1, hz2⟩ := info_parts info_scan
  obtain ⟨v', w', hr, h2, h3, _, h5⟩ := run_append_own_at (P := Try.prog) w 0 27 o.type 38 i0 _ 5 56 Try.underlying27 hi hz0 hz1 hz2 rfl (by decide) v n xs hown ad m c news hl hnews h1 (by unfold maxLen; omega) (by omega) (Nat.zero_le _)
  unfold Oper.wp execOp
  simp only [ho, resolve, invoke, builtin, Sem.run_bind, Sem.run_pure, Result.andThen_ok, List.map_toArray, List.map_cons, List.map_nil, hs, hx, hr]
  exact hK v' w' h2 h3 h5

/-- What the law has drawn: a frame in its box, and a script. -/
structure Sl (b3 : Nat) (p wd ht rs : Int) (fo : Option Addr) (fn fc : Nat) (C : Nat → Nat → Int) (v : Value) (X : List Scn) (W : World) : Prop where
  f3 : W.heap[b3]? = some (.cells #[.int .i64 p, .int .i64 wd, .int .i64 ht, .int .i64 rs, .slice fo fn fc] 26 (0, 0))
  rc : RdC W fo fn C
  rd : RdSs W v X
theorem Sl.new {b3 : Nat} {p wd ht rs : Int} {fo : Option Addr} {fn fc : Nat} {C : Nat → Nat → Int} {v : Value} {X : List Scn} {W W' : World} (h : Sl b3 p wd ht rs fo fn fc C v X W) (g : W.grownBy W' none) : Sl b3 p wd ht rs fo fn fc C v X W' :=
  ⟨at_rowS g h.f3 (by simp), h.rc.grown g, RdSs.st _ _ _ _ h.rd g⟩

end Go.Proofs.Ytnjcmlmgjoaeeaa

namespace Go.Proofs.Ytnjcmlmgjoaeeaa

theorem leftRow_app (want lo : Int) : ∀ (m k d : Nat) (row : List Int), leftRow want lo k (m + d) row = (leftRow want lo k m row).bind (leftRow want lo (k + m) d)
  | 0, k, d, row => by rw [Nat.zero_add]; rfl
  | m + 1, k, d, row => by
    have e : m + 1 + d = (m + d) + 1 := by omega
    rw [e]
    simp only [leftRow]
    split
    · rw [leftRow_app want lo m (k + 1) d]
      have e2 : k + 1 + m = k + (m + 1) := by omega
      rw [e2]
    · rfl
theorem leftComps_app (want lo : Int) (k m : Nat) : ∀ (cs ds : List Int) (X : List (List Int)), leftComps want lo k m (cs ++ ds) X = (leftComps want lo k m cs X).bind (leftComps want lo k m ds)
  | [], ds, X => rfl
  | c :: cs, ds, X => by
    simp only [List.cons_append, leftComps]
    cases leftRow want lo k m (X.getD c.toNat []) with
    | none => rfl
    | some row => exact leftComps_app want lo k m cs ds _
/-- One place more. -/
theorem leftRow_next {want lo : Int} {k m : Nat} {row r : List Int} (h : leftRow want lo k m row = some r) (hw : r.getD (k + m) 0 = want) : leftRow want lo k (m + 1) row = some (r.set (k + m) lo) := by
  rw [leftRow_app, h]
  show leftRow want lo (k + m) 1 r = _
  simp only [leftRow, hw, if_true]
theorem leftRow_fails {want lo : Int} {k m M : Nat} {row r : List Int} (h : leftRow want lo k m row = some r) (hw : r.getD (k + m) 0 ≠ want) (hM : m < M) : leftRow want lo k M row = none := by
  obtain ⟨d, rfl⟩ : ∃ d, M = m + (d + 1) := ⟨M - m - 1, by omega⟩
  rw [leftRow_app, h]
  show leftRow want lo (k + m) (d + 1) r = none
  simp only [leftRow, hw, if_false]
theorem leftComps_next {want lo : Int} {k m : Nat} {cs : List Int} {X Y : List (List Int)} (j : Nat) (hj : j < cs.length) (h : leftComps want lo k m (cs.take j) X = some Y) {row : List Int} (hr : leftRow want lo k m (Y.getD (cs.getD j 0).toNat []) = some row) : leftComps want lo k m (cs.take (j + 1)) X = some (Y.set (cs.getD j 0).toNat row) := by
  have e : cs.getD j 0 = cs[j] := by simp [hj]
  rw [List.take_succ_eq_append_getElem hj, leftComps_app, h]
  rw [e] at hr ⊢
  show leftComps want lo k m [cs[j]] Y = _
  simp only [leftComps, hr]
theorem leftComps_fails {want lo : Int} {k m : Nat} {cs : List Int} {X Y : List (List Int)} (j : Nat) (hj : j < cs.length) (h : leftComps want lo k m (cs.take j) X = some Y) (hr : leftRow want lo k m (Y.getD (cs.getD j 0).toNat []) = none) : leftComps want lo k m cs X = none := by
  have e : cs.getD j 0 = cs[j] := by simp [hj]
  have e2 : cs = cs.take j ++ cs[j] :: cs.drop (j + 1) := by rw [List.getElem_cons_drop]; exact (List.take_append_drop j cs).symm
  rw [e] at hr
  rw [e2, leftComps_app, h]
  show leftComps want lo k m (cs[j] :: cs.drop (j + 1)) Y = none
  simp only [leftComps, hr]
theorem leftAll_next {fb : Bool} {n : Nat} {s : List Scn} {X Y Z : List (List Int)} (i : Nat) (hi : i < s.length) (h : leftAll fb n (s.take i) X = some Y) (hb : scanB fb n s[i] = true) (hs : leftScan s[i] Y = some Z) : leftAll fb n (s.take (i + 1)) X = some Z := by
  rw [List.take_succ_eq_append_getElem hi, leftAll_app, h]
  show leftAll fb n [s[i]] Y = _
  simp only [leftAll, hb, if_true, hs]
theorem leftAll_fails {fb : Bool} {n : Nat} {s : List Scn} {X Y : List (List Int)} (i : Nat) (hi : i < s.length) (h : leftAll fb n (s.take i) X = some Y) (hs : scanB fb n s[i] = false ∨ leftScan s[i] Y = none) : leftAll fb n s X = none := by
  have e2 : s = s.take i ++ s[i] :: s.drop (i + 1) := by rw [List.getElem_cons_drop]; exact (List.take_append_drop i s).symm
  rw [e2, leftAll_app, h]
  show leftAll fb n (s[i] :: s.drop (i + 1)) Y = none
  rcases hs with hs | hs
  · simp only [leftAll, hs, Bool.false_eq_true, if_false]
  · simp only [leftAll, hs, ite_self]

end Go.Proofs.Ytnjcmlmgjoaeeaa

namespace Go.Proofs.Ytnjcmlmgjoaeeaa
open Go.RowKit

theorem append_rowR {α : Type} {P : World → Value → α → List Nat → Prop} (hP : OwOk P) {e T : TypeId} (hT : Try.prog.underlying T = some (.slice e)) (hI : (Try.prog.info? e).map (fun i => (i.zero, i.size, i.bytes)) = some (some (.slice none 0 0), 1, 24))
    {w : World} {ops : Array Oper} {rest : List Oper} {o : Oper} {a : Act} {Q : Exit → Act → World → Prop} (hgd : o.guard = none) (s x : Operand)
    (ho : o.op = .call { callee := .builtin .append, args := #[s, x], argTypes := #[T, T] })
    (v : Value) (L : List α) (F : List Nat) (hs : a.eval s = v) (hown : OwR e P w v L F) (hF : F.Nodup) (u : Value) (b : α) (Fb : List Nat) (hu : P w u b Fb) (hFb : Fb.Nodup) (hd : ∀ x ∈ Fb, x ∉ F) (hx : a.eval x = .slice (some ⟨w.heap.size, 0, none⟩) 1 1) (hb : L.length ≤ 1000000) (R : List α) (hR : L ++ [b] = R)
    (h : ∀ v' w' F', OwR e P w' v' R F' → F'.Nodup → (∀ x ∈ F', x ∈ F ∨ x ∈ Fb ∨ w.heap.size ≤ x) → Wr (blk v) w w' → wpList Try.prog ops Q rest (a.put o.dst v') w') :
    wpList Try.prog ops Q (o :: rest) a (w.alloc (.cells #[u] e)) := by
  subst hR
  obtain ⟨i0, hi, hz0, hz1, hz2⟩ := info_parts hI
  obtain ⟨us, Fs, l1, l2, o1, els, rfl⟩ := hown
  obtain ⟨uo, un, uc, rfl⟩ := hP.form _ _ _ _ hu
  have hn := List.nodup_append.1 hF
  refine wpList_append_own_at _ hgd s x T ho 0 e i0 _ 1 24 hT hi hz0 hz1 hz2 rfl (by decide) v L.length _ hs (o1.alloc _) ⟨w.heap.size, 0, none⟩ 1 1 [.slice uo un uc] hx rfl (World.news_of_block (cs := #[.slice uo un uc]) (t := e) (fr := (0, 0)) (heap_alloc_new w _)) (by intro y hy; simp at hy; subst hy; rfl) (by unfold maxLen; omega) (by omega) (Nat.zero_le _) ?_
  intro v' w' h1 h2 _ h4
  have hga : w.grownBy w' v.ownBlock := ⟨h2.os, h2.tape, h2.output, by have h := h2.size; simp at h; omega, fun k hk hr => (h2.block k (by simp; omega) hr).trans (Below.heap_alloc _ _ _ hk)⟩
  have hw : Wr (blk v) w w' := Wr.ofRow hga (fun g e => mem_blk.2 e)
  have hvb : ∀ y, y ∈ blk v' → y ∈ blk v ∨ w.heap.size ≤ y := fun y hy => by
    rcases h4 with h4 | h4
    · exact .inl (mem_blk.2 (by rw [← h4]; exact mem_blk.1 hy))
    · have e1 := mem_blk.1 hy
      rw [h4] at e1
      have e2 : (w.alloc (.cells #[.slice uo un uc] e)).heap.size = y := Option.some.inj e1
      exact .inr (by simp at e2; omega)
  have hfl : (Fs ++ [Fb]).flatten = Fs.flatten ++ Fb := by simp
  have hlt : ∀ y ∈ Fs.flatten, y < w.heap.size := fun y hy => by
    obtain ⟨l, hl, hyl⟩ := List.mem_flatten.1 hy
    obtain ⟨i, hi, rfl⟩ := List.mem_iff_getElem.1 hl
    exact hP.lt w _ _ _ (els i (by omega)) y (by simpa [hi] using hyl)
  refine h v' w' (blk v' ++ (Fs ++ [Fb]).flatten) ⟨us ++ [.slice uo un uc], Fs ++ [Fb], by simp [l1], by simp [l2], ?_, fun i hi => ?_, rfl⟩ ?_ ?_ hw
  · rw [List.length_append]; exact h1
  · by_cases hil : i < L.length
    · have e1 : (us ++ [Value.slice uo un uc]).getD i (.slice none 0 0) = us.getD i (.slice none 0 0) := by simp [List.getElem?_append_left (show i < us.length by omega)]
      have e2 : (Fs ++ [Fb]).getD i [] = Fs.getD i [] := by simp [List.getElem?_append_left (show i < Fs.length by omega)]
      rw [e1, e2, List.getElem_append_left hil]
      exact hP.wr (els i hil) hw (fun y hy hy2 => hn.2.2 y hy2 y (flat_in (by omega) y hy) rfl)
    · have hie : i = L.length := by rw [List.length_append] at hi; simp at hi; omega
      subst hie
      have e1 : (us ++ [Value.slice uo un uc]).getD L.length (.slice none 0 0) = .slice uo un uc := by rw [← l1]; simp
      have e2 : (Fs ++ [Fb]).getD L.length [] = Fb := by rw [← l2]; simp
      rw [e1, e2, List.getElem_append_right (Nat.le_refl _)]
      simp only [Nat.sub_self, List.getElem_cons_zero]
      exact hP.wr hu hw (fun y hy hy2 => hd y hy (by simp [hy2]))
  · rw [hfl]
    refine List.nodup_append.2 ⟨by unfold blk; cases v'.ownBlock <;> simp, List.nodup_append.2 ⟨hn.2.1, hFb, fun y hy z hz => ?_⟩, fun y hy z hz => ?_⟩
    · rintro rfl
      exact hd y hz (by simp [hy])
    · rintro rfl
      rcases List.mem_append.1 hz with hz | hz
      · rcases hvb y hy with h5 | h5
        · exact hn.2.2 y h5 y hz rfl
        · have := hlt y hz; omega
      · rcases hvb y hy with h5 | h5
        · exact hd y hz (by simp [h5])
        · have := hP.lt w _ _ _ hu y hz; omega
  · intro y hy
    rw [hfl] at hy
    rcases List.mem_append.1 hy with hy | hy
    · rcases hvb y hy with h5 | h5
      · exact .inl (by simp [h5])
      · exact .inr (.inr h5)
    · rcases List.mem_append.1 hy with hy | hy
      · exact .inl (by simp [hy])
      · exact .inr (.inl hy)

/-- The same, in a region that draws its order. -/
theorem step_append_rowR {α : Type} {P : World → Value → α → List Nat → Prop} (hP : OwOk P) {e T : TypeId} (hT : Try.prog.underlying T = some (.slice e)) (hI : (Try.prog.info? e).map (fun i => (i.zero, i.size, i.bytes)) = some (some (.slice none 0 0), 1, 24))
    {w : World} {ops : Array Oper} {o : Oper} {a : Act} {K : Act → World → Prop} {Q : Exit → Act → World → Prop} {E : Prop} (hgd : o.guard = none) (s x : Operand)
    (ho : o.op = .call { callee := .builtin .append, args := #[s, x], argTypes := #[T, T] })
    (v : Value) (L : List α) (F : List Nat) (hs : a.eval s = v) (hown : OwR e P w v L F) (hF : F.Nodup) (u : Value) (b : α) (Fb : List Nat) (hu : P w u b Fb) (hFb : Fb.Nodup) (hd : ∀ x ∈ Fb, x ∉ F) (hx : a.eval x = .slice (some ⟨w.heap.size, 0, none⟩) 1 1) (hb : L.length ≤ 1000000) (R : List α) (hR : L ++ [b] = R)
    (h : ∀ v' w' F', OwR e P w' v' R F' → F'.Nodup → (∀ x ∈ F', x ∈ F ∨ x ∈ Fb ∨ w.heap.size ≤ x) → Wr (blk v) w w' → K (a.put o.dst v') w') :
    if Region.wanted o (yielded ops a.tmps) = true then Oper.wp Try.prog o a (w.alloc (.cells #[u] e)) K Q else E := by
  subst hR
  obtain ⟨i0, hi, hz0, hz1, hz2⟩ := info_parts hI
  obtain ⟨us, Fs, l1, l2, o1, els, rfl⟩ := hown
  obtain ⟨uo, un, uc, rfl⟩ := hP.form _ _ _ _ hu
  have hn := List.nodup_append.1 hF
  refine step_append_lies _ hgd s x T ho 0 e i0 _ 1 24 hT hi hz0 hz1 hz2 rfl (by decide) v L.length _ hs (o1.alloc _) ⟨w.heap.size, 0, none⟩ 1 1 [.slice uo un uc] hx rfl (World.news_of_block (cs := #[.slice uo un uc]) (t := e) (fr := (0, 0)) (heap_alloc_new w _)) (by intro y hy; simp at hy; subst hy; rfl) (by omega) (by unfold maxLen; omega) (by omega) (Nat.zero_le _) _ rfl ?_
  intro g0 cap0 w' h1 h2 h4' _
  obtain ⟨v', hv'⟩ : ∃ v', Value.slice (some ⟨g0, 0, none⟩) (L.length + 1) cap0 = v' := ⟨_, rfl⟩
  have h4 : v'.ownBlock = v.ownBlock ∨ v'.ownBlock = some (w.alloc (.cells #[.slice uo un uc] e)).heap.size := by
    rcases h4' with h5 | h5
    · left; rw [← hv', h5]; rfl
    · right; rw [← hv', ← h5]; rfl
  rw [hv'] at h1 ⊢
  clear hv' h4'
  have hga : w.grownBy w' v.ownBlock := ⟨h2.os, h2.tape, h2.output, by have h := h2.size; simp at h; omega, fun k hk hr => (h2.block k (by simp; omega) hr).trans (Below.heap_alloc _ _ _ hk)⟩
  have hw : Wr (blk v) w w' := Wr.ofRow hga (fun g e => mem_blk.2 e)
  have hvb : ∀ y, y ∈ blk v' → y ∈ blk v ∨ w.heap.size ≤ y := fun y hy => by
    rcases h4 with h4 | h4
    · exact .inl (mem_blk.2 (by rw [← h4]; exact mem_blk.1 hy))
    · have e1 := mem_blk.1 hy
      rw [h4] at e1
      have e2 : (w.alloc (.cells #[.slice uo un uc] e)).heap.size = y := Option.some.inj e1
      exact .inr (by simp at e2; omega)
  have hfl : (Fs ++ [Fb]).flatten = Fs.flatten ++ Fb := by simp
  have hlt : ∀ y ∈ Fs.flatten, y < w.heap.size := fun y hy => by
    obtain ⟨l, hl, hyl⟩ := List.mem_flatten.1 hy
    obtain ⟨i, hi, rfl⟩ := List.mem_iff_getElem.1 hl
    exact hP.lt w _ _ _ (els i (by omega)) y (by simpa [hi] using hyl)
  refine h v' w' (blk v' ++ (Fs ++ [Fb]).flatten) ⟨us ++ [.slice uo un uc], Fs ++ [Fb], by simp [l1], by simp [l2], ?_, fun i hi => ?_, rfl⟩ ?_ ?_ hw
  · rw [List.length_append]; exact h1
  · by_cases hil : i < L.length
    · have e1 : (us ++ [Value.slice uo un uc]).getD i (.slice none 0 0) = us.getD i (.slice none 0 0) := by simp [List.getElem?_append_left (show i < us.length by omega)]
      have e2 : (Fs ++ [Fb]).getD i [] = Fs.getD i [] := by simp [List.getElem?_append_left (show i < Fs.length by omega)]
      rw [e1, e2, List.getElem_append_left hil]
      exact hP.wr (els i hil) hw (fun y hy hy2 => hn.2.2 y hy2 y (flat_in (by omega) y hy) rfl)
    · have hie : i = L.length := by rw [List.length_append] at hi; simp at hi; omega
      subst hie
      have e1 : (us ++ [Value.slice uo un uc]).getD L.length (.slice none 0 0) = .slice uo un uc := by rw [← l1]; simp
      have e2 : (Fs ++ [Fb]).getD L.length [] = Fb := by rw [← l2]; simp
      rw [e1, e2, List.getElem_append_right (Nat.le_refl _)]
      simp only [Nat.sub_self, List.getElem_cons_zero]
      exact hP.wr hu hw (fun y hy hy2 => hd y hy (by simp [hy2]))
  · rw [hfl]
    refine List.nodup_append.2 ⟨by unfold blk; cases v'.ownBlock <;> simp, List.nodup_append.2 ⟨hn.2.1, hFb, fun y hy z hz => ?_⟩, fun y hy z hz => ?_⟩
    · rintro rfl
      exact hd y hz (by simp [hy])
    · rintro rfl
      rcases List.mem_append.1 hz with hz | hz
      · rcases hvb y hy with h5 | h5
        · exact hn.2.2 y h5 y hz rfl
        · have := hlt y hz; omega
      · rcases hvb y hy with h5 | h5
        · exact hd y hz (by simp [h5])
        · have := hP.lt w _ _ _ hu y hz; omega
  · intro y hy
    rw [hfl] at hy
    rcases List.mem_append.1 hy with hy | hy
    · rcases hvb y hy with h5 | h5
      · exact .inl (by simp [h5])
      · exact .inr (.inr h5)
    · rcases List.mem_append.1 hy with hy | hy
      · exact .inl (by simp [hy])
      · exact .inr (.inl hy)

end Go.Proofs.Ytnjcmlmgjoaeeaa

namespace Go.Proofs.Ytnjcmlmgjoaeeaa
open Go.RowKit

/-- Rows while they are made, or written: beside the frame. -/
structure Lf (w wr : World) (fx : Array Value) (u : Value) (X : List (List Int)) (F : List Nat) : Prop where
  fr : wr.heap[w.heap.size]? = some (.cells fx 26 (0, 0))
  own : Ow2 wr u X F
  nd : F.Nodup
  lo : ∀ g ∈ F, w.heap.size + 1 ≤ g
  grown : w.grownBy wr none
theorem Lf.new {w wr w' : World} {fx : Array Value} {u : Value} {X : List (List Int)} {F : List Nat} (h : Lf w wr fx u X F) (g : wr.grownBy w' none) : Lf w w' fx u X F :=
  ⟨at_rowS g h.fr (by simp), ok2.keep h.own g, h.nd, h.lo, grown_trans h.grown g⟩
theorem Lf.size {w wr : World} {fx : Array Value} {u : Value} {X : List (List Int)} {F : List Nat} (h : Lf w wr fx u X F) : w.heap.size + 1 ≤ wr.heap.size := (Array.getElem?_eq_some_iff.1 h.fr).1
theorem nothing_next (i : Nat) : nothing i ++ [List.replicate 64 (-1)] = nothing (i + 1) := by
  unfold nothing
  generalize List.replicate 64 (-1 : Int) = r
  rw [List.replicate_succ']
theorem minus_next (k : Nat) : List.replicate k (-1 : Int) ++ [-1] = List.replicate (k + 1) (-1) := by rw [List.replicate_succ']
theorem leftL_row2 {w : World} {u : Value} {X : List (List Int)} {F : List Nat} (h : Ow2 w u X F) (hF : F.Nodup) (c : Nat) (hc : c < X.length) (k : Nat) (hk : k < (X.getD c []).length) : ∃ g cap gi ci, u = .slice (some ⟨g, 0, none⟩) X.length cap ∧ w.cell? ⟨g, c, none⟩ = some (.slice (some ⟨gi, 0, none⟩) (X.getD c []).length ci) ∧ w.cell? ⟨gi, k, none⟩ = some (.int .i64 ((X.getD c []).getD k 0)) ∧ w.frozen? ⟨gi, k, none⟩ = false ∧ gi ∈ F ∧
    ∀ z : Int, Ow2 (w.setCell ⟨gi, k, none⟩ (.int .i64 z)) u (X.set c ((X.getD c []).set k z)) F := by
  have e : X.getD c [] = X[c] := by simp [hc]
  rw [e] at hk ⊢
  obtain ⟨g, cap, ui, Fi, rfl, hg, cu, hP, hn, hgi, hsub, hset⟩ := OwR.at ok1 h hF c hc
  obtain ⟨ho, rfl⟩ := hP
  obtain ⟨ao, ci, rfl⟩ := own_form ho
  obtain ⟨gi, rfl, _, _⟩ := own_at ho (by omega)
  refine ⟨g, cap, gi, ci, rfl, cu, ?_, ho.frozenAt k, hsub gi (mem_blk.2 rfl), fun z => ?_⟩
  · rw [ho.cellAt k (by omega)]
    simp [hk]
  · have st := ho.stored k (.int .i64 z)
    refine hset _ _ (Wr.ofRow st.2 (fun x hx => by have := Option.some.inj hx; subst this; exact mem_blk.2 rfl)) ⟨?_, rfl⟩
    rw [List.length_set, List.map_set]
    exact st.1

theorem OwR.headL {α : Type} {e : TypeId} {P : World → Value → α → List Nat → Prop} {w : World} {g n cap : Nat} {L : List α} {F : List Nat} (h : OwR e P w (.slice (some ⟨g, 0, none⟩) n cap) L F) : g ∈ F := by
  obtain ⟨us, Fs, _, _, _, _, rfl⟩ := h
  exact List.mem_append_left _ (mem_blk.2 rfl)
/-- A new row of numbers beside the rows. -/
structure Lr (w wr : World) (F : List Nat) (rv : Value) (A : List Int) : Prop where
  own : wr.ownsRow (w.heap.size + 1) 3 1 rv A.length (A.map (Value.int .i64))
  na : ∀ g, rv.ownBlock = some g → g ∉ F

set_option maxRecDepth 20000 in
set_option maxHeartbeats 6400000 in
theorem specLeft (p wd ht rs : Int) (fo : Option Addr) (n fc : Nat) (C : Nat → Nat → Int) (w : World) (hr : RdC w fo n C) (hn : n ≤ 4194304) (v : Value) (S : List Scn) (hS : RdSs w v S) (hcs : ∀ a ∈ S, a.cs.length ≤ 4194304) (fb : Bool) (HFB : Hid (frameB p wd ht rs n C = fb)) (L : List (List Int)) (b : Bool) (HL : Hid (leftG fb n S = L)) (HB : Hid ((leftO fb n S).isSome = b)) :
    Calls Try.prog 51 #[.agg #[.int .i64 p, .int .i64 wd, .int .i64 ht, .int .i64 rs, .slice fo n fc], v] w fun e w' => ∃ u F, e = .returned (.tuple #[u, .bool b]) ∧ Ow2 w' u L F ∧ F.Nodup ∧ (∀ g ∈ F, w.heap.size ≤ g) ∧ w.grownBy w' none := by
  have hn4 : fb = true → n ≤ 4 := fun e => by have := unhide HFB; rw [e] at this; exact (geo_of this).n4
  obtain ⟨vo, vc, rfl, hSr⟩ := hS
  obtain ⟨W2, HW2⟩ : ∃ W2, Hid ((w.alloc (.cells #[.int .i64 p, .int .i64 wd, .int .i64 ht, .int .i64 rs, .slice fo n fc] 26)).alloc (.cells #[] 36) = W2) := ⟨_, rfl⟩
  have G0 : w.grownBy W2 none := by rw [← unhide HW2]; exact grown_alloc (grown_alloc (World.grownBy.refl _ _) _) _
  have B0 : W2.heap[w.heap.size]? = some (.cells #[.int .i64 p, .int .i64 wd, .int .i64 ht, .int .i64 rs, .slice fo n fc] 26 (0, 0)) := by
    rw [← unhide HW2]
    exact at_rowS (World.grownBy_alloc _ _ none) (heap_alloc_new w _) (by simp)
  have O0 : W2.ownsRow (w.heap.size + 1) 36 1 (.slice (some ⟨w.heap.size + 1, 0, none⟩) 0 0) 0 [] := by
    rw [← unhide HW2]
    have := World.ownsRow_lit (w.alloc (.cells #[.int .i64 p, .int .i64 wd, .int .i64 ht, .int .i64 rs, .slice fo n fc] 26)) (e := 36) (size := 1) (base := w.heap.size + 1) #[] 0 (by simp) (by unfold maxLen; omega) rfl
    simpa using this
  have HRC := hide hr
  have HFR := hide (specFrameOk p wd ht rs fo n fc C W2 (hr.grown G0) fb HFB)
  have HL0 : Hid (Lf w W2 #[.int .i64 p, .int .i64 wd, .int .i64 ht, .int .i64 rs, .slice fo n fc] (.slice (some ⟨w.heap.size + 1, 0, none⟩) 0 0) (nothing 0) [w.heap.size + 1]) := ⟨B0, ⟨[], [], rfl, rfl, own_base O0 (Nat.zero_le _), fun i hi => absurd hi (by simp [nothing]), rfl⟩, by simp, fun g hg => by simp at hg; omega, G0⟩
  rw [← unhide HW2] at B0
  obtain ⟨f0, f1, f2, f3, f4⟩ := frameCells' B0
  have HN4 := hide hn4
  have HSR := hide hSr
  have HCS := hide hcs
  clear hr G0 B0 O0 hn4 hSr hcs
  go_enter Try.func51, Try.ntmps51
  go_wp2_with fail
  rw [unhide HW2]
  clear HW2 f0 f1 f2 f3 f4
  refine (unhide HFR).mono ?_
  rintro e w3 ⟨rfl, g3⟩
  have HL3 := hide ((unhide HL0).new g3)
  clear g3 HFR HL0
  have NIL : Hid (leftO fb n S = none → b = false ∧ L = []) := fun e => ⟨by rw [← unhide HB, e]; rfl, by rw [← unhide HL, leftG, e]; rfl⟩
  cases fb with
  | false =>
    obtain ⟨rfl, rfl⟩ := unhide NIL (by unfold leftO; rfl)
    go_wp2
    refine bodyPost_ret (v := .tuple #[.slice (some ⟨w.heap.size + 1, 0, none⟩) 0 0, .bool false]) (by simp [results, Try.results51, go_sem]) rfl ?_
    exact ⟨_, _, rfl, (unhide HL3).own, (unhide HL3).nd, fun g hg => by have := (unhide HL3).lo g hg; omega, (unhide HL3).grown⟩
  | true =>
    have hn4 := unhide HN4 rfl
    by_cases h40 : S.length ≤ 40
    · have hgt : decide ((S.length : Int) > 40) = false := decide_eq_false (by omega)
      have hle : ¬ ((40 : Int) < (S.length : Int)) := by omega
      have LE : Hid (leftO true n S = leftAll true n S (nothing n)) := by unfold Hid leftO; rw [decide_eq_true h40]; rfl
      have EMP : Hid (∀ wq : World, w.grownBy wq none → b = false ∧ L = [] → ∃ u F, (Ending.returned (.tuple #[.slice (some ⟨wq.heap.size, 0, none⟩) 0 0, .bool false])) = .returned (.tuple #[u, .bool b]) ∧ Ow2 (wq.alloc (.cells #[] 36)) u L F ∧ F.Nodup ∧ (∀ g ∈ F, w.heap.size ≤ g) ∧ w.grownBy (wq.alloc (.cells #[] 36)) none) := fun wq gq e => by
        obtain ⟨rfl, rfl⟩ := e
        have hq := gq.size
        exact ⟨_, [wq.heap.size], rfl, ⟨[], [], rfl, rfl, World.ownsRow_lit wq #[] 0 (Nat.zero_le _) (by unfold maxLen; omega) rfl, fun i hi => absurd hi (by simp), rfl⟩, by simp, fun g hg => by simp at hg; omega, grown_alloc gq _⟩
      have HSL : Hid (S.length ≤ 40) := h40
      clear h40
      have c4 : w3.cell? ⟨w.heap.size, 4, none⟩ = some (.slice fo n fc) := (frameCells' (unhide HL3).fr).2.2.2.2
      go_wp2
      clear c4 hgt hle
      go_loopw [6, 7] (fun uv iv wr => ∃ (i : Nat) (uo : Option Addr) (uc : Nat) (F : List Nat), i ≤ n ∧ iv = .int .i64 i ∧ uv = .slice uo i uc ∧ Hid (Lf w wr #[.int .i64 p, .int .i64 wd, .int .i64 ht, .int .i64 rs, .slice fo n fc] (.slice uo i uc) (nothing i) F)) (fun _ iv _ => n - (intOf iv).toNat)
      case atStart => exact ⟨0, _, _, _, Nat.zero_le _, rfl, rfl, HL3⟩
      case round =>
        clear HL3
        obtain ⟨i, uo, uc, F, hin, rfl, rfl, hf⟩ := hrel
        have c4 : wr.cell? ⟨w.heap.size, 4, none⟩ = some (.slice fo n fc) := (frameCells' (unhide hf).fr).2.2.2.2
        by_cases hlt : i < n
        · have hd : decide ((i : Int) < (n : Int)) = true := decide_eq_true (by omega)
          have gA : wr.grownBy (wr.alloc (.cells #[] 3)) none := World.grownBy_alloc _ _ _
          have HF1 := hide ((unhide hf).new gA)
          have hs1 := (unhide hf).size
          have HR1 : Hid (Lr w (wr.alloc (.cells #[] 3)) F (.slice (some ⟨wr.heap.size, 0, none⟩) 0 0) (List.replicate 0 (-1))) := by
            refine ⟨World.ownsRow_lit wr #[] 0 hs1 (by unfold maxLen; omega) rfl, fun g e hx => ?_⟩
            have e9 : wr.heap.size = g := Option.some.inj e
            have := ok2.lt _ _ _ _ (unhide hf).own g hx
            omega
          clear gA hf
          go_wp2
          clear c4
          go_loopw [8, 9] (fun rv kv wr => ∃ (k : Nat) (ro : Option Addr) (rc : Nat), k ≤ 64 ∧ kv = .int .i64 k ∧ rv = .slice ro k rc ∧ Hid (Lf w wr #[.int .i64 p, .int .i64 wd, .int .i64 ht, .int .i64 rs, .slice fo n fc] (.slice uo i uc) (nothing i) F) ∧ Hid (Lr w wr F (.slice ro k rc) (List.replicate k (-1)))) (fun _ kv _ => 64 - (intOf kv).toNat)
          case atStart => exact ⟨0, _, _, Nat.zero_le _, rfl, rfl, HF1, HR1⟩
          case round =>
            clear HF1 HR1
            obtain ⟨k, ro, rc, hk, rfl, rfl, hf, hr1⟩ := hrel
            by_cases hk64 : k < 64
            · have hkI : (k : Int) < 64 := by omega
              obtain ⟨T, HTT⟩ : ∃ T, Hid (List.replicate k (-1 : Int) = T) := ⟨_, rfl⟩
              obtain ⟨R, HRR⟩ : ∃ R, Hid (List.replicate (k + 1) (-1 : Int) = R) := ⟨_, rfl⟩
              have HTL : Hid (T.length = k) := by unfold Hid; rw [← unhide HTT, List.length_replicate]
              have HRL : Hid (R.length = k + 1) := by unfold Hid; rw [← unhide HRR, List.length_replicate]
              have HNX : Hid (T ++ [(-1 : Int)] = R) := by unfold Hid; rw [← unhide HTT, ← unhide HRR]; exact minus_next k
              rw [unhide HTT] at hr1
              go_wp2_with (at_builtin; (refine append_intS rfl _ _ rfl (w.heap.size + 1) (.slice ro k rc) T rfl (unhide hr1).own (-1) rfl (by rw [unhide HTL]; omega) (unhide hf).size R (unhide HNX) ?_))
              intro v5 w5 o5 g5 hat5
              have HF5 : Hid (Lf w w5 #[.int .i64 p, .int .i64 wd, .int .i64 ht, .int .i64 rs, .slice fo n fc] (.slice uo i uc) (nothing i) F) := by
                have E := unhide hf
                refine ⟨at_rowS g5 E.fr (fun e => by have := ((unhide hr1).own.lt _ e).1; omega), ok2.wr E.own (Wr.ofRow (F := blk (.slice ro k rc)) g5 (fun x e => mem_blk.2 e)) (fun x hx e => (unhide hr1).na x (mem_blk.1 e) hx), E.nd, E.lo, grown_new E.grown g5 (fun q e => by have := ((unhide hr1).own.lt _ e).1; omega)⟩
              have HR5 : Hid (Lr w w5 F v5 R) := ⟨o5, fun g e hx => by
                rcases hat5 with h | h
                · exact (unhide hr1).na g (by rw [← h]; exact e) hx
                · have h2 := h g e
                  have h3 := ok2.lt _ _ _ _ (unhide hf).own g hx
                  omega⟩
              rw [unhide HRL] at o5
              obtain ⟨ro5, rc5, rfl⟩ := own_form o5
              rw [← unhide HRR] at HR5
              clear o5 g5 hat5 hf hr1 HTT HTL HRL HNX
              go_wp2
              go_roundw
              case rel => exact ⟨k + 1, ro5, rc5, by omega, by go_num, rfl, HF5, HR5⟩
              case measure => simp [intOf]; omega
            · obtain rfl : k = 64 := by omega
              obtain ⟨T, HTT⟩ : ∃ T, Hid (List.replicate 64 (-1 : Int) = T) := ⟨_, rfl⟩
              have HTL : Hid (T.length = 64) := by unfold Hid; rw [← unhide HTT, List.length_replicate]
              rw [unhide HTT] at hr1
              have HU : Hid (OwI .i64 3 wr (.slice ro 64 rc) T (blk (.slice ro 64 rc))) := ⟨own_base (unhide hr1).own (Nat.zero_le _), rfl⟩
              have HNE : Hid (nothing i ++ [T] = nothing (i + 1)) := by unfold Hid; rw [← unhide HTT]; exact nothing_next i
              have HLN : Hid ((nothing i).length ≤ 1000000) := by unfold Hid nothing; rw [List.length_replicate]; omega
              go_wp2_with (at_builtin; refine append_rowR ok1 Try.underlying34 infoIntSS rfl _ _ rfl (.slice uo i uc) (nothing i) F rfl (unhide hf).own (unhide hf).nd _ T _ (unhide HU) (blk_nodup _) (fun x hx => (unhide hr1).na x (mem_blk.1 hx)) rfl (unhide HLN) _ (unhide HNE) ?_)
              intro v5 w5 F5 o5 n5 m5 g5
              have HF5 : Hid (Lf w w5 #[.int .i64 p, .int .i64 wd, .int .i64 ht, .int .i64 rs, .slice fo n fc] v5 (nothing (i + 1)) F5) := by
                have E := unhide hf
                have hsub : ∀ x ∈ blk (.slice uo i uc), x ∈ F := by
                  obtain ⟨us, Fs, _, _, _, _, e9⟩ := E.own
                  intro x hx
                  rw [e9]
                  simp [hx]
                have hE := E.size
                refine ⟨(g5.block _ (by omega) (fun e => by have := E.lo _ (hsub _ e); omega)).trans E.fr, o5, n5, fun x hx => ?_, Wr.new E.grown g5 (fun x hx => by have := E.lo _ (hsub _ hx); omega)⟩
                rcases m5 x hx with h | h | h
                · exact E.lo x h
                · exact ((unhide hr1).own.lt x (mem_blk.1 h)).1
                · omega
              obtain ⟨uo5, uc5, rfl⟩ := o5.form
              have e5 : (nothing (i + 1)).length = i + 1 := by unfold nothing; rw [List.length_replicate]
              rw [e5] at HF5 ⊢
              clear o5 n5 m5 g5 hf hr1 HU HNE HLN HTT HTL e5
              go_wp2
              go_roundw
              case rel => exact ⟨i + 1, uo5, uc5, F5, by omega, by go_num, rfl, HF5⟩
              case measure => simp [intOf]; omega
        · obtain rfl : n = i := by omega
          have hd : decide ((n : Int) < (n : Int)) = false := decide_eq_false (by omega)
          go_wp2
          clear c4 hd
          have HX0 : Hid (leftAll true n (S.take 0) (nothing n) = some (nothing n)) := rfl
          go_loopw [10] (fun iv wr => ∃ (i : Nat) (X : List (List Int)), i ≤ S.length ∧ iv = .int .i64 i ∧ Hid (Lf w wr #[.int .i64 p, .int .i64 wd, .int .i64 ht, .int .i64 rs, .slice fo n fc] (.slice uo n uc) X F) ∧ Hid (leftAll true n (S.take i) (nothing n) = some X)) (fun iv _ => S.length - (intOf iv).toNat)
          case atStart => exact ⟨0, _, Nat.zero_le _, rfl, hf, HX0⟩
          case round =>
            clear hf HX0
            obtain ⟨i, X, hi, rfl, hf, hX⟩ := hrel
            by_cases hlt : i < S.length
            · have hltI : (i : Int) < (S.length : Int) := by omega
              have i0 : (0 : Int) ≤ (i : Int) := by omega
              obtain ⟨sb, soff, cf, rfl, hcell, hsc, hrd⟩ := unhide HSR i hlt
              obtain ⟨a, HA⟩ : ∃ a, Hid (S.getD i Scn.zero = a) := ⟨_, rfl⟩
              have ea : S[i] = a := by rw [← unhide HA]; simp [hlt]
              have hcl := unhide HCS S[i] (List.getElem_mem hlt)
              have NEXT : Hid (∀ Z, scanB true n a = true → leftScan a X = some Z → leftAll true n (S.take (i + 1)) (nothing n) = some Z) := fun Z h1 h2 => leftAll_next i hlt (unhide hX) (by rw [ea]; exact h1) (by rw [ea]; exact h2)
              have FAIL : Hid (scanB true n a = false ∨ leftScan a X = none → b = false ∧ L = []) := fun h => unhide NIL (by rw [unhide LE]; exact leftAll_fails i hlt (unhide hX) (by rw [ea]; exact h))
              have HR64 := hide (leftAll_step _ _ X (nothing_rows n) (unhide hX)).1
              rw [ea] at hsc hrd hcl
              clear ea
              obtain ⟨cs, fr, to, hi', lo⟩ := a
              obtain ⟨co, cc, ec, hrc⟩ := hrd
              dsimp only at hsc hrc hcl ec
              obtain ⟨cn, HCN⟩ : ∃ cn, Hid (cs.length = cn) := ⟨_, rfl⟩
              rw [unhide HCN] at ec hrc hcl
              obtain ⟨k0, k1, k2, k3, k4⟩ := rowScan (fun j hj => (unhide hf).grown.cell (hcell j hj) (by simp)) hsc
              rw [ec] at k0
              dsimp only at k1 k2 k3 k4
              have B5 := at_rowS (World.grownBy_alloc wr (.cells #[.slice co cn cc, .int .i64 fr, .int .i64 to, .int .i64 hi', .int .i64 lo] 38) none) (unhide hf).fr (by simp)
              have S5 := heap_alloc_new wr (.cells #[.slice co cn cc, .int .i64 fr, .int .i64 to, .int .i64 hi', .int .i64 lo] 38)
              obtain ⟨f0, f1, f2, f3, f4⟩ := frameCells' B5
              obtain ⟨s0, s1, s2, s3, s4⟩ := scanCells S5
              have HS5 := hide S5
              have HF5 := hide ((unhide hf).new (World.grownBy_alloc wr (.cells #[.slice co cn cc, .int .i64 fr, .int .i64 to, .int .i64 hi', .int .i64 lo] 38) none))
              have HRC' := hide hrc
              have HWS := (unhide hf).size
              have HDJ : Hid (∀ g ∈ F, g < wr.heap.size) := fun g hg => ok2.lt _ _ _ _ (unhide hf).own g hg
              obtain ⟨t, HT⟩ : ∃ t, Hid (scanB true n ⟨cs, fr, to, hi', lo⟩ = t) := ⟨_, rfl⟩
              clear hcell hsc hrc ec B5 S5 hf
              go_wp2_with fail
              clear f0 f1 f2 f3 f4 s0 s1 s2 s3 s4 k0 k1 k2 k3 k4
              generalize wr.alloc (.cells #[.slice co cn cc, .int .i64 fr, .int .i64 to, .int .i64 hi', .int .i64 lo] 38) = w5 at *
              generalize wr.heap.size = bs at *
              refine (specScanOk p wd ht rs fo n fc C w5 ((unhide HRC).grown (unhide HF5).grown) hn co cn cc ⟨cs, fr, to, hi', lo⟩ ((unhide HRC').grown (unhide HF5).grown) hcl true t HFB HT).mono ?_
              rintro e w6 ⟨rfl, g6⟩
              have HF6 := hide ((unhide HF5).new g6)
              have HS6 := hide (at_rowS g6 (unhide HS5) (by simp))
              clear HF5 HS5 g6
              cases t with
              | false =>
                have e := unhide FAIL (.inl (unhide HT))
                have HEM := hide (unhide EMP w6 (unhide HF6).grown e)
                go_wp2
                refine bodyPost_ret (v := .tuple #[.slice (some ⟨w6.heap.size, 0, none⟩) 0 0, .bool false]) (by simp [results, Try.results51, go_sem]) rfl ?_
                exact unhide HEM
              | true =>
                have hb := unhide HT
                simp only [scanB, Bool.and_eq_true] at hb
                obtain ⟨⟨_, hoc⟩, hpb⟩ := hb
                have hpi := passB_in hpb
                dsimp only at hpi hoc
                obtain ⟨p1, p2, p3, p4, p5⟩ := hpi
                have hcin := okComps_in hoc
                obtain ⟨fz, rfl⟩ := Int.eq_ofNat_of_zero_le p1
                obtain ⟨tz, rfl⟩ := Int.eq_ofNat_of_zero_le (Int.le_trans p1 p2)
                obtain ⟨wt, HWT⟩ : ∃ wt, Hid (wantOf ⟨cs, (fz : Int), (tz : Int), hi', lo⟩ = wt) := ⟨_, rfl⟩
                have HLS : Hid (leftScan ⟨cs, (fz : Int), (tz : Int), hi', lo⟩ X = leftComps wt lo fz (tz + 1 - fz) cs X) := by
                  unfold Hid leftScan
                  dsimp only
                  rw [unhide HWT]
                  have e1 : ((tz : Int) - (fz : Int) + 1).toNat = tz + 1 - fz := by omega
                  rw [e1, Int.toNat_natCast]
                have hft : fz ≤ tz := by omega
                have htz : tz ≤ 63 := by omega
                have HHI : Hid (wt = -1 ∨ lo ≤ wt) := by
                  unfold Hid
                  rw [← unhide HWT]
                  unfold wantOf
                  dsimp only
                  split
                  · exact .inl rfl
                  · right; omega
                have HLO := hide p4
                have HCIN := hide hcin
                have NXT : Hid (∀ Z, leftComps wt lo fz (tz + 1 - fz) cs X = some Z → leftAll true n (S.take (i + 1)) (nothing n) = some Z) := fun Z h => unhide NEXT Z (unhide HT) (by rw [unhide HLS]; exact h)
                have FLS : Hid (leftComps wt lo fz (tz + 1 - fz) cs X = none → b = false ∧ L = []) := fun h => unhide FAIL (.inr (by rw [unhide HLS]; exact h))
                have HY0 : Hid (leftComps wt lo fz (tz + 1 - fz) (cs.take 0) X = some X) := rfl
                have hc0 : 0 < cn := by
                  simp only [okComps, Bool.and_eq_true, decide_eq_true_eq] at hoc
                  rw [← unhide HCN]
                  exact hoc.2
                obtain ⟨cb, coff, rfl, _⟩ := (unhide HRC').2 0 hc0
                have h40 := unhide HSL
                obtain ⟨s0, s1, s2, s3, s4⟩ := scanCells (unhide HS6)
                clear hoc hpb hcin p1 p2 p3 p4 p5 NEXT FAIL HT HLS
                by_cases h0 : hi' = 0
                · have ew : (-1 : Int) = wt := by rw [← unhide HWT]; unfold wantOf; rw [if_pos h0]
                  have hz : (hi' == 0) = true := by simp [h0]
                  clear h0 HWT
                  go_wp2
                  rw [ew]
                  clear ew hz s0 s1 s2 s3 s4
                  go_loopw [13] (fun jv wr => ∃ (j : Nat) (Y : List (List Int)), j ≤ cn ∧ jv = .int .i64 j ∧ Hid (Lf w wr #[.int .i64 p, .int .i64 wd, .int .i64 ht, .int .i64 rs, .slice fo n fc] (.slice uo n uc) Y F) ∧ Hid (wr.heap[bs]? = some (.cells #[.slice (some ⟨cb, coff, none⟩) cn cc, .int .i64 (fz : Int), .int .i64 (tz : Int), .int .i64 hi', .int .i64 lo] 38 (0, 0))) ∧ Hid (leftComps wt lo fz (tz + 1 - fz) (cs.take j) X = some Y)) (fun jv _ => cn - (intOf jv).toNat)
                  case atStart => exact ⟨0, X, Nat.zero_le _, rfl, HF6, HS6, HY0⟩
                  case round =>
                    clear HF6 HS6 HY0
                    obtain ⟨j, Y, hj, rfl, hf, hs, hY⟩ := hrel
                    obtain ⟨s0, s1, s2, s3, s4⟩ := scanCells (unhide hs)
                    by_cases hjl : j < cn
                    · have hd2 : decide ((j : Int) < (cn : Int)) = true := decide_eq_true (by omega)
                      have hjI : (j : Int) < (cn : Int) := by omega
                      have hjc : j < cs.length := by rw [unhide HCN]; exact hjl
                      have hY64 := (leftComps_step (n := n) (by omega) (unhide HHI) (unhide HLO) (cs.take j) X Y (unhide HR64) (fun c hc => unhide HCIN c (List.mem_of_mem_take hc)) (unhide hY)).1
                      obtain ⟨cb', coff', ecb, hcc⟩ := (unhide HRC').2 j hjl
                      obtain ⟨rfl, rfl⟩ : cb = cb' ∧ coff = coff' := by simpa using ecb
                      obtain ⟨c0, c1⟩ := unhide HCIN (cs.getD j 0) (by rw [List.getD_eq_getElem?_getD, List.getElem?_eq_getElem hjc]; exact List.getElem_mem hjc)
                      obtain ⟨cj, hcj⟩ := Int.eq_ofNat_of_zero_le c0
                      have hcn4 : cj < n := by omega
                      have NX4 : Hid (∀ row, leftRow wt lo fz (tz + 1 - fz) (Y.getD cj []) = some row → leftComps wt lo fz (tz + 1 - fz) (cs.take (j + 1)) X = some (Y.set cj row)) := fun row h => by
                        have := leftComps_next (row := row) j hjc (unhide hY) (by rw [hcj, Int.toNat_natCast]; exact h)
                        rw [hcj, Int.toNat_natCast] at this
                        exact this
                      have FL4 : Hid (leftRow wt lo fz (tz + 1 - fz) (Y.getD cj []) = none → b = false ∧ L = []) := fun h => unhide FLS (leftComps_fails j hjc (unhide hY) (by rw [hcj, Int.toNat_natCast]; exact h))
                      rw [hcj] at hcc
                      have HCC := hide hcc
                      have HYL : Hid (Y.length = n) := hY64.1
                      have HYR : Hid ((Y.getD cj []).length = 64) := hY64.2 cj hcn4
                      have HY1 : Hid (Lf w wr #[.int .i64 p, .int .i64 wd, .int .i64 ht, .int .i64 rs, .slice fo n fc] (.slice uo n uc) (Y.set cj (Y.getD cj [])) F) := by
                        have e9 : Y.set cj (Y.getD cj []) = Y := by
                          have hl : cj < Y.length := by rw [hY64.1]; exact hcn4
                          have e8 : Y.getD cj [] = Y[cj] := by simp [hl]
                          rw [e8, List.set_getElem_self]
                        unfold Hid
                        rw [e9]
                        exact unhide hf
                      have HR0 : Hid (leftRow wt lo fz 0 (Y.getD cj []) = some (Y.getD cj [])) := rfl
                      clear hcc c0 c1 hcj hY64 hf hjc
                      go_wp2
                      clear s0 s1 s2 s3 s4
                      go_loopw [14] (fun kv wr => ∃ (m : Nat) (row : List Int), m ≤ tz + 1 - fz ∧ kv = .int .i64 ((fz + m : Nat) : Int) ∧ Hid (Lf w wr #[.int .i64 p, .int .i64 wd, .int .i64 ht, .int .i64 rs, .slice fo n fc] (.slice uo n uc) (Y.set cj row) F) ∧ Hid (wr.heap[bs]? = some (.cells #[.slice (some ⟨cb, coff, none⟩) cn cc, .int .i64 (fz : Int), .int .i64 (tz : Int), .int .i64 hi', .int .i64 lo] 38 (0, 0))) ∧ Hid (leftRow wt lo fz m (Y.getD cj []) = some row)) (fun kv _ => tz + 1 - (intOf kv).toNat)
                      case atStart => exact ⟨0, _, Nat.zero_le _, rfl, HY1, hs, HR0⟩
                      case round =>
                        clear HY1 hs HR0
                        obtain ⟨m, row, hm, rfl, hf, hs, hR⟩ := hrel
                        obtain ⟨s0, s1, s2, s3, s4⟩ := scanCells (unhide hs)
                        by_cases hml : m < tz + 1 - fz
                        · have hd3 : decide (((fz + m : Nat) : Int) ≤ (tz : Int)) = true := decide_eq_true (by omega)
                          have hk64 : fz + m < 64 := by omega
                          have hrl : row.length = 64 := by rw [leftRow_len _ _ _ row (unhide hR)]; exact unhide HYR
                          have hcl2 : cj < (Y.set cj row).length := by rw [List.length_set, unhide HYL]; exact hcn4
                          have eg : (Y.set cj row).getD cj [] = row := getD_set_same _ _ _ _ (by rw [unhide HYL]; exact hcn4)
                          obtain ⟨g, gcap, gi, ci, e1, q0, q1, qf, hgF, hset⟩ := leftL_row2 (unhide hf).own (unhide hf).nd cj hcl2 (fz + m) (by rw [eg, hrl]; exact hk64)
                          rw [eg] at q0 q1 hset
                          rw [hrl] at q0
                          rw [List.length_set, unhide HYL] at e1
                          obtain ⟨rfl, rfl⟩ : uo = some ⟨g, 0, none⟩ ∧ uc = gcap := by simpa using e1
                          have hset' : ∀ z, (Y.set cj row).set cj (row.set (fz + m) z) = Y.set cj (row.set (fz + m) z) := fun z => by rw [List.set_set]
                          have hcc' := (unhide hf).grown.cell (unhide HCC) (by simp)
                          obtain ⟨z, HZ⟩ : ∃ z, Hid (row.getD (fz + m) 0 = z) := ⟨_, rfl⟩
                          rw [unhide HZ] at q1
                          obtain ⟨kk, HKK⟩ : ∃ kk, Hid (fz + m = kk) := ⟨_, rfl⟩
                          rw [unhide HKK] at q1 qf hset hset' hd3 hk64 HZ ⊢
                          have b1 : (0 : Int) ≤ (cj : Int) := by omega
                          have b2 : (cj : Int) < (n : Int) := by omega
                          have b3 : (0 : Int) ≤ (kk : Int) := by omega
                          have b4 : (kk : Int) < 64 := by omega
                          have b5 : (0 : Int) ≤ (j : Int) := by omega
                          have b6 : (kk : Int) ≤ (tz : Int) := by have := unhide HKK; omega
                          have b7 : kk ≤ tz := by omega
                          clear e1 eg hcl2
                          by_cases hzw : z = wt
                          · have hne : (z != wt) = false := by simp [hzw]
                            have hgl : g ∈ F := (unhide hf).own.headL
                            have HF9 : Hid (Lf w (wr.drew.setCell ⟨gi, kk, none⟩ (.int .i64 lo)) #[.int .i64 p, .int .i64 wd, .int .i64 ht, .int .i64 rs, .slice fo n fc] (.slice (some ⟨g, 0, none⟩) n uc) (Y.set cj (row.set kk lo)) F) := by
                              have E := unhide hf
                              have hlo := E.lo gi hgF
                              have gs := grown_set wr.drew gi kk (.int .i64 lo)
                              refine ⟨at_rowS gs E.fr (by simp; omega), ?_, E.nd, E.lo, grown_new (grown_drew E.grown) gs (fun q e => by simp at e; omega)⟩
                              have h9 := hset lo
                              rw [hset'] at h9
                              exact ok2.same _ _ _ _ _ h9 (fun x _ => rfl)
                            have HS9 : Hid ((wr.drew.setCell ⟨gi, kk, none⟩ (.int .i64 lo)).heap[bs]? = some (.cells #[.slice (some ⟨cb, coff, none⟩) cn cc, .int .i64 (fz : Int), .int .i64 (tz : Int), .int .i64 hi', .int .i64 lo] 38 (0, 0))) := at_rowS (grown_set wr.drew gi kk (.int .i64 lo)) (unhide hs) (by have := unhide HDJ gi hgF; simp; omega)
                            have HR9 : Hid (leftRow wt lo fz (m + 1) (Y.getD cj []) = some (row.set kk lo)) := by
                              have := leftRow_next (unhide hR) (by rw [unhide HKK, unhide HZ]; exact hzw)
                              rw [unhide HKK] at this
                              exact this
                            subst hzw
                            clear hset hset' hf hs hR HZ
                            go_wp2
                            refine wp_region_noPanic ?_
                            have d0 : wr.drew.cell? ⟨bs, 0, none⟩ = _ := s0
                            have d4 : wr.drew.cell? ⟨bs, 4, none⟩ = _ := s4
                            have dc : wr.drew.cell? ⟨cb, coff + j, none⟩ = _ := hcc'
                            have dq0 : wr.drew.cell? ⟨g, cj, none⟩ = _ := q0
                            have dq1 : wr.drew.cell? ⟨gi, kk, none⟩ = _ := q1
                            have dqf : wr.drew.frozen? ⟨gi, kk, none⟩ = false := qf
                            clear s0 s1 s2 s3 s4 hcc' q0 q1 qf
                            refine wp_region_tailL 20 (fun W => W = wr.drew) [true, true, true, true, true, true, true, true, true, true, true, false, false] (by kernel_rfl) (fun _ _ _ _ _ h => h) rfl (by decide) (by kernel_rfl) rfl ?_
                            generalize wr.drew = wd' at *
                            iterate 11
                              refine heldF_take (v := ?_) (Or.inl ⟨by rfl, ?_⟩) ?_
                              rotate_left 1
                              · intro w' hSw
                                subst hSw
                                go_simp
                                try with_reducible rfl
                              simp only [Act.put, List.setIfInBounds_toArray, List.set_cons_zero, List.set_cons_succ]
                            refine heldF_skip (heldF_skip (heldF_nil ?_))
                            refine tailL_skip (tailL_skip (tailL_skip (tailL_skip (tailL_skip (tailL_skip (tailL_skip (tailL_skip (tailL_skip (tailL_skip (tailL_skip ?_))))))))))
                            refine tailL_step (fun K hK => ?_)
                            go_simp
                            refine hK.out _ _ (.inr rfl) ?_
                            clear hK K
                            try simp only [Act.put, List.setIfInBounds_toArray, List.set_cons_zero, List.set_cons_succ]
                            refine tailL_step (fun K hK => ?_)
                            go_simp
                            refine hK.out _ _ (.inl rfl) (tailL_nil (NoPanic.normal ?_))
                            clear hK K d0 d4 dc dq0 dq1 dqf
                            generalize wd'.setCell ⟨gi, kk, none⟩ (.int .i64 lo) = w9 at *
                            go_wp2
                            go_roundw
                            case rel => exact ⟨m + 1, row.set kk lo, by omega, by have := unhide HKK; go_num, HF9, HS9, HR9⟩
                            case measure => have := unhide HKK; simp [intOf]; omega
                          · have hne : (z != wt) = true := by simp [hzw]
                            have e := unhide FL4 (leftRow_fails (unhide hR) (by rw [unhide HKK, unhide HZ]; exact hzw) hml)
                            have HEM := hide (unhide EMP wr (unhide hf).grown e)
                            clear hzw hset hset'
                            go_wp2
                            refine bodyPost_ret (v := .tuple #[.slice (some ⟨wr.heap.size, 0, none⟩) 0 0, .bool false]) (by simp [results, Try.results51, go_sem]) rfl ?_
                            exact unhide HEM
                        · obtain rfl : m = tz + 1 - fz := by omega
                          have e9 : fz + (tz + 1 - fz) = tz + 1 := by omega
                          rw [e9]
                          have hd3 : decide (((tz + 1 : Nat) : Int) ≤ (tz : Int)) = false := decide_eq_false (by omega)
                          have HC9 := hide (unhide NX4 row (unhide hR))
                          clear e9
                          go_wp2
                          go_roundw
                          case rel => exact ⟨j + 1, Y.set cj row, by omega, by go_num, hf, hs, HC9⟩
                          case measure => simp [intOf]; omega
                    · obtain rfl : j = cn := by omega
                      have hd2 : decide ((j : Int) < (j : Int)) = false := decide_eq_false (by omega)
                      have HA9 : Hid (leftAll true n (S.take (i + 1)) (nothing n) = some Y) := unhide NXT Y (by have h9 := unhide hY; rw [← unhide HCN, List.take_length] at h9; exact h9)
                      go_wp2
                      go_roundw
                      case rel => exact ⟨i + 1, Y, by omega, by go_num, hf, HA9⟩
                      case measure => simp [intOf]; omega
                · have ew : hi' = wt := by rw [← unhide HWT]; unfold wantOf; rw [if_neg h0]
                  have hz : (hi' == 0) = false := by simp [h0]
                  clear h0 HWT
                  subst ew
                  go_wp2
                  clear hz s0 s1 s2 s3 s4
                  go_loopw [13] (fun jv wr => ∃ (j : Nat) (Y : List (List Int)), j ≤ cn ∧ jv = .int .i64 j ∧ Hid (Lf w wr #[.int .i64 p, .int .i64 wd, .int .i64 ht, .int .i64 rs, .slice fo n fc] (.slice uo n uc) Y F) ∧ Hid (wr.heap[bs]? = some (.cells #[.slice (some ⟨cb, coff, none⟩) cn cc, .int .i64 (fz : Int), .int .i64 (tz : Int), .int .i64 hi', .int .i64 lo] 38 (0, 0))) ∧ Hid (leftComps hi' lo fz (tz + 1 - fz) (cs.take j) X = some Y)) (fun jv _ => cn - (intOf jv).toNat)
                  case atStart => exact ⟨0, X, Nat.zero_le _, rfl, HF6, HS6, HY0⟩
                  case round =>
                    clear HF6 HS6 HY0
                    obtain ⟨j, Y, hj, rfl, hf, hs, hY⟩ := hrel
                    obtain ⟨s0, s1, s2, s3, s4⟩ := scanCells (unhide hs)
                    by_cases hjl : j < cn
                    · have hd2 : decide ((j : Int) < (cn : Int)) = true := decide_eq_true (by omega)
                      have hjI : (j : Int) < (cn : Int) := by omega
                      have hjc : j < cs.length := by rw [unhide HCN]; exact hjl
                      have hY64 := (leftComps_step (n := n) (by omega) (unhide HHI) (unhide HLO) (cs.take j) X Y (unhide HR64) (fun c hc => unhide HCIN c (List.mem_of_mem_take hc)) (unhide hY)).1
                      obtain ⟨cb', coff', ecb, hcc⟩ := (unhide HRC').2 j hjl
                      obtain ⟨rfl, rfl⟩ : cb = cb' ∧ coff = coff' := by simpa using ecb
                      obtain ⟨c0, c1⟩ := unhide HCIN (cs.getD j 0) (by rw [List.getD_eq_getElem?_getD, List.getElem?_eq_getElem hjc]; exact List.getElem_mem hjc)
                      obtain ⟨cj, hcj⟩ := Int.eq_ofNat_of_zero_le c0
                      have hcn4 : cj < n := by omega
                      have NX4 : Hid (∀ row, leftRow hi' lo fz (tz + 1 - fz) (Y.getD cj []) = some row → leftComps hi' lo fz (tz + 1 - fz) (cs.take (j + 1)) X = some (Y.set cj row)) := fun row h => by
                        have := leftComps_next (row := row) j hjc (unhide hY) (by rw [hcj, Int.toNat_natCast]; exact h)
                        rw [hcj, Int.toNat_natCast] at this
                        exact this
                      have FL4 : Hid (leftRow hi' lo fz (tz + 1 - fz) (Y.getD cj []) = none → b = false ∧ L = []) := fun h => unhide FLS (leftComps_fails j hjc (unhide hY) (by rw [hcj, Int.toNat_natCast]; exact h))
                      rw [hcj] at hcc
                      have HCC := hide hcc
                      have HYL : Hid (Y.length = n) := hY64.1
                      have HYR : Hid ((Y.getD cj []).length = 64) := hY64.2 cj hcn4
                      have HY1 : Hid (Lf w wr #[.int .i64 p, .int .i64 wd, .int .i64 ht, .int .i64 rs, .slice fo n fc] (.slice uo n uc) (Y.set cj (Y.getD cj [])) F) := by
                        have e9 : Y.set cj (Y.getD cj []) = Y := by
                          have hl : cj < Y.length := by rw [hY64.1]; exact hcn4
                          have e8 : Y.getD cj [] = Y[cj] := by simp [hl]
                          rw [e8, List.set_getElem_self]
                        unfold Hid
                        rw [e9]
                        exact unhide hf
                      have HR0 : Hid (leftRow hi' lo fz 0 (Y.getD cj []) = some (Y.getD cj [])) := rfl
                      clear hcc c0 c1 hcj hY64 hf hjc
                      go_wp2
                      clear s0 s1 s2 s3 s4
                      go_loopw [14] (fun kv wr => ∃ (m : Nat) (row : List Int), m ≤ tz + 1 - fz ∧ kv = .int .i64 ((fz + m : Nat) : Int) ∧ Hid (Lf w wr #[.int .i64 p, .int .i64 wd, .int .i64 ht, .int .i64 rs, .slice fo n fc] (.slice uo n uc) (Y.set cj row) F) ∧ Hid (wr.heap[bs]? = some (.cells #[.slice (some ⟨cb, coff, none⟩) cn cc, .int .i64 (fz : Int), .int .i64 (tz : Int), .int .i64 hi', .int .i64 lo] 38 (0, 0))) ∧ Hid (leftRow hi' lo fz m (Y.getD cj []) = some row)) (fun kv _ => tz + 1 - (intOf kv).toNat)
                      case atStart => exact ⟨0, _, Nat.zero_le _, rfl, HY1, hs, HR0⟩
                      case round =>
                        clear HY1 hs HR0
                        obtain ⟨m, row, hm, rfl, hf, hs, hR⟩ := hrel
                        obtain ⟨s0, s1, s2, s3, s4⟩ := scanCells (unhide hs)
                        by_cases hml : m < tz + 1 - fz
                        · have hd3 : decide (((fz + m : Nat) : Int) ≤ (tz : Int)) = true := decide_eq_true (by omega)
                          have hk64 : fz + m < 64 := by omega
                          have hrl : row.length = 64 := by rw [leftRow_len _ _ _ row (unhide hR)]; exact unhide HYR
                          have hcl2 : cj < (Y.set cj row).length := by rw [List.length_set, unhide HYL]; exact hcn4
                          have eg : (Y.set cj row).getD cj [] = row := getD_set_same _ _ _ _ (by rw [unhide HYL]; exact hcn4)
                          obtain ⟨g, gcap, gi, ci, e1, q0, q1, qf, hgF, hset⟩ := leftL_row2 (unhide hf).own (unhide hf).nd cj hcl2 (fz + m) (by rw [eg, hrl]; exact hk64)
                          rw [eg] at q0 q1 hset
                          rw [hrl] at q0
                          rw [List.length_set, unhide HYL] at e1
                          obtain ⟨rfl, rfl⟩ : uo = some ⟨g, 0, none⟩ ∧ uc = gcap := by simpa using e1
                          have hset' : ∀ z, (Y.set cj row).set cj (row.set (fz + m) z) = Y.set cj (row.set (fz + m) z) := fun z => by rw [List.set_set]
                          have hcc' := (unhide hf).grown.cell (unhide HCC) (by simp)
                          obtain ⟨z, HZ⟩ : ∃ z, Hid (row.getD (fz + m) 0 = z) := ⟨_, rfl⟩
                          rw [unhide HZ] at q1
                          obtain ⟨kk, HKK⟩ : ∃ kk, Hid (fz + m = kk) := ⟨_, rfl⟩
                          rw [unhide HKK] at q1 qf hset hset' hd3 hk64 HZ ⊢
                          have b1 : (0 : Int) ≤ (cj : Int) := by omega
                          have b2 : (cj : Int) < (n : Int) := by omega
                          have b3 : (0 : Int) ≤ (kk : Int) := by omega
                          have b4 : (kk : Int) < 64 := by omega
                          have b5 : (0 : Int) ≤ (j : Int) := by omega
                          have b6 : (kk : Int) ≤ (tz : Int) := by have := unhide HKK; omega
                          have b7 : kk ≤ tz := by omega
                          clear e1 eg hcl2
                          by_cases hzw : z = hi'
                          · have hne : (z != hi') = false := by simp [hzw]
                            have hgl : g ∈ F := (unhide hf).own.headL
                            have HF9 : Hid (Lf w (wr.drew.setCell ⟨gi, kk, none⟩ (.int .i64 lo)) #[.int .i64 p, .int .i64 wd, .int .i64 ht, .int .i64 rs, .slice fo n fc] (.slice (some ⟨g, 0, none⟩) n uc) (Y.set cj (row.set kk lo)) F) := by
                              have E := unhide hf
                              have hlo := E.lo gi hgF
                              have gs := grown_set wr.drew gi kk (.int .i64 lo)
                              refine ⟨at_rowS gs E.fr (by simp; omega), ?_, E.nd, E.lo, grown_new (grown_drew E.grown) gs (fun q e => by simp at e; omega)⟩
                              have h9 := hset lo
                              rw [hset'] at h9
                              exact ok2.same _ _ _ _ _ h9 (fun x _ => rfl)
                            have HS9 : Hid ((wr.drew.setCell ⟨gi, kk, none⟩ (.int .i64 lo)).heap[bs]? = some (.cells #[.slice (some ⟨cb, coff, none⟩) cn cc, .int .i64 (fz : Int), .int .i64 (tz : Int), .int .i64 hi', .int .i64 lo] 38 (0, 0))) := at_rowS (grown_set wr.drew gi kk (.int .i64 lo)) (unhide hs) (by have := unhide HDJ gi hgF; simp; omega)
                            have HR9 : Hid (leftRow hi' lo fz (m + 1) (Y.getD cj []) = some (row.set kk lo)) := by
                              have := leftRow_next (unhide hR) (by rw [unhide HKK, unhide HZ]; exact hzw)
                              rw [unhide HKK] at this
                              exact this
                            subst hzw
                            clear hset hset' hf hs hR HZ
                            go_wp2
                            refine wp_region_noPanic ?_
                            have d0 : wr.drew.cell? ⟨bs, 0, none⟩ = _ := s0
                            have d4 : wr.drew.cell? ⟨bs, 4, none⟩ = _ := s4
                            have dc : wr.drew.cell? ⟨cb, coff + j, none⟩ = _ := hcc'
                            have dq0 : wr.drew.cell? ⟨g, cj, none⟩ = _ := q0
                            have dq1 : wr.drew.cell? ⟨gi, kk, none⟩ = _ := q1
                            have dqf : wr.drew.frozen? ⟨gi, kk, none⟩ = false := qf
                            clear s0 s1 s2 s3 s4 hcc' q0 q1 qf
                            refine wp_region_tailL 20 (fun W => W = wr.drew) [true, true, true, true, true, true, true, true, true, true, true, false, false] (by kernel_rfl) (fun _ _ _ _ _ h => h) rfl (by decide) (by kernel_rfl) rfl ?_
                            generalize wr.drew = wd' at *
                            iterate 11
                              refine heldF_take (v := ?_) (Or.inl ⟨by rfl, ?_⟩) ?_
                              rotate_left 1
                              · intro w' hSw
                                subst hSw
                                go_simp
                                try with_reducible rfl
                              simp only [Act.put, List.setIfInBounds_toArray, List.set_cons_zero, List.set_cons_succ]
                            refine heldF_skip (heldF_skip (heldF_nil ?_))
                            refine tailL_skip (tailL_skip (tailL_skip (tailL_skip (tailL_skip (tailL_skip (tailL_skip (tailL_skip (tailL_skip (tailL_skip (tailL_skip ?_))))))))))
                            refine tailL_step (fun K hK => ?_)
                            go_simp
                            refine hK.out _ _ (.inr rfl) ?_
                            clear hK K
                            try simp only [Act.put, List.setIfInBounds_toArray, List.set_cons_zero, List.set_cons_succ]
                            refine tailL_step (fun K hK => ?_)
                            go_simp
                            refine hK.out _ _ (.inl rfl) (tailL_nil (NoPanic.normal ?_))
                            clear hK K d0 d4 dc dq0 dq1 dqf
                            generalize wd'.setCell ⟨gi, kk, none⟩ (.int .i64 lo) = w9 at *
                            go_wp2
                            go_roundw
                            case rel => exact ⟨m + 1, row.set kk lo, by omega, by have := unhide HKK; go_num, HF9, HS9, HR9⟩
                            case measure => have := unhide HKK; simp [intOf]; omega
                          · have hne : (z != hi') = true := by simp [hzw]
                            have e := unhide FL4 (leftRow_fails (unhide hR) (by rw [unhide HKK, unhide HZ]; exact hzw) hml)
                            have HEM := hide (unhide EMP wr (unhide hf).grown e)
                            clear hzw hset hset'
                            go_wp2
                            refine bodyPost_ret (v := .tuple #[.slice (some ⟨wr.heap.size, 0, none⟩) 0 0, .bool false]) (by simp [results, Try.results51, go_sem]) rfl ?_
                            exact unhide HEM
                        · obtain rfl : m = tz + 1 - fz := by omega
                          have e9 : fz + (tz + 1 - fz) = tz + 1 := by omega
                          rw [e9]
                          have hd3 : decide (((tz + 1 : Nat) : Int) ≤ (tz : Int)) = false := decide_eq_false (by omega)
                          have HC9 := hide (unhide NX4 row (unhide hR))
                          clear e9
                          go_wp2
                          go_roundw
                          case rel => exact ⟨j + 1, Y.set cj row, by omega, by go_num, hf, hs, HC9⟩
                          case measure => simp [intOf]; omega
                    · obtain rfl : j = cn := by omega
                      have hd2 : decide ((j : Int) < (j : Int)) = false := decide_eq_false (by omega)
                      have HA9 : Hid (leftAll true n (S.take (i + 1)) (nothing n) = some Y) := unhide NXT Y (by have h9 := unhide hY; rw [← unhide HCN, List.take_length] at h9; exact h9)
                      go_wp2
                      go_roundw
                      case rel => exact ⟨i + 1, Y, by omega, by go_num, hf, HA9⟩
                      case measure => simp [intOf]; omega
            · obtain rfl : i = S.length := by omega
              have hd2 : decide ((S.length : Int) < (S.length : Int)) = false := decide_eq_false (by omega)
              rw [List.take_length] at hX
              have eX : leftO true n S = some X := by rw [unhide LE]; exact unhide hX
              have ebt : b = true ∧ L = X := ⟨by rw [← unhide HB, eX]; rfl, by rw [← unhide HL, leftG, eX]; rfl⟩
              obtain ⟨rfl, rfl⟩ := ebt
              go_wp2
              refine bodyPost_ret (v := .tuple #[.slice uo n uc, .bool true]) (by simp [results, Try.results51, go_sem]) rfl ?_
              exact ⟨_, F, rfl, (unhide hf).own, (unhide hf).nd, fun g hg => by have := (unhide hf).lo g hg; omega, (unhide hf).grown⟩
    · have hgt : decide ((S.length : Int) > 40) = true := decide_eq_true (by omega)
      have hlt : (40 : Int) < (S.length : Int) := by omega
      obtain ⟨rfl, rfl⟩ := unhide NIL (by unfold leftO; rw [decide_eq_false h40]; rfl)
      clear h40
      go_wp2
      refine bodyPost_ret (v := .tuple #[.slice (some ⟨w.heap.size + 1, 0, none⟩) 0 0, .bool false]) (by simp [results, Try.results51, go_sem]) rfl ?_
      exact ⟨_, _, rfl, (unhide HL3).own, (unhide HL3).nd, fun g hg => by have := (unhide HL3).lo g hg; omega, (unhide HL3).grown⟩

end Go.Proofs.Ytnjcmlmgjoaeeaa

namespace Go.Proofs.Ytnjcmlmgjoaeeaa
open Go.RowKit

def levB (lo hi : Int) (zs : List Int) : Bool := decide (zs.length = 64) && zs.all (fun n => decide (lo ≤ n ∧ n ≤ hi))

theorem lev_all {lo hi : Int} {zs : List Int} (hz : zs.length = 64) (h : ∀ j, j < 64 → lo ≤ zs.getD j 0 ∧ zs.getD j 0 ≤ hi) : levB lo hi zs = true := by
  simp only [levB, hz, decide_true, Bool.true_and, List.all_eq_true, decide_eq_true_eq]
  intro n hn
  obtain ⟨i, hi', rfl⟩ := List.getElem_of_mem hn
  have h2 : zs.getD i 0 = zs[i] := by simp [hi']
  rw [← h2]
  exact h i (by omega)
theorem lev_at {lo hi : Int} {zs : List Int} (h : levB lo hi zs = true) : zs.length = 64 ∧ ∀ j, j < 64 → lo ≤ zs.getD j 0 ∧ zs.getD j 0 ≤ hi := by
  simp only [levB, Bool.and_eq_true, decide_eq_true_eq, List.all_eq_true] at h
  refine ⟨h.1, fun j hj => ?_⟩
  have hj' : j < zs.length := by omega
  have h2 : zs.getD j 0 = zs[j] := by simp [hj']
  rw [h2]
  exact h.2 _ (List.getElem_mem hj')

end Go.Proofs.Ytnjcmlmgjoaeeaa

namespace Go.Proofs.Ytnjcmlmgjoaeeaa

/-- How many blocks a component's plane has beside and below one another, and how many of them are needed. -/
def bwG (wd : Int) (n : Nat) (C : Nat → Nat → Int) (c : Nat) : Nat := (upI wd (8 * mostA 1 C 1 n) * C c 1).toNat
def bhG (ht : Int) (n : Nat) (C : Nat → Nat → Int) (c : Nat) : Nat := (upI ht (8 * mostA 1 C 2 n) * C c 2).toNat
def nwG (wd : Int) (n : Nat) (C : Nat → Nat → Int) (c : Nat) : Nat := (upI (upI (wd * C c 1) (mostA 1 C 1 n)) 8).toNat
def nhG (ht : Int) (n : Nat) (C : Nat → Nat → Int) (c : Nat) : Nat := (upI (upI (ht * C c 2) (mostA 1 C 2 n)) 8).toNat
theorem up_le32 {n d : Int} (hn : 1 ≤ n ∧ n ≤ 256) (hd : 1 ≤ d ∧ d ≤ 4) : 1 ≤ upI n (8 * d) ∧ upI n (8 * d) ≤ 32 := by
  unfold upI
  rw [Int.tdiv_eq_ediv_of_nonneg (by omega)]
  have : d = 1 ∨ d = 2 ∨ d = 3 ∨ d = 4 := by omega
  rcases this with rfl | rfl | rfl | rfl <;> omega
theorem mul_in {a b : Int} (ha : 1 ≤ a ∧ a ≤ 32) (hb : 1 ≤ b ∧ b ≤ 4) : 1 ≤ a * b ∧ a * b ≤ 128 := by
  obtain ⟨b0, b1⟩ := hb
  have : b = 1 ∨ b = 2 ∨ b = 3 ∨ b = 4 := by omega
  rcases this with rfl | rfl | rfl | rfl <;> omega
structure Dims (wd ht : Int) (n : Nat) (C : Nat → Nat → Int) (c : Nat) : Prop where
  bw : upI wd (8 * mostA 1 C 1 n) * C c 1 = (bwG wd n C c : Int)
  bh : upI ht (8 * mostA 1 C 2 n) * C c 2 = (bhG ht n C c : Int)
  bw1 : 1 ≤ bwG wd n C c ∧ bwG wd n C c ≤ 128
  bh1 : 1 ≤ bhG ht n C c ∧ bhG ht n C c ≤ 128
  sw : 1 ≤ upI (wd * C c 1) (mostA 1 C 1 n) ∧ upI (wd * C c 1) (mostA 1 C 1 n) ≤ 1024
  sh : 1 ≤ upI (ht * C c 2) (mostA 1 C 2 n) ∧ upI (ht * C c 2) (mostA 1 C 2 n) ≤ 1024
  nw : upI (upI (wd * C c 1) (mostA 1 C 1 n)) 8 = (nwG wd n C c : Int)
  nh : upI (upI (ht * C c 2) (mostA 1 C 2 n)) 8 = (nhG ht n C c : Int)
  nw1 : nwG wd n C c ≤ 1024
  nh1 : nhG ht n C c ≤ 1024
theorem side_mul {a b : Int} (ha : 1 ≤ a ∧ a ≤ 256) (hb : 1 ≤ b ∧ b ≤ 4) : 1 ≤ a * b ∧ a * b ≤ 1024 := by
  obtain ⟨b0, b1⟩ := hb
  have : b = 1 ∨ b = 2 ∨ b = 3 ∨ b = 4 := by omega
  rcases this with rfl | rfl | rfl | rfl <;> omega
theorem dims_of {wd ht : Int} {n : Nat} {C : Nat → Nat → Int} (hg : Geo wd ht n C (mostA 1 C 1 n) (mostA 1 C 2 n)) (c : Nat) (hc : c < n) : Dims wd ht n C c := by
  have h1 := mul_in (up_le32 hg.wd hg.hb) (hg.ch c hc)
  have h2 := mul_in (up_le32 hg.ht hg.vb) (hg.cv c hc)
  have h3 := side_mul hg.wd (hg.ch c hc)
  have h4 := side_mul hg.ht (hg.cv c hc)
  have h5 := upI_pos h3.1 hg.hb.1
  have h6 := upI_pos h4.1 hg.vb.1
  have h7 := upI_pos h5.1 (show (1 : Int) ≤ 8 by omega)
  have h8 := upI_pos h6.1 (show (1 : Int) ≤ 8 by omega)
  refine ⟨?_, ?_, ?_, ?_, ⟨h5.1, by omega⟩, ⟨h6.1, by omega⟩, ?_, ?_, ?_, ?_⟩
  · unfold bwG; omega
  · unfold bhG; omega
  · unfold bwG; omega
  · unfold bhG; omega
  · unfold nwG; omega
  · unfold nhG; omega
  · unfold nwG; omega
  · unfold nhG; omega

/-- Blocks of noughts, and what is so of coefficients that are ok. -/
def noughts : List Int := List.replicate 64 0
def emptyG (n : Nat) (bn : Nat → Nat) : List (List (List Int)) := (List.range n).map fun c => List.replicate (bn c) noughts
def emptyF (b : Bool) (wd ht : Int) (n : Nat) (C : Nat → Nat → Int) : List (List (List Int)) := if b then emptyG n (fun c => bwG wd n C c * bhG ht n C c) else []
def zeroB (xs : List Int) : Bool := xs.all (fun x => x == 0)
def hidB (bw nw nh k : Nat) : Bool := decide (nh ≤ k / bw) || decide (nw ≤ k % bw)
def blockB (hid : Bool) (xs : List Int) : Bool := levB (-16383) 16383 xs && (!hid || zeroB xs)
def planeB (bw bh nw nh : Nat) (P : List (List Int)) : Bool := decide (P.length = bw * bh) && (List.range P.length).all (fun k => blockB (hidB bw nw nh k) (P.getD k []))
def coefsOkB (wd ht : Int) (n : Nat) (C : Nat → Nat → Int) (X : List (List (List Int))) : Bool := decide (X.length = n) && (List.range X.length).all (fun c => planeB (bwG wd n C c) (bhG ht n C c) (nwG wd n C c) (nhG ht n C c) (X.getD c []))
def coefsOkF (b : Bool) (wd ht : Int) (n : Nat) (C : Nat → Nat → Int) (X : List (List (List Int))) : Bool := b && coefsOkB wd ht n C X
/-- Where a place lies in its plane, if it is one. -/
def placeO (wd ht : Int) (n : Nat) (C : Nat → Nat → Int) (co ro cl : Int) : Option Nat :=
  if 0 ≤ co ∧ co ≤ (n : Int) - 1 then (if (0 ≤ ro ∧ ro ≤ (bhG ht n C co.toNat : Int) - 1) ∧ 0 ≤ cl ∧ cl ≤ (bwG wd n C co.toNat : Int) - 1 then some (ro.toNat * bwG wd n C co.toNat + cl.toNat) else none) else none
def hiddenI (wd ht : Int) (n : Nat) (C : Nat → Nat → Int) (c : Nat) (ro cl : Int) : Bool := decide ((nhG ht n C c : Int) ≤ ro) || decide ((nwG wd n C c : Int) ≤ cl)
def blockAtF (b : Bool) (wd ht : Int) (n : Nat) (C : Nat → Nat → Int) (X : List (List (List Int))) (co ro cl : Int) : List Int :=
  if coefsOkF b wd ht n C X then (match placeO wd ht n C co ro cl with | some k => (X.getD co.toNat []).getD k [] | none => []) else []
def withBlockF (b : Bool) (wd ht : Int) (n : Nat) (C : Nat → Nat → Int) (X : List (List (List Int))) (co ro cl : Int) (bl : List Int) : List (List (List Int)) :=
  if coefsOkF b wd ht n C X && levB (-16383) 16383 bl then (match placeO wd ht n C co ro cl with | some k => if hiddenI wd ht n C co.toNat ro cl then [] else X.set co.toNat ((X.getD co.toNat []).set k bl) | none => []) else []

end Go.Proofs.Ytnjcmlmgjoaeeaa

namespace Go.Proofs.Ytnjcmlmgjoaeeaa
open Go.RowKit

theorem zero_take {xs : List Int} {k : Nat} (hk : k < xs.length) : zeroB (xs.take (k + 1)) = (zeroB (xs.take k) && (xs.getD k 0 == 0)) := by
  unfold zeroB
  rw [List.take_succ_eq_append_getElem hk, List.all_append]
  simp [hk]
theorem zero_no {xs : List Int} {k : Nat} (hk : k < xs.length) (h : (xs.getD k 0 == 0) = false) : zeroB xs = false := by
  cases hx : zeroB xs with
  | false => rfl
  | true =>
    have e : xs.getD k 0 = xs[k] := by simp [hk]
    rw [e, List.all_eq_true.1 hx _ (List.getElem_mem hk)] at h
    exact h

set_option maxHeartbeats 800000 in
theorem specZero (ao : Option Addr) (n cap : Nat) (zs : List Int) (w : World) (hr : Rd .i64 w ao n zs) (hn : n ≤ 1048576) (b : Bool) (hb : Hid (zeroB zs = b)) :
    Calls Try.prog 64 #[.slice ao n cap] w fun e w' => e = .returned (.bool b) ∧ w' = w := by
  have HL := hide hr.1
  have HR := hide hr
  clear hr
  go_enter Try.func64, Try.ntmps64
  go_wp2
  go_loopw [3] (fun iv wr => ∃ i : Nat, i ≤ n ∧ iv = .int .i64 i ∧ Hid (zeroB (zs.take i) = true) ∧ wr = w) (fun iv _ => n - (intOf iv).toNat)
  case atStart => exact ⟨0, Nat.zero_le _, rfl, rfl, rfl⟩
  case round =>
    obtain ⟨i, hi, rfl, ha, rfl⟩ := hrel
    by_cases hlt : i < n
    · obtain ⟨fb, fo, rfl, c0⟩ := (unhide HR).2 i hlt
      have his : i < zs.length := by rw [unhide HL]; exact hlt
      have hal := zero_take his
      have hno := zero_no his
      have hiI : (i : Int) < (n : Int) := by omega
      generalize zs.getD i 0 = x at *
      cases hx : (x == 0) with
      | false =>
        have e : b = false := by rw [← unhide hb]; exact hno hx
        subst e
        have hx2 : (x != 0) = true := by unfold bne; rw [hx]; rfl
        clear hal hno ha hx
        go_wp2
        go_ret
        exact ⟨rfl, rfl⟩
      | true =>
        have HA : Hid (zeroB (zs.take (i + 1)) = true) := by unfold Hid; rw [hal, unhide ha, hx]; rfl
        have hx2 : (x != 0) = false := by unfold bne; rw [hx]; rfl
        clear hal hno ha hx
        go_wp2
        go_roundw
        case rel => exact ⟨i + 1, by omega, by go_num, HA, trivial⟩
        case measure => simp [intOf]; omega
    · obtain rfl : i = n := by omega
      have e : b = true := by
        have h := unhide ha
        rw [← unhide HL, List.take_length] at h
        rw [← unhide hb]; exact h
      subst e
      clear ha
      go_wp2
      go_ret
      exact ⟨rfl, rfl⟩

end Go.Proofs.Ytnjcmlmgjoaeeaa

namespace Go.Proofs.Ytnjcmlmgjoaeeaa
open Go.RowKit

set_option maxRecDepth 20000 in
set_option maxHeartbeats 1600000 in
theorem specLeftOf (p wd ht rs : Int) (fo : Option Addr) (n fc : Nat) (C : Nat → Nat → Int) (w : World) (hr : RdC w fo n C) (hn : n ≤ 4194304) (v : Value) (S : List Scn) (hS : RdSs w v S) (hcs : ∀ a ∈ S, a.cs.length ≤ 4194304) (fb : Bool) (HFB : Hid (frameB p wd ht rs n C = fb)) (L : List (List Int)) (HL : Hid (leftG fb n S = L)) :
    Calls Try.prog 17 #[.agg #[.int .i64 p, .int .i64 wd, .int .i64 ht, .int .i64 rs, .slice fo n fc], v] w fun e w' => ∃ u F, e = .returned u ∧ Ow2 w' u L F ∧ F.Nodup ∧ (∀ g ∈ F, w.heap.size ≤ g) ∧ w.grownBy w' none := by
  have G0 : w.grownBy (w.alloc (.cells #[.int .i64 p, .int .i64 wd, .int .i64 ht, .int .i64 rs, .slice fo n fc] 26)) none := World.grownBy_alloc _ _ _
  obtain ⟨b, HB⟩ : ∃ b, Hid ((leftO fb n S).isSome = b) := ⟨_, rfl⟩
  have HC := hide (specLeft p wd ht rs fo n fc C _ (hr.grown G0) hn v S (RdSs.st _ _ _ _ hS G0) hcs fb HFB L b HL HB)
  have HG := hide G0
  clear hr hS hcs G0
  go_enter Try.func17, Try.ntmps17
  go_wp2_with fail
  refine (unhide HC).mono ?_
  rintro e w1 ⟨u, F, rfl, o1, n1, l1, g1⟩
  obtain ⟨uo, uc, rfl⟩ := o1.form
  have HF : Hid (Ow2 w1 (.slice uo L.length uc) L F ∧ F.Nodup ∧ (∀ g ∈ F, w.heap.size ≤ g) ∧ w.grownBy w1 none) := ⟨o1, n1, fun g hg => by have := l1 g hg; simp at this; omega, grown_trans (unhide HG) g1⟩
  clear o1 n1 l1 g1 HC
  go_wp2
  go_ret
  exact ⟨_, F, rfl, unhide HF⟩

theorem left_short {fb : Bool} {n : Nat} {S : List Scn} {C : Nat → Nat → Int} {p wd ht rs : Int} (HFB : frameB p wd ht rs n C = fb) : (leftG fb n S).length ≤ 4 ∧ ∀ r ∈ leftG fb n S, r.length ≤ 64 := by
  unfold leftG
  cases h : leftO fb n S with
  | none => exact ⟨by simp, fun r hr => by simp at hr⟩
  | some X =>
    have h64 := leftO_rows h
    have hfb : fb = true := by
      unfold leftO at h
      cases fb with
      | true => rfl
      | false => simp at h
    subst hfb
    refine ⟨by show X.length ≤ 4; rw [h64.1]; exact (geo_of HFB).n4, fun r hr => ?_⟩
    obtain ⟨c, hc, rfl⟩ := List.mem_iff_getElem.1 (show r ∈ X from hr)
    have e : X.getD c [] = X[c] := by simp [hc]
    have := h64.2 c (by rw [← h64.1]; exact hc)
    rw [e] at this
    omega

set_option maxRecDepth 20000 in
set_option maxHeartbeats 1600000 in
theorem specScriptOk (p wd ht rs : Int) (fo : Option Addr) (n fc : Nat) (C : Nat → Nat → Int) (w : World) (hr : RdC w fo n C) (hn : n ≤ 4194304) (v : Value) (S : List Scn) (hS : RdSs w v S) (hcs : ∀ a ∈ S, a.cs.length ≤ 4194304) (fb : Bool) (HFB : Hid (frameB p wd ht rs n C = fb)) (t : Bool) (HT : Hid (scriptB fb n S = t)) :
    Calls Try.prog 34 #[.agg #[.int .i64 p, .int .i64 wd, .int .i64 ht, .int .i64 rs, .slice fo n fc], v] w fun e w' => e = .returned (.bool t) ∧ w.grownBy w' none := by
  have G0 : w.grownBy (w.alloc (.cells #[.int .i64 p, .int .i64 wd, .int .i64 ht, .int .i64 rs, .slice fo n fc] 26)) none := World.grownBy_alloc _ _ _
  obtain ⟨b, HB⟩ : ∃ b, Hid ((leftO fb n S).isSome = b) := ⟨_, rfl⟩
  obtain ⟨L, HL⟩ : ∃ L, Hid (leftG fb n S = L) := ⟨_, rfl⟩
  have hsh := left_short (S := S) (unhide HFB)
  rw [unhide HL] at hsh
  have HC := hide (specLeft p wd ht rs fo n fc C _ (hr.grown G0) hn v S (RdSs.st _ _ _ _ hS G0) hcs fb HFB L b HL HB)
  have HG := hide G0
  have HTT : Hid ((b && (L.all zeroB)) = t) := by
    unfold Hid
    rw [← unhide HT, ← unhide HB, ← unhide HL]
    unfold scriptB leftG
    cases leftO fb n S with
    | none => rfl
    | some X => rfl
  have HSH := hide hsh
  clear hr hS hcs G0 hsh
  go_enter Try.func34, Try.ntmps34
  go_wp2_with fail
  refine (unhide HC).mono ?_
  rintro e w1 ⟨u, F, rfl, o1, n1, l1, g1⟩
  obtain ⟨uo, uc, rfl⟩ := o1.form
  have HR1 := hide (OwR.rd (Q := RdI .i64) (fun _ _ _ _ h => h.rd) o1)
  have HG1 := hide (grown_trans (unhide HG) g1)
  obtain ⟨ln, HLN⟩ : ∃ ln, Hid (L.length = ln) := ⟨_, rfl⟩
  rw [unhide HLN] at HR1 ⊢
  clear o1 n1 l1 g1 HC
  go_wp2
  go_loopw [6, 7] (fun bv iv wr => ∃ (i : Nat) (q : Bool), i ≤ ln ∧ iv = .int .i64 i ∧ bv = .bool q ∧ Hid ((b && (L.take i).all zeroB) = q) ∧ wr = w1) (fun _ iv _ => ln - (intOf iv).toNat)
  case atStart => exact ⟨0, b, Nat.zero_le _, rfl, rfl, by unfold Hid; simp, rfl⟩
  case round =>
    obtain ⟨i, q, hi, rfl, rfl, hq, rfl⟩ := hrel
    by_cases hlt : i < ln
    · have hiI : (i : Int) < (ln : Int) := by omega
      have i0 : (0 : Int) ≤ (i : Int) := by omega
      have hl4 := (unhide HSH).1
      have hln : ln ≤ 4 := by rw [← unhide HLN]; exact hl4
      have hil : i < L.length := by rw [unhide HLN]; exact hlt
      obtain ⟨ao, cap, e1, hel⟩ := unhide HR1
      obtain ⟨gb, goff, ui, rfl, cu, ⟨ri, rc, rfl, hri⟩⟩ := hel i hil
      obtain ⟨rfl, rfl⟩ : uo = some ⟨gb, goff, none⟩ ∧ uc = cap := by
        have e2 := e1
        simp only [Value.slice.injEq] at e2
        exact ⟨e2.1, e2.2.2⟩
      obtain ⟨z, HZ⟩ : ∃ z, Hid (zeroB (L.getD i []) = z) := ⟨_, rfl⟩
      have eL : L[i] = L.getD i [] := by simp [hil]
      rw [eL] at hri cu
      have hrl := (unhide HSH).2 (L.getD i []) (by rw [← eL]; exact List.getElem_mem hil)
      have HQ1 : Hid ((b && (L.take (i + 1)).all zeroB) = (q && z)) := by
        unfold Hid
        rw [List.take_succ_eq_append_getElem hil, List.all_append, ← Bool.and_assoc, unhide hq, eL, List.all_cons, List.all_nil, Bool.and_true, unhide HZ]
      obtain ⟨rn, HRN⟩ : ∃ rn, Hid ((L.getD i []).length = rn) := ⟨_, rfl⟩
      rw [unhide HRN] at hri cu hrl
      have HRI := hide hri
      clear e1 hel hri eL hq hil hl4
      cases q with
      | false =>
        go_wp2
        go_roundw
        case rel => exact ⟨i + 1, false, by omega, by go_num, rfl, HQ1, trivial⟩
        case measure => simp [intOf]; omega
      | true =>
        go_wp2_with fail
        refine (specZero ri rn rc _ wr (unhide HRI) (by omega) z HZ).mono ?_
        rintro e w2 ⟨rfl, rfl⟩
        go_wp2
        go_roundw
        case rel => exact ⟨i + 1, z, by omega, by go_num, rfl, (by have := unhide HQ1; rw [Bool.true_and] at this; exact this), trivial⟩
        case measure => simp [intOf]; omega
    · obtain rfl : i = ln := by omega
      have eq : q = t := by
        rw [← unhide HTT, ← unhide hq, ← unhide HLN, List.take_length]
      subst eq
      go_wp2
      go_ret
      exact ⟨rfl, unhide HG1⟩

end Go.Proofs.Ytnjcmlmgjoaeeaa

namespace Go.Proofs.Ytnjcmlmgjoaeeaa
open Go.RowKit

set_option maxHeartbeats 400000 in
theorem sameIntsQ (ao bo : Option Addr) (n cap cap' : Nat) (zs : List Int) (w : World) (hx : Rd .i64 w ao n zs) (hy : Rd .i64 w bo n zs) (hn : n ≤ 4194304) :
    Calls Try.prog 50 #[.slice ao n cap, .slice bo n cap'] w fun e w' => e = .returned (.bool true) ∧ ∃ q, w' = w.drewN q := by
  obtain ⟨hl, hc⟩ := hx
  obtain ⟨_, hd⟩ := hy
  have hne : ((n : Int) != n) = false := by simp
  go_enter Try.func50, Try.ntmps50
  go_wp2
  go_loopw [5] (fun i wr => ∃ k q : Nat, k ≤ n ∧ i = .int .i64 k ∧ wr = w.drewN q) (fun i _ => n - (intOf i).toNat)
  case atStart => exact ⟨0, 0, Nat.zero_le _, rfl, rfl⟩
  case round =>
    obtain ⟨k, q, hk, rfl, rfl⟩ := hrel
    by_cases hlt : k < n
    · obtain ⟨b, off, rfl, hcb⟩ := hc k hlt
      obtain ⟨b', off', rfl, hcd⟩ := hd k hlt
      generalize zs.getD k 0 = x at hcb hcd
      have hik : (k : Int) < (n : Int) := by omega
      clear hc hd
      go_wp2
      go_quiet (fail)
      go_wp2
      go_roundw
      case rel => exact ⟨k + 1, _, by omega, by go_num, rfl⟩
      case measure => simp [intOf]; omega
    · go_wp2
      go_ret
      exact ⟨rfl, _, rfl⟩
theorem sameInts (ao bo : Option Addr) (n cap cap' : Nat) (zs : List Int) (w : World) (hx : Rd .i64 w ao n zs) (hy : Rd .i64 w bo n zs) (hn : n ≤ 4194304) :
    Calls Try.prog 50 #[.slice ao n cap, .slice bo n cap'] w fun e w' => e = .returned (.bool true) ∧ w.grownBy w' none := by
  refine (sameIntsQ ao bo n cap cap' zs w hx hy hn).mono ?_
  rintro e w' ⟨rfl, q, rfl⟩
  exact ⟨rfl, grown_drewN (World.grownBy.refl _ _) _⟩

end Go.Proofs.Ytnjcmlmgjoaeeaa
