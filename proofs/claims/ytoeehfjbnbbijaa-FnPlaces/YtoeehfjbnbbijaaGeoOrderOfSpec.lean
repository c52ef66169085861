/-
  The order of blocks as one row, in the specification.
-/
import Derived.Test.YtoeehfjbnbbijaaGeoUnitsSpec
namespace Go.Proofs.Ytoeehfjbnbbijaa
open Go.RowKit

theorem iTo_pos {n : Nat} {C : Nat → Nat → Int} {cs : List Int} {m : Nat} (hc : compsTo n cs m = true) (hh : ∀ i, i < n → 1 ≤ C i 1 ∧ C i 1 ≤ 4) (hv : ∀ i, i < n → 1 ≤ C i 2 ∧ C i 2 ≤ 4) (r k : Nat) : ∀ i, i ≤ m → i ≤ (iTo C cs r k i).length
  | 0, _ => by simp
  | i + 1, hi => by
    have ih := iTo_pos hc hh hv r k i (by omega)
    obtain ⟨⟨h1, h2⟩, _⟩ := compsTo_at hc i (by omega)
    have a1 := hh (cs.getD i 0).toNat (by omega)
    have a2 := hv (cs.getD i 0).toNat (by omega)
    rw [iTo, List.length_append, yTo_len]
    have : 1 * 1 ≤ (C (cs.getD i 0).toNat 2).toNat * (C (cs.getD i 0).toNat 1).toNat := Nat.mul_le_mul (by omega) (by omega)
    omega
theorem k1To_mem (c : Int) (r : Nat) : ∀ k, ∀ L ∈ k1To c r k, L.length = 1
  | 0, L, h => by simp [k1To] at h
  | k + 1, L, h => by
    rcases List.mem_append.1 h with h | h
    · exact k1To_mem c r k L h
    · rw [List.mem_singleton] at h; subst h; rfl
theorem r1To_mem (c : Int) (W : Nat) : ∀ r, ∀ L ∈ r1To c W r, L.length = 1
  | 0, L, h => by simp [r1To] at h
  | r + 1, L, h => by
    rcases List.mem_append.1 h with h | h
    · exact r1To_mem c W r L h
    · exact k1To_mem c r W L h
theorem kTo_mem (C : Nat → Nat → Int) (cs : List Int) (r : Nat) : ∀ k, ∀ L ∈ kTo C cs r k, ∃ r' k', L = iTo C cs r' k' cs.length
  | 0, L, h => by simp [kTo] at h
  | k + 1, L, h => by
    rcases List.mem_append.1 h with h | h
    · exact kTo_mem C cs r k L h
    · rw [List.mem_singleton] at h; exact ⟨r, k, h⟩
theorem rTo_mem (C : Nat → Nat → Int) (cs : List Int) (W : Nat) : ∀ r, ∀ L ∈ rTo C cs W r, ∃ r' k', L = iTo C cs r' k' cs.length
  | 0, L, h => by simp [rTo] at h
  | r + 1, L, h => by
    rcases List.mem_append.1 h with h | h
    · exact rTo_mem C cs W r L h
    · exact kTo_mem C cs r W L h
/-- A unit has a place at least, and 64 at most. -/
theorem unitsG_unit {wd ht : Int} {n : Nat} {C : Nat → Nat → Int} {cs : List Int} (hg : Geo wd ht n C (mostA 1 C 1 n) (mostA 1 C 2 n)) (hc : okComps n cs = true) : ∀ L ∈ unitsG wd ht n C cs, 1 ≤ L.length ∧ L.length ≤ 64 := by
  intro L hL
  simp only [okComps, Bool.and_eq_true, decide_eq_true_eq] at hc
  unfold unitsG at hL
  split at hL
  · have := r1To_mem _ _ _ L hL; omega
  · obtain ⟨r, k, rfl⟩ := rTo_mem _ _ _ _ L hL
    have h1 := iTo_len hc.1 hg.ch hg.cv r k cs.length (Nat.le_refl _)
    have h2 := iTo_pos hc.1 hg.ch hg.cv r k cs.length (Nat.le_refl _)
    have h3 := compsTo_len hc.1
    have h4 := hg.n4
    omega
theorem flat_len {Ls : List (List Pl)} (h : ∀ L ∈ Ls, 1 ≤ L.length ∧ L.length ≤ 64) : Ls.flatten.length ≤ 64 * Ls.length := by
  induction Ls with
  | nil => simp
  | cons L Ls ih =>
    have h1 := h L (by simp)
    have h2 := ih (fun M hM => h M (by simp [hM]))
    simp only [List.flatten_cons, List.length_append, List.length_cons]
    omega
theorem take_flat {Ls : List (List Pl)} {i : Nat} (hi : i < Ls.length) : (Ls.take (i + 1)).flatten = (Ls.take i).flatten ++ Ls[i] := by
  rw [List.take_succ_eq_append_getElem hi, List.flatten_append]; simp

theorem OwnL.aside {w w' : World} {base lim : Nat} {v : Value} {Ls : List (List Pl)} (h : OwnL w base lim v Ls) {row : Option Nat} (hg : w.grownBy w' row) (hr : ∀ g, row = some g → lim ≤ g ∨ g < base) : OwnL w' base lim v Ls := by
  obtain ⟨vs, h1, h2, h3⟩ := h
  refine ⟨vs, own_beneath h1 hg (fun g g' e e' => by have := h2 g e; have := (h1.lt g e).1; have := hr g' e'; omega), h2, fun i hi => ?_⟩
  obtain ⟨u, e, h4, h5⟩ := h3 i hi
  exact ⟨u, e, own_beneath h4 hg (fun g g' e e' => by have := (h5 g e).1; have := (h4.lt g e).1; have := hr g' e'; omega), h5⟩

set_option maxRecDepth 20000 in
set_option maxHeartbeats 3200000 in
theorem specOrderOf (p wd ht rs : Int) (ao : Option Addr) (n cap : Nat) (C : Nat → Nat → Int) (w : World) (hr : RdC w ao n C) (hn : n ≤ 4194304) (b : Bool) (HFB : Hid (frameB p wd ht rs n C = b)) (co : Option Addr) (m ccap : Nat) (cs : List Int) (hcs : Rd .i64 w co m cs) (hm : m ≤ 4194304) :
    Calls Try.prog 30 #[.agg #[.int .i64 p, .int .i64 wd, .int .i64 ht, .int .i64 rs, .slice ao n cap], .slice co m ccap] w fun e w' => ∃ x, e = .returned x ∧ w'.ownsRow w.heap.size 57 3 x (orderG b wd ht n C cs).flatten.length (plCells (orderG b wd ht n C cs).flatten) ∧ w.grownBy w' none := by
  obtain ⟨wx, hW0⟩ : ∃ wx, w.alloc (.cells #[.int .i64 p, .int .i64 wd, .int .i64 ht, .int .i64 rs, .slice ao n cap] 40) = wx := ⟨_, rfl⟩
  have G0 : w.grownBy wx none := by rw [← hW0]; exact grown_alloc (World.grownBy.refl _ _) _
  have B0 : Hid (wx.heap[w.heap.size]? = some (.cells #[.int .i64 p, .int .i64 wd, .int .i64 ht, .int .i64 rs, .slice ao n cap] 40 (0, 0))) := by rw [← hW0]; exact heap_alloc_new w _
  have hwz : wx.heap.size = w.heap.size + 1 := by rw [← hW0]; simp
  obtain ⟨wy, hW1⟩ : ∃ wy, wx.alloc (.cells #[] 57) = wy := ⟨_, rfl⟩
  have G1 : wx.grownBy wy none := by rw [← hW1]; exact grown_alloc (World.grownBy.refl _ _) _
  have hyz : wy.heap.size = w.heap.size + 2 := by rw [← hW1]; simp; omega
  have O1 : Hid (wy.ownsRow wx.heap.size 57 3 (.slice (some ⟨w.heap.size + 1, 0, none⟩) 0 0) 0 []) := by
    have := World.ownsRow_lit (e := 57) (size := 3) wx #[] 0 (Nat.le_refl _) (by unfold maxLen; omega) rfl
    rw [hW1, hwz] at this
    unfold Hid
    rw [hwz]; exact this
  have HR := hide (hr.grown (grown_trans G0 G1))
  have HC := hide (hcs.grown (grown_trans G0 G1))
  have HG0 := hide G0
  have HG1 := hide G1
  have HBY := hide ((G1.block w.heap.size (by omega) (by simp)).trans (unhide B0))
  have HWY : Hid ((w.alloc (.cells #[.int .i64 p, .int .i64 wd, .int .i64 ht, .int .i64 rs, .slice ao n cap] 40)).alloc (.cells #[] 57) = wy) := by rw [hW0]; exact hW1
  have kf := frameCells' (unhide HBY)
  have HHZ := hide hwz
  have hyl : w.heap.size < wy.heap.size := by omega
  have hxl : wx.heap.size ≤ wy.heap.size := by omega
  have hwl : w.heap.size ≤ wx.heap.size := by omega
  have hyo : w.heap.size + 1 < wy.heap.size := by omega
  obtain ⟨OL, HOL⟩ : ∃ OL, Hid (orderG b wd ht n C cs = OL) := ⟨_, rfl⟩
  rw [unhide HOL]
  clear hr hcs hW0 hW1 G0 G1 B0 hwz hyz
  go_enter Try.func30, Try.ntmps30
  go_wp2_with fail
  rw [unhide HWY]
  refine (specFrameOk p wd ht rs ao n cap C wy (unhide HR) b HFB).mono ?_
  clear HWY
  rintro e w1 ⟨rfl, g1⟩
  have kf1 := frameCells' ((g1.block w.heap.size hyl (by simp)).trans (unhide HBY))
  clear kf
  cases b
  · have HL : Hid (OL = []) := by unfold Hid; rw [← unhide HOL]; simp [orderG]
    have HF := hide (And.intro (own_base (own_grown (unhide O1) g1) hwl) (grown_trans (unhide HG0) (grown_trans (unhide HG1) g1)))
    clear O1 g1
    go_wp2
    go_ret
    exact ⟨_, rfl, by rw [unhide HL]; exact (unhide HF).1, (unhide HF).2⟩
  · go_wp2_with fail
    refine (specComps p wd ht rs ao n cap hn co m ccap cs w1 ((unhide HC).grown g1) hm).mono ?_
    rintro e w2 ⟨rfl, g2⟩
    have X2 := grown_trans g1 g2
    have kf2 := frameCells' ((X2.block w.heap.size hyl (by simp)).trans (unhide HBY))
    clear kf1 g1 g2
    obtain ⟨t, HT⟩ : ∃ t, Hid (okComps n cs = t) := ⟨_, rfl⟩
    rw [unhide HT]
    cases t
    · have HL : Hid (OL = []) := by unfold Hid; rw [← unhide HOL, orderG, unhide HT]; simp
      have HF := hide (And.intro (own_base (own_grown (unhide O1) X2) hwl) (grown_trans (unhide HG0) (grown_trans (unhide HG1) X2)))
      clear O1 X2
      go_wp2
      go_ret
      exact ⟨_, rfl, by rw [unhide HL]; exact (unhide HF).1, (unhide HF).2⟩
    · have HL : Hid (OL = unitsG wd ht n C cs) := by unfold Hid; rw [← unhide HOL, orderG, unhide HT]; simp
      have HGE := hide (geo_of (unhide HFB))
      have HUN := hide (unitsG_unit (unhide HGE) (unhide HT))
      have hNl : (unitsG wd ht n C cs).length ≤ 1048576 := by
        have := countG_bounds (unhide HGE) (unhide HT)
        rw [unitsG_len]
        exact Nat.le_trans (Nat.mul_le_mul (show _ ≤ 1024 by omega) (show _ ≤ 1024 by omega)) (by omega)
      clear HOL
      go_wp2_with fail
      refine (specOrderG p wd ht rs ao n cap C w2 ((unhide HR).grown X2) (unhide HGE) co m ccap cs ((unhide HC).grown X2) (unhide HT)).mono ?_
      generalize unitsG wd ht n C cs = Ls at *
      rintro e w3 ⟨x, rfl, ho, g3⟩
      have HO3 := hide ho
      obtain ⟨vs, ho1, _⟩ := ho
      obtain ⟨so, sc, rfl⟩ := own_form ho1
      have X3 := grown_trans X2 g3
      have HX3 := hide X3
      have HF3 := hide (own_grown (unhide O1) X3)
      have hs2 := X2.size
      have hs3 := X3.size
      obtain ⟨ip, hip, hy0, hy1, hy2⟩ := info_parts Try.info57
      clear ho1 kf2 X2 g3 X3 O1 HR HC HBY
      go_wp2
      go_loopw [5, 7] (fun o i wr => ∃ k : Nat, k ≤ Ls.length ∧ i = .int .i64 k ∧ wr.ownsRow wx.heap.size 57 3 o (Ls.take k).flatten.length (plCells (Ls.take k).flatten) ∧ (∀ g, o.ownBlock = some g → w3.heap.size ≤ g ∨ g < w2.heap.size) ∧ OwnL wr w2.heap.size w3.heap.size (.slice so Ls.length sc) Ls ∧ wx.grownBy wr none ∧ w3.heap.size ≤ wr.heap.size) (fun _ i _ => Ls.length - (intOf i).toNat)
      case atStart => exact ⟨0, Nat.zero_le _, rfl, unhide HF3, fun g e => by simp [Value.ownBlock] at e; omega, unhide HO3, grown_trans (unhide HG1) (unhide HX3), Nat.le_refl _⟩
      case round =>
        obtain ⟨k, hk, rfl, hok, hnk, hlk, hgk, hsk⟩ := hrel
        have HGK := hide hgk
        have hgks := hgk.size
        by_cases hlt : k < Ls.length
        · have HOK := hide hok
          have HNK := hide hnk
          have HLK := hide hlk
          obtain ⟨vs, l1, l2, l3⟩ := hlk
          obtain ⟨u, e1, e2, e3⟩ := l3 k hlt
          obtain ⟨uo, uc, rfl⟩ := own_form e2
          have hun := unhide HUN Ls[k] (List.getElem_mem hlt)
          obtain ⟨ug, rfl, hu0, hu1⟩ := own_at e2 (by omega)
          obtain ⟨sg, rfl, hs0', hs1'⟩ := own_at l1 (by omega)
          have hcell : wr.cell? ⟨sg, k, none⟩ = some (.slice (some ⟨ug, 0, none⟩) Ls[k].length uc) := by rw [l1.cellAt k (by omega)]; exact e1
          have HCE := hide (e2.cells (g := ug) rfl)
          have HST : Hid ((Ls.take (k + 1)).flatten = (Ls.take k).flatten ++ Ls[k]) := take_flat hlt
          have hfl : (Ls.take k).flatten.length ≤ 64 * Ls.length := by
            have := flat_len (Ls := Ls.take k) (fun L hL => unhide HUN L (List.mem_of_mem_take hL))
            simp only [List.length_take] at this
            omega
          have hone := hide (plCells_one Ls[k])
          have hpl : Hid ((plCells Ls[k]).length = Ls[k].length * 3) := plCells_len _
          have hge : w3.heap.size ≤ wr.heap.size := hsk
          clear hok hnk hgk l1 l2 l3 e1 e2 e3
          generalize Ls[k] = LK at *
          have B1 : Hid ((Ls.take k).flatten.length + LK.length ≤ maxLen) := by unfold Hid maxLen; omega
          have B2 : Hid (((Ls.take k).flatten.length + LK.length) * 24 ≤ 140737488355328) := by unfold Hid; omega
          have B3 : Hid (wx.heap.size ≤ wr.heap.size) := hgks
          generalize (Ls.take k).flatten = FK at *
          go_wp2_with (at_builtin; refine wpList_append_own_at _ rfl _ _ 49 rfl wx.heap.size 57 ip _ 3 24 Try.underlying49 hip hy0 hy1 hy2 rfl (by decide) _ _ (plCells FK) rfl (unhide HOK) ⟨ug, 0, none⟩ LK.length uc (plCells LK) rfl (unhide hpl) (unhide HCE) (unhide hone) (unhide B1) (unhide B2) (unhide B3) ?_)
          intro v8 w8 hown8 hgrow8 _ hat8
          have G8 := grown_new (unhide HGK) hgrow8 (fun g e => ((unhide HOK).lt g e).1)
          have N8 : ∀ g, v8.ownBlock = some g → w3.heap.size ≤ g ∨ g < w2.heap.size := fun g e => by
            rcases hat8 with h | h
            · rw [h] at e; exact unhide HNK g e
            · rw [h] at e; simp at e; omega
          have L8 := (unhide HLK).aside hgrow8 (unhide HNK)
          have S8 : w3.heap.size ≤ w8.heap.size := by have := hgrow8.size; omega
          have HP := hide (And.intro hown8 (And.intro N8 (And.intro L8 (And.intro G8 S8))))
          clear hown8 N8 L8 G8 hgrow8 hat8 HOK HNK HLK HGK HCE hcell
          go_wp2
          go_roundw
          case rel =>
            obtain ⟨P1, P2, P3, P4, P5⟩ := unhide HP
            exact ⟨k + 1, by omega, by go_num, by rw [unhide HST, plCells_app, List.length_append]; exact P1, P2, P3, P4, P5⟩
          case measure => simp [intOf]; omega
        · obtain rfl : k = Ls.length := by omega
          rw [List.take_length] at hok
          have HF := hide (And.intro (own_base hok hwl) (grown_trans (unhide HG0) (unhide HGK)))
          clear hok hnk hlk hgk
          go_wp2
          go_ret
          exact ⟨_, rfl, by rw [unhide HL]; exact (unhide HF).1, (unhide HF).2⟩

end Go.Proofs.Ytoeehfjbnbbijaa
