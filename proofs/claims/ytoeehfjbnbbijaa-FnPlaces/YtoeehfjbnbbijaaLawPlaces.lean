/-
  The walk of the law on the order of blocks: each place once, no other than blocks have, and each that is needed.
-/
import Derived.Test.YtoeehfjbnbbijaaCompsDraw
import Derived.Test.YtoeehfjbnbbijaaSeenRows
import Derived.Test.YtoeehfjbnbbijaaPlaceRows
import Derived.Test.YtoeehfjbnbbijaaOrderAll
import Derived.Test.YtoeehfjbnbbijaaGeoOrderOfSpec
import Derived.Test.YtoeehfjbnbbijaaGeoUnitsSpec
import Derived.Test.YtoeehfjbnbbijaaGeoImpl4
import Derived.Test.YtoeehfjbnbbijaaGeoSpec2
import Derived.Test.YtoeehfjbnbbijaaQuietLast
namespace Go.Proofs.Ytoeehfjbnbbijaa
open Go.RowKit

theorem lawBigP (ao : Option Addr) (n cap : Nat) (t : Bool) (w : World) (h : Hid (decide ((1048576 : Int) < (n : Int)) = t)) :
    Calls Try.prog 7 #[.slice ao n cap] w fun e w' => e = .returned (.bool t) ∧ w = w' := by
  go_enter Try.func7, Try.ntmps7
  go_wp2
  go_ret
  exact ⟨ret_bool (by rw [← unhide h]), rfl⟩

theorem order_short {p wd ht rs : Int} {n : Nat} {C : Nat → Nat → Int} {cs : List Int} {b : Bool} (h : frameB p wd ht rs n C = b) : (orderG b wd ht n C cs).flatten.length ≤ 134217728 := by
  cases b with
  | false => simp [orderG]
  | true =>
    cases hc : okComps n cs with
    | false => simp [orderG, hc]
    | true =>
      have hg := geo_of h
      have e : orderG true wd ht n C cs = unitsG wd ht n C cs := by simp [orderG, hc]
      rw [e]
      have h1 := flat_len (unitsG_unit hg hc)
      have h2 := countG_bounds hg hc
      rw [unitsG_len] at h1
      have h3 : (countG wd ht n C cs).2.toNat * (countG wd ht n C cs).1.toNat ≤ 1024 * 1024 := Nat.mul_le_mul (by omega) (by omega)
      omega

/-- A list of places that is not empty is that of an ok frame and ok components. -/
theorem order_yes {b : Bool} {wd ht : Int} {n : Nat} {C : Nat → Nat → Int} {cs : List Int} (h : (orderG b wd ht n C cs).flatten.length ≠ 0) : b = true ∧ okComps n cs = true ∧ orderG b wd ht n C cs = unitsG wd ht n C cs := by
  unfold orderG at h ⊢
  split at h
  · rename_i hb
    rw [Bool.and_eq_true] at hb
    exact ⟨hb.1, hb.2, by rw [hb.1, hb.2]; rfl⟩
  · simp at h
theorem blocks_is {wd ht : Int} {n : Nat} {C : Nat → Nat → Int} (hg : Geo wd ht n C (mostA 1 C 1 n) (mostA 1 C 2 n)) (c : Nat) (hc : c < n) : blocksG true wd ht n C (c : Int) = ((bw wd n C c : Int), (bh ht n C c : Int)) := by
  have h1 := (bw_is hg c hc).1
  have h2 := (bh_is hg c hc).1
  unfold blocksG
  rw [Bool.true_and, if_pos (decide_eq_true (by omega)), Int.toNat_natCast, ← h1, ← h2]
theorem size_is {wd ht : Int} {n : Nat} {C : Nat → Nat → Int} (c : Nat) (hc : c < n) : sizeG true wd ht n C (c : Int) = (upI (wd * C c 1) (mostA 1 C 1 n), upI (ht * C c 2) (mostA 1 C 2 n)) := by
  unfold sizeG
  rw [Bool.true_and, if_pos (decide_eq_true (by omega)), Int.toNat_natCast]
theorem mul_ten {a b : Nat} (ha : a ≤ 1024) (hb : b ≤ 1024) : a * b ≤ 1048576 := Nat.mul_le_mul ha hb

theorem placeCells {w : World} {g : Nat} {a b c : Value} {t : TypeId} (hb : w.heap[g]? = some (.cells #[a, b, c] t (0, 0))) : w.cell? ⟨g, 0, none⟩ = some a ∧ w.cell? ⟨g, 1, none⟩ = some b ∧ w.cell? ⟨g, 2, none⟩ = some c :=
  ⟨by rw [cell_of_row w _ 0 _ _ (0, 0) hb]; rfl, by rw [cell_of_row w _ 1 _ _ (0, 0) hb]; rfl, by rw [cell_of_row w _ 2 _ _ (0, 0) hb]; rfl⟩

/-- What the law's loops read: the frame in its box, its components, the list of components, both orders. -/
structure Pw (w : World) (fb : Nat) (p wd ht rs : Int) (bo : Option Addr) (m bc : Nat) (C : Nat → Nat → Int) (co : Option Addr) (j : Nat) (cs : List Int) (lo yo : Option Addr) (L : List Pl) : Prop where
  f : w.heap[fb]? = some (.cells #[.int .i64 p, .int .i64 wd, .int .i64 ht, .int .i64 rs, .slice bo m bc] 40 (0, 0))
  rc : RdC w bo m C
  cs : Rd .i64 w co j cs
  l : RdP w lo L.length (plNum L)
  y : RdP w yo L.length (plNum L)
theorem Pw.grown {w w' : World} {fb : Nat} {p wd ht rs : Int} {bo : Option Addr} {m bc : Nat} {C : Nat → Nat → Int} {co : Option Addr} {j : Nat} {cs : List Int} {lo yo : Option Addr} {L : List Pl} (h : Pw w fb p wd ht rs bo m bc C co j cs lo yo L) (hg : w.grownBy w' none) : Pw w' fb p wd ht rs bo m bc C co j cs lo yo L :=
  ⟨(hg.block fb (Array.getElem?_eq_some_iff.1 h.f).1 (by simp)).trans h.f, h.rc.grown hg, h.cs.grown hg, h.l.grown hg, h.y.grown hg⟩

set_option maxRecDepth 20000 in
set_option maxHeartbeats 6400000 in
theorem lawPlaces_in (ao : Option Addr) (n cap : Nat) (zs : List Int) (w : World) (hr : Rd .u8 w ao n zs) (hb : ∀ i, 0 ≤ zs.getD i 0 ∧ zs.getD i 0 ≤ 255) (hn : n ≤ 1048576) :
    Calls Try.prog 6 #[.slice ao n cap] w fun e w' => e = .returned (.bool true) ∧ Below w.heap.size w w' := by
  have HR := hide hr
  have HB := hide hb
  clear hr hb
  go_enter Try.func6, Try.ntmps6
  go_wp2_with fail
  refine (lawBigP ao n cap false w (by unfold Hid; simp; omega)).mono ?_
  rintro e w0 ⟨rfl, rfl⟩
  go_wp2_with fail
  refine (drawOrderOf ao n cap zs w (unhide HR) (unhide HB) hn).mono ?_
  rintro e w1 ⟨p, wd, ht, rs, C, m, bc, bo, co, j, cc, cs, rfl, hm, hrc, hj, hcs, g1⟩
  have HAB := hide (heap_alloc_new w1 (.cells #[.int .i64 0, .int .i64 0, .int .i64 0, .int .i64 0, .slice none 0 0] 40))
  have HAG : Hid (w1.grownBy (w1.alloc (.cells #[.int .i64 0, .int .i64 0, .int .i64 0, .int .i64 0, .slice none 0 0] 40)) none) := grown_alloc (World.grownBy.refl _ _) _
  have HRC := hide hrc
  have HCS := hide hcs
  have HG1 := hide g1
  clear hrc hcs g1 HR HB
  go_wp2_with (refine wpList_store_row rfl 40 _ _ rfl w1.heap.size rfl #[.int .i64 p, .int .i64 wd, .int .i64 ht, .int .i64 rs, .slice bo m bc] rfl #[.int .i64 0, .int .i64 0, .int .i64 0, .int .i64 0, .slice none 0 0] 40 (unhide HAB) rfl (by kernel_rfl) (by simp [Value.oneCell']) ?_; intro w2 hB2 g2; obtain ⟨k0, k1, k2, k3, k4⟩ := frameCells5 hB2)
  have G12 : w1.grownBy w2 none := grown_new (unhide HAG) g2 (fun g e => by simp at e; omega)
  have HG2 := hide (grown_trans (unhide HG1) G12)
  have HRC2 := hide ((unhide HRC).grown G12)
  have HCS2 := hide ((unhide HCS).grown G12)
  have HB2 := hide hB2
  obtain ⟨fb, hfb⟩ : ∃ fb, w1.heap.size = fb := ⟨_, rfl⟩
  have hsf : fb < w2.heap.size := by rw [← hfb]; exact (Array.getElem?_eq_some_iff.1 hB2).1
  obtain ⟨b, HFB⟩ : ∃ b, Hid (frameB p wd ht rs m C = b) := ⟨_, rfl⟩
  obtain ⟨O, HO⟩ : ∃ O, Hid (orderG b wd ht m C cs = O) := ⟨_, rfl⟩
  obtain ⟨L, HL⟩ : ∃ L, Hid (O.flatten = L) := ⟨_, rfl⟩
  rw [hfb] at HB2
  rw [hfb]
  clear g2 G12 hB2 HAG HAB HRC HCS HG1 k0 k1 k2 k3 k4 hfb
  refine (implOrderAll p wd ht rs bo m bc C w2 (unhide HRC2) (by omega) b HFB co j cc cs (unhide HCS2) (by omega)).mono ?_
  rw [unhide HO, unhide HL]
  rintro e w3 ⟨x, rfl, o3, g3⟩
  obtain ⟨lo, lc, rfl⟩ := own_form o3
  have HO3 := hide o3
  have HG3 := hide (grown_trans (unhide HG2) g3)
  have HB3 := hide ((g3.block fb hsf (by simp)).trans (unhide HB2))
  have HRC3 := hide ((unhide HRC2).grown g3)
  have HCS3 := hide ((unhide HCS2).grown g3)
  have hs3 := g3.size
  obtain ⟨k0, k1, k2, k3, k4⟩ := frameCells5 (unhide HB3)
  clear g3 o3 HB2 HRC2 HCS2 HG2
  go_wp2_with fail
  refine (specOrderOf p wd ht rs bo m bc C w3 (unhide HRC3) (by omega) b HFB co j cc cs (unhide HCS3) (by omega)).mono ?_
  rw [unhide HO, unhide HL]
  rintro e w4 ⟨x, rfl, o4, g4⟩
  obtain ⟨yo, yc, rfl⟩ := own_form o4
  have HG4 := hide (grown_trans (unhide HG3) g4)
  have hs4 := g4.size
  have HP4 : Hid (Pw w4 fb p wd ht rs bo m bc C co j cs lo yo L) := by
    have o3 := own_grown (unhide HO3) g4
    rw [plCells_rows] at o3 o4
    exact ⟨(g4.block fb (by omega) (by simp)).trans (unhide HB3), (unhide HRC3).grown g4, (unhide HCS3).grown g4, own_rdP o3, own_rdP o4⟩
  clear o4 g4 HO3 HB3 HRC3 HCS3 HG3 k0 k1 k2 k3 k4
  have KEEP : Hid (∀ wv, w4.grownBy wv none → wv.cell? ⟨fb, 0, none⟩ = some (.int .i64 p) ∧ wv.cell? ⟨fb, 1, none⟩ = some (.int .i64 wd) ∧ wv.cell? ⟨fb, 2, none⟩ = some (.int .i64 ht) ∧ wv.cell? ⟨fb, 3, none⟩ = some (.int .i64 rs) ∧ wv.cell? ⟨fb, 4, none⟩ = some (.slice bo m bc)) := fun wv hg => frameCells5 ((unhide HP4).grown hg).f
  obtain ⟨U, HU⟩ : ∃ U, Hid (O.length = U) := ⟨_, rfl⟩
  have hnU : ((U : Int) != (U : Int)) = false := by simp
  have hnL : ((L.length : Int) != (L.length : Int)) = false := by simp
  obtain ⟨k0, k1, k2, k3, k4⟩ := unhide KEEP w4 (World.grownBy.refl _ _)
  go_wp2
  go_region_held3 (fun w' => w'.cell? ⟨fb, 0, none⟩ = some (.int .i64 p) ∧ w'.cell? ⟨fb, 1, none⟩ = some (.int .i64 wd) ∧ w'.cell? ⟨fb, 2, none⟩ = some (.int .i64 ht) ∧ w'.cell? ⟨fb, 3, none⟩ = some (.int .i64 rs) ∧ w'.cell? ⟨fb, 4, none⟩ = some (.slice bo m bc)) (first | exact ⟨k0, k1, k2, k3, k4⟩ | exact unhide KEEP _ g6 | exact unhide KEEP _ g5 | exact unhide KEEP _ (grown_drew g5) | exact unhide KEEP _ (grown_drew (World.grownBy.refl _ _))) (first | (go_at_call 32; refine (specUnitsOf p wd ht rs bo m bc C _ (by first | exact (((unhide HP4).grown g5).rc) | exact (((unhide HP4).grown (grown_drew g5)).rc)) (by omega) b HFB co j cc cs (by first | exact (((unhide HP4).grown g5).cs) | exact (((unhide HP4).grown (grown_drew g5)).cs)) (by omega)).mono ?_; rw [unhide HO, unhide HU]; rintro e w6 ⟨rfl, g6x⟩; have g6 : w4.grownBy w6 none := by first | exact grown_trans g5 g6x | exact grown_trans (grown_drew g5) g6x) | (go_at_call 31; refine (implUnitsOf p wd ht rs bo m bc C _ (by first | exact (unhide HP4).rc | exact (((unhide HP4).grown (grown_drew (World.grownBy.refl _ _))).rc)) (by omega) b HFB co j cc cs (by first | exact (unhide HP4).cs | exact (((unhide HP4).grown (grown_drew (World.grownBy.refl _ _))).cs)) (by omega)).mono ?_; rw [unhide HO, unhide HU]; rintro e w5 ⟨rfl, g5x⟩; have g5 : w4.grownBy w5 none := by first | exact g5x | exact grown_trans (grown_drew (World.grownBy.refl _ _)) g5x))
  have HP6 := hide ((unhide HP4).grown g6)
  have HG6 := hide (grown_trans (unhide HG4) g6)
  clear g6 g6x g5 g5x KEEP HP4 HG4 k0 k1 k2 k3 k4 hs3 hs4 hsf
  by_cases hL0 : L.length = 0
  · have h0 : ((L.length : Int) == 0) = true := by rw [hL0]; rfl
    go_wp2
    go_ret
    exact ⟨rfl, grown_below (unhide HG6)⟩
  obtain ⟨hbt, hok, hun⟩ := order_yes (b := b) (wd := wd) (ht := ht) (n := m) (C := C) (cs := cs) (by rw [unhide HO, unhide HL]; exact hL0)
  subst hbt
  have hgeo := geo_of (unhide HFB)
  have hLu : (unitsG wd ht m C cs).flatten = L := by rw [← unhide HL, ← unhide HO, hun]
  have hin := units_in hgeo hok
  have hon := units_once hgeo hok
  have hnd := units_needed hgeo hok
  have hm4 := hgeo.n4
  have hLb : L.length ≤ 134217728 := by have h := order_short (cs := cs) (unhide HFB); rw [unhide HO, unhide HL] at h; exact h
  have hm1 := hgeo.n1
  have hco : ∀ i, i < cs.length → ∃ c : Nat, cs.getD i 0 = (c : Int) ∧ c < m := fun i hi => by
    simp only [okComps, Bool.and_eq_true, decide_eq_true_eq] at hok
    have := (compsTo_at hok.1 i hi).1
    exact ⟨(cs.getD i 0).toNat, by omega, by omega⟩
  rw [hLu] at hin hon
  have hL0' : ((L.length : Int) == 0) = false := beq_false_of_ne (by omega)
  have hbk : ∀ c, c < m → blocksG true wd ht m C (c : Int) = ((bw wd m C c : Int), (bh ht m C c : Int)) ∧ (1 ≤ bw wd m C c ∧ bw wd m C c ≤ 1024) ∧ (1 ≤ bh ht m C c ∧ bh ht m C c ≤ 1024) := fun c hc => ⟨blocks_is hgeo c hc, (bw_is hgeo c hc).2, (bh_is hgeo c hc).2⟩
  have hsz : ∀ c, c < m → ∃ su sv : Nat, sizeG true wd ht m C (c : Int) = ((su : Int), (sv : Int)) ∧ su ≤ 4096 ∧ sv ≤ 4096 ∧ ∀ i, i < cs.length → cs.getD i 0 = (c : Int) → ∀ y x : Nat, y < sv → x < su → ((c : Int), ((y / 8 : Nat) : Int), ((x / 8 : Nat) : Int)) ∈ L := fun c hc => by
    have P1 := mul_share (a := wd) ⟨hgeo.wd.1, by have := hgeo.wd; omega⟩ (hgeo.ch c hc)
    have P2 := mul_share (a := ht) ⟨hgeo.ht.1, by have := hgeo.ht; omega⟩ (hgeo.cv c hc)
    have Q1 := upI_pos P1.1 hgeo.hb.1
    have Q2 := upI_pos P2.1 hgeo.vb.1
    refine ⟨(upI (wd * C c 1) (mostA 1 C 1 m)).toNat, (upI (ht * C c 2) (mostA 1 C 2 m)).toNat, by rw [size_is c hc, Int.toNat_of_nonneg (by omega), Int.toNat_of_nonneg (by omega)], by omega, by omega, fun i hi hci y x hy hx => ?_⟩
    rw [← hLu]
    exact hnd i c hi hci y x (by omega) (by omega)
  obtain ⟨BW, hBW⟩ : ∃ f, bw wd m C = f := ⟨_, rfl⟩
  obtain ⟨BH, hBH⟩ : ∃ f, bh ht m C = f := ⟨_, rfl⟩
  obtain ⟨M, hMM⟩ : ∃ f : Nat → Nat, ∀ c, BW c * BH c = f c := ⟨_, fun _ => rfl⟩
  simp only [hBW, hBH] at hin hbk
  have HBK := hide hbk
  have HIN := hide hin
  have HON := hide hon
  have HSZ := hide hsz
  have HCO := hide hco
  have HMM := hide hMM
  have KEEP : Hid (∀ wv, w6.grownBy wv none → wv.cell? ⟨fb, 0, none⟩ = some (.int .i64 p) ∧ wv.cell? ⟨fb, 1, none⟩ = some (.int .i64 wd) ∧ wv.cell? ⟨fb, 2, none⟩ = some (.int .i64 ht) ∧ wv.cell? ⟨fb, 3, none⟩ = some (.int .i64 rs) ∧ wv.cell? ⟨fb, 4, none⟩ = some (.slice bo m bc)) := fun wv hg => frameCells5 ((unhide HP6).grown hg).f
  have HS0 : Hid (Seen (w6.alloc (.cells #[] 55)) w6.heap.size (.slice (some ⟨w6.heap.size, 0, none⟩) 0 0) [] M (fun c => seenR [] c (BW c) (M c))) := Seen.nil w6
  have HA0 : Hid (w6.grownBy (w6.alloc (.cells #[] 55)) none) := World.grownBy_alloc _ _ _
  obtain ⟨wa, hwa⟩ : ∃ wa, w6.alloc (.cells #[] 55) = wa := ⟨_, rfl⟩
  have HWA := hide hwa
  rw [hwa] at HS0 HA0
  clear hbk hin hon hsz hco hMM hnd hLu hgeo hok hun hBW hBH HU HO HL hwa
  obtain ⟨i0, hi, hz0, hz1, hz2⟩ := info_parts info_bool
  go_wp2
  rw [unhide HWA]
  go_loopw [7, 8] (fun o i wr => ∃ (k : Nat) (gs : List Nat), k ≤ m ∧ i = .int .i64 k ∧ gs.length = k ∧ Hid (Seen wr w6.heap.size o gs M (fun c => seenR [] c (BW c) (M c))) ∧ Hid (w6.grownBy wr none)) (fun _ i _ => m - (intOf i).toNat)
  case atStart => exact ⟨0, [], Nat.zero_le _, rfl, rfl, HS0, HA0⟩
  case round =>
    obtain ⟨k, gs, hk, rfl, hgs, hS, hgk⟩ := hrel
    obtain ⟨k0, k1, k2, k3, k4⟩ := unhide KEEP wr (unhide hgk)
    by_cases hlt : k < m
    · obtain ⟨hbk, hb1, hb2⟩ := unhide HBK k hlt
      have hbm := unhide HMM k
      have hM : M k ≤ 1048576 := by rw [← hbm]; exact mul_ten hb1.2 hb2.2
      have e1 : (BW k : Int) * (BH k : Int) = (M k : Int) := by rw [← Int.natCast_mul, hbm]
      have e2 := i64_in (M k : Int) (by omega)
      have hn1 : ((BW k : Int) != (BW k : Int)) = false := by simp
      have hn2 : ((BH k : Int) != (BH k : Int)) = false := by simp
      have HK := hide hbk
      clear hbk hbm
      go_wp2_with fail
      refine (implBlocksOf p wd ht rs bo m bc C wr ((unhide HP6).grown (unhide hgk)).rc (by omega) true HFB k (BW k) (BH k) HK).mono ?_
      rintro e w7 ⟨rfl, g7⟩
      have HG7 := hide (grown_trans (unhide hgk) g7)
      have HS7 := hide ((unhide hS).grown g7)
      clear g7 hgk hS k0 k1 k2 k3 k4
      obtain ⟨k0, k1, k2, k3, k4⟩ := unhide KEEP w7 (unhide HG7)
      go_wp2_with fail
      refine (specBlocksOf p wd ht rs bo m bc C w7 ((unhide HP6).grown (unhide HG7)).rc (by omega) true HFB k (BW k) (BH k) HK).mono ?_
      rintro e w8 ⟨rfl, g8⟩
      have HG8 := hide (grown_trans (unhide HG7) g8)
      have HS8 := hide ((unhide HS7).grown g8)
      clear g8 HG7 HS7 k0 k1 k2 k3 k4
      go_wp2_with (at_make; refine wpList_make_full _ rfl _ _ 55 rfl w8.heap.size 4 i0 (.bool false) 1 Try.underlying55 hi hz0 hz1 .i64 .i64 _ _ (M k) rfl rfl rfl rfl (by rw [hz2]; omega) (by unfold maxLen; omega) (Nat.le_refl _) ?_)
      intro w9 hown hgrow
      subst hgs
      have HO9 : Hid (w9.ownsRow w6.heap.size 4 1 (.slice (some ⟨w8.heap.size, 0, none⟩) (M gs.length) (M gs.length)) (M gs.length) (seenR [] gs.length (BW gs.length) (M gs.length))) := by
        have e : (madeCells #[Value.bool false] (M gs.length)).toList = seenR [] gs.length (BW gs.length) (M gs.length) := by rw [toList_madeCells_one, seenR_nil]
        unfold Hid; rw [← e]; exact own_base hown (unhide HG8).size
      have HG9 := hide (grown_trans (unhide HG8) hgrow)
      have HS9 := hide ((unhide HS8).grown hgrow)
      have HN9 : Hid (∀ j, j < gs.length → gs.getD j 0 < w8.heap.size) := fun j hj => ((unhide HS8).ge j hj).2
      obtain ⟨so, sc, rfl⟩ := (unhide HS8).shape
      have HV9 : Hid ((Value.slice so gs.length sc).ownBlock ≠ some w8.heap.size) := by
        intro e
        obtain ⟨vs, h1, _⟩ := (unhide HS8).outer
        have := (h1.lt _ e).2
        omega
      clear hown hgrow HG8 HS8
      go_wp2_with (at_builtin; refine append_seen rfl _ _ rfl w6 (.slice so gs.length sc) gs M (fun c => seenR [] c (BW c) (M c)) w8.heap.size rfl (unhide HS9) rfl (unhide HO9) (unhide HN9) (unhide HV9) (by omega) (unhide HG9) ?_; intro v' w10 hS10 hg10)
      have HS10 := hide hS10
      have HG10 := hide hg10
      clear hS10 hg10
      go_wp2
      go_roundw
      case rel => exact ⟨gs.length + 1, gs ++ [w8.heap.size], by omega, by go_num, by simp, HS10, HG10⟩
      case measure => simp [intOf]; omega
    · obtain rfl : m = k := by omega
      obtain ⟨sb, sc, rfl⟩ := (unhide hS).form (by omega)
      have HCG : Hid (∀ c : Nat, c < m → (c : Int) < (gs.length : Int) ∧ c < gs.length) := fun c hc => by omega
      clear HS0 HA0 HWA hi hz0 hz1 hz2 hgs
      go_wp2
      go_loopw [13] (fun i wv => ∃ q : Nat, q ≤ L.length ∧ i = .int .i64 q ∧ Hid (Seen wv w6.heap.size (.slice (some ⟨sb, 0, none⟩) gs.length sc) gs M (fun c => seenR (L.take q) c (BW c) (M c))) ∧ Hid (w6.grownBy wv none)) (fun i _ => L.length - (intOf i).toNat)
      case atStart => exact ⟨0, Nat.zero_le _, rfl, hS, hgk⟩
      case round =>
        clear hS hgk k0 k1 k2 k3 k4
        obtain ⟨q, hq, rfl, hT, hgq⟩ := hrel
        have HPr := hide ((unhide HP6).grown (unhide hgq))
        by_cases hlt2 : q < L.length
        · obtain ⟨c, r, z, hpl, hc, hr, hz⟩ := unhide HIN (L[q]) (List.getElem_mem hlt2)
          have hgd : L.getD q (0, 0, 0) = ((c : Int), (r : Int), (z : Int)) := by rw [← hpl]; simp [hlt2]
          have n0 : plNum L q 0 = (c : Int) := by unfold plNum; rw [if_pos rfl, hgd]
          have n1 : plNum L q 1 = (r : Int) := by unfold plNum; rw [if_neg (by omega), if_pos rfl, hgd]
          have n2 : plNum L q 2 = (z : Int) := by unfold plNum; rw [if_neg (by omega), if_neg (by omega), hgd]
          obtain ⟨lb, loff, rfl, hlc⟩ := (unhide HPr).l q hlt2
          obtain ⟨yb, yoff, rfl, hyc⟩ := (unhide HPr).y q hlt2
          have a0 := hlc 0 (by omega)
          have a1 := hlc 1 (by omega)
          have a2 := hlc 2 (by omega)
          have y0 := hyc 0 (by omega)
          have y1 := hyc 1 (by omega)
          have y2 := hyc 2 (by omega)
          rw [n0, Nat.add_zero] at a0 y0
          rw [n1] at a1 y1
          rw [n2] at a2 y2
          have hqI : (q : Int) < (L.length : Int) := by omega
          obtain ⟨hbk, hb1, hb2⟩ := unhide HBK c hc
          have HBc := hide hbk
          have HAB := hide (heap_alloc_new wr (.cells #[.int .i64 0, .int .i64 0, .int .i64 0] 57))
          have HAG : Hid (wr.grownBy (wr.alloc (.cells #[.int .i64 0, .int .i64 0, .int .i64 0] 57)) none) := grown_alloc (World.grownBy.refl _ _) _
          have HY : Hid (wr.cell? ⟨yb, yoff + q * 3, none⟩ = some (.int .i64 c) ∧ wr.cell? ⟨yb, yoff + q * 3 + 1, none⟩ = some (.int .i64 r) ∧ wr.cell? ⟨yb, yoff + q * 3 + 2, none⟩ = some (.int .i64 z)) := ⟨y0, y1, y2⟩
          have HPL := hide hpl
          clear hlc hyc y0 y1 y2 n0 n1 n2 hgd hbk hpl
          go_wp2_with (refine wpList_store_row rfl 57 _ _ rfl wr.heap.size rfl #[.int .i64 c, .int .i64 r, .int .i64 z] rfl #[.int .i64 0, .int .i64 0, .int .i64 0] 57 (unhide HAB) rfl (by kernel_rfl) (by simp [Value.oneCell']) ?_; intro w7 hB7 g7)
          have G7 : wr.grownBy w7 none := grown_new (unhide HAG) g7 (fun g e => by simp at e; omega)
          have HG7 := hide (grown_trans (unhide hgq) G7)
          have HP7 := hide ((unhide HP6).grown (unhide HG7))
          have HS7 := hide ((unhide hT).grown G7)
          obtain ⟨pb, hpb⟩ : ∃ pb, wr.heap.size = pb := ⟨_, rfl⟩
          rw [hpb] at hB7
          rw [hpb]
          have HB7 := hide hB7
          have y0 := G7.cell (unhide HY).1 (by simp)
          have y1 := G7.cell (unhide HY).2.1 (by simp)
          have y2 := G7.cell (unhide HY).2.2 (by simp)
          obtain ⟨f0, f1, f2⟩ := placeCells hB7
          obtain ⟨k0, k1, k2, k3, k4⟩ := frameCells5 (unhide HP7).f
          clear hB7 g7 G7 HAB HAG HY HPr hT hgq hpb a0 a1 a2
          go_quiet (fail)
          go_wp2_with fail
          refine (specBlocksOf p wd ht rs bo m bc C _ ((unhide HP7).grown (grown_drewN (World.grownBy.refl _ _) _)).rc (by omega) true HFB c (BW c) (BH c) HBc).mono ?_
          rintro e w8 ⟨rfl, g8x⟩
          have g8 : w7.grownBy w8 none := grown_trans (grown_drewN (World.grownBy.refl _ _) _) g8x
          have HG8 := hide (grown_trans (unhide HG7) g8)
          have HS8 := hide ((unhide HS7).grown g8)
          have hB8 := (g8.block pb (Array.getElem?_eq_some_iff.1 (unhide HB7)).1 (by simp)).trans (unhide HB7)
          clear y0 y1 y2 f0 f1 f2 k0 k1 k2 k3 k4 g8 g8x
          obtain ⟨f0, f1, f2⟩ := placeCells hB8
          obtain ⟨hcg, hcl⟩ := unhide HCG c hc
          have s0 : w8.cell? ⟨sb, c, none⟩ = some (.slice (some ⟨gs.getD c 0, 0, none⟩) (M c) (M c)) := (unhide HS8).cell c hcl
          obtain ⟨t0, ht0⟩ : ∃ t0, r * BW c = t0 := ⟨_, rfl⟩
          obtain ⟨t, htt⟩ : ∃ t, t0 + z = t := ⟨_, rfl⟩
          have hMc := unhide HMM c
          have hM6 : M c ≤ 1048576 := by rw [← hMc]; exact mul_ten hb1.2 hb2.2
          have htM : t < M c := by
            have h1 : (r + 1) * BW c ≤ BH c * BW c := Nat.mul_le_mul_right _ hr
            rw [Nat.add_mul, Nat.one_mul, ht0, Nat.mul_comm (BH c), hMc] at h1
            omega
          have e1 : (r : Int) * (BW c : Int) = (t0 : Int) := by rw [← Int.natCast_mul, ht0]
          have e2 : (t0 : Int) + (z : Int) = (t : Int) := by omega
          have e3 := i64_in (t0 : Int) (by omega)
          have e4 := i64_in (t : Int) (by omega)
          have htI : (t : Int) < (M c : Int) := by omega
          have hct := (unhide HS8).at c hcl t htM
          have hgd : L.getD q (0, 0, 0) = ((c : Int), (r : Int), (z : Int)) := by rw [← unhide HPL]; simp [hlt2]
          have htk : L.take (q + 1) = L.take q ++ [((c : Int), (r : Int), (z : Int))] := by rw [List.take_succ_eq_append_getElem hlt2, unhide HPL]
          have hnot : ((c : Int), (r : Int), (z : Int)) ∉ L.take q := by
            have h1 : (L.take (q + 1)).Nodup := (unhide HON).sublist (List.take_sublist _ _)
            rw [htk] at h1
            have h2 := (List.pairwise_append.1 h1).2.2
            intro h3
            exact h2 _ h3 _ (List.mem_singleton.2 rfl) rfl
          have s1 : w8.cell? ⟨gs.getD c 0, t, none⟩ = some (.bool false) := by
            rw [hct, ← htt, ← ht0, seenR_at hz (by rw [ht0, htt]; exact htM), decide_eq_false hnot]
          have fz := (unhide HS8).free c hcl t
          have HSET : Hid (∀ W, w8.grownBy W none → Seen (W.setCell ⟨gs.getD c 0, t, none⟩ (.bool true)) w6.heap.size (.slice (some ⟨sb, 0, none⟩) gs.length sc) gs M (fun c => seenR (L.take (q + 1)) c (BW c) (M c)) ∧ w6.grownBy (W.setCell ⟨gs.getD c 0, t, none⟩ (.bool true)) none) := fun W hW => by
            have h1 := ((unhide HS8).grown hW).set (K' := fun c => seenR (L.take (q + 1)) c (BW c) (M c)) c hcl t (by rw [htk, ← htt, ← ht0]; exact (seenR_set hz).symm) (fun i hi hne => by rw [htk]; exact seenR_other (by simp; omega))
            exact ⟨h1.1, grown_new (grown_trans (unhide HG8) hW) h1.2 (fun g e => by simp only [Option.some.injEq] at e; have := ((unhide HS8).ge c hcl).1; omega)⟩
          have d1 : decide ((r : Int) < 0) = false := decide_eq_false (by omega)
          have d2 : decide ((z : Int) < 0) = false := decide_eq_false (by omega)
          have d3 : decide ((BH c : Int) ≤ (r : Int)) = false := decide_eq_false (by omega)
          have d4 : decide ((BW c : Int) ≤ (z : Int)) = false := decide_eq_false (by omega)
          have hc0 := i64_in (c : Int) (by omega)
          clear hct hgd htk hnot hMc HS7 HG7 HB7 HP7 HS8 HG8 hB8 HPL
          generalize gs.getD c 0 = gc at *
          go_wp2
          go_quiet (fail)
          go_wp2
          refine wp_region_last 20 _ (by kernel_rfl) rfl rfl (by kernel_rfl) ?_
          dsimp only [List.dropLast]
          repeat (go_big_quiet_step (fail))
          refine wpQuiet_nil ?_
          intro nq
          go_wp2
          go_roundw
          case rel => exact ⟨q + 1, by omega, by go_num, (unhide HSET _ (grown_drewN (World.grownBy.refl _ _) _)).1, (unhide HSET _ (grown_drewN (World.grownBy.refl _ _) _)).2⟩
          case measure => simp [intOf]; omega
        · have hqe : q = L.length := by omega
          subst hqe
          have HS9 : Hid (Seen wr w6.heap.size (.slice (some ⟨sb, 0, none⟩) gs.length sc) gs M (fun c => seenR L c (BW c) (M c))) := by have h := unhide hT; rw [List.take_length] at h; exact h
          have hjl : cs.length = j := (unhide HP6).cs.1
          have HCO' : Hid (∀ i, i < j → ∃ c : Nat, cs.getD i 0 = (c : Int) ∧ c < m) := fun i hi => unhide HCO i (by omega)
          have HJL := hide hjl
          clear hT HPr HCO hjl
          go_wp2
          go_loopw [17] (fun i wv => ∃ s : Nat, s ≤ j ∧ i = .int .i64 s ∧ Hid (Seen wv w6.heap.size (.slice (some ⟨sb, 0, none⟩) gs.length sc) gs M (fun c => seenR L c (BW c) (M c))) ∧ Hid (w6.grownBy wv none)) (fun i _ => j - (intOf i).toNat)
          case atStart => exact ⟨0, Nat.zero_le _, rfl, HS9, hgq⟩
          case round =>
            clear HS9 hgq
            obtain ⟨s, hs, rfl, hT, hgq⟩ := hrel
            have HPr := hide ((unhide HP6).grown (unhide hgq))
            by_cases hlt3 : s < j
            · obtain ⟨c, hcs, hc⟩ := unhide HCO' s hlt3
              obtain ⟨cb, coff, rfl, hcc⟩ := (unhide HPr).cs.2 s hlt3
              rw [hcs] at hcc
              obtain ⟨su, sv, hsz, hsu, hsv, hmem⟩ := unhide HSZ c hc
              have HSE := hide hsz
              have HME : Hid (∀ y x : Nat, y < sv → x < su → ((c : Int), ((y / 8 : Nat) : Int), ((x / 8 : Nat) : Int)) ∈ L) := hmem s (by have := unhide HJL; omega) hcs
              obtain ⟨hbk, hb1, hb2⟩ := unhide HBK c hc
              have HBc := hide hbk
              have KEEP2 : Hid (∀ wv, wr.grownBy wv none → wv.cell? ⟨fb, 0, none⟩ = some (.int .i64 p) ∧ wv.cell? ⟨fb, 1, none⟩ = some (.int .i64 wd) ∧ wv.cell? ⟨fb, 2, none⟩ = some (.int .i64 ht) ∧ wv.cell? ⟨fb, 3, none⟩ = some (.int .i64 rs) ∧ wv.cell? ⟨fb, 4, none⟩ = some (.slice bo m bc) ∧ wv.cell? ⟨cb, coff + s, none⟩ = some (.int .i64 (c : Int))) := fun wv hg => by
                obtain ⟨h0, h1, h2, h3, h4⟩ := frameCells5 ((unhide HPr).grown hg).f
                exact ⟨h0, h1, h2, h3, h4, hg.cell hcc (by simp)⟩
              have HME := hide HME
              clear hmem hbk hsz hcs hcc
              obtain ⟨k0, k1, k2, k3, k4, k5⟩ := unhide KEEP2 wr (World.grownBy.refl _ _)
              have hsI : (s : Int) < (j : Int) := by omega
              go_wp2
              go_region_held3 (fun w' => w'.cell? ⟨fb, 0, none⟩ = some (.int .i64 p) ∧ w'.cell? ⟨fb, 1, none⟩ = some (.int .i64 wd) ∧ w'.cell? ⟨fb, 2, none⟩ = some (.int .i64 ht) ∧ w'.cell? ⟨fb, 3, none⟩ = some (.int .i64 rs) ∧ w'.cell? ⟨fb, 4, none⟩ = some (.slice bo m bc) ∧ w'.cell? ⟨cb, coff + s, none⟩ = some (.int .i64 (c : Int))) (first | exact ⟨k0, k1, k2, k3, k4, k5⟩ | exact unhide KEEP2 _ g7 | exact unhide KEEP2 _ (grown_drew (World.grownBy.refl _ _))) ((go_at_call 35; refine (implSizeOf p wd ht rs bo m bc C _ (by first | exact (unhide HPr).rc | exact (((unhide HPr).grown (grown_drew (World.grownBy.refl _ _))).rc)) (by omega) true HFB c su sv HSE).mono ?_; rintro e w7 ⟨rfl, g7x⟩; have g7 : wr.grownBy w7 none := by first | exact g7x | exact grown_trans (grown_drew (World.grownBy.refl _ _)) g7x))
              have HG7 := hide (grown_trans (unhide hgq) g7)
              have HP7 := hide ((unhide HPr).grown g7)
              have HS7 := hide ((unhide hT).grown g7)
              have KEEP3 : Hid (∀ wv, w7.grownBy wv none → wv.cell? ⟨fb, 0, none⟩ = some (.int .i64 p) ∧ wv.cell? ⟨fb, 1, none⟩ = some (.int .i64 wd) ∧ wv.cell? ⟨fb, 2, none⟩ = some (.int .i64 ht) ∧ wv.cell? ⟨fb, 3, none⟩ = some (.int .i64 rs) ∧ wv.cell? ⟨fb, 4, none⟩ = some (.slice bo m bc) ∧ wv.cell? ⟨cb, coff + s, none⟩ = some (.int .i64 (c : Int))) := fun wv hg => unhide KEEP2 wv (grown_trans g7 hg)
              clear g7 g7x k0 k1 k2 k3 k4 k5 KEEP2 HPr hT hgq
              obtain ⟨k0, k1, k2, k3, k4, k5⟩ := unhide KEEP3 w7 (World.grownBy.refl _ _)
              go_wp2
              go_region_held3 (fun w' => w'.cell? ⟨fb, 0, none⟩ = some (.int .i64 p) ∧ w'.cell? ⟨fb, 1, none⟩ = some (.int .i64 wd) ∧ w'.cell? ⟨fb, 2, none⟩ = some (.int .i64 ht) ∧ w'.cell? ⟨fb, 3, none⟩ = some (.int .i64 rs) ∧ w'.cell? ⟨fb, 4, none⟩ = some (.slice bo m bc) ∧ w'.cell? ⟨cb, coff + s, none⟩ = some (.int .i64 (c : Int))) (first | exact ⟨k0, k1, k2, k3, k4, k5⟩ | exact unhide KEEP3 _ g8 | exact unhide KEEP3 _ (grown_drew (World.grownBy.refl _ _))) ((go_at_call 34; refine (specBlocksOf p wd ht rs bo m bc C _ (by first | exact (unhide HP7).rc | exact (((unhide HP7).grown (grown_drew (World.grownBy.refl _ _))).rc)) (by omega) true HFB c (BW c) (BH c) HBc).mono ?_; rintro e w8 ⟨rfl, g8x⟩; have g8 : w7.grownBy w8 none := by first | exact g8x | exact grown_trans (grown_drew (World.grownBy.refl _ _)) g8x))
              have HG8 := hide (grown_trans (unhide HG7) g8)
              have HS8 := hide ((unhide HS7).grown g8)
              have hk5 := (unhide KEEP3 w8 g8).2.2.2.2.2
              have HC8 : Hid (∀ wv, w8.grownBy wv none → wv.cell? ⟨cb, coff + s, none⟩ = some (.int .i64 (c : Int))) := fun wv hg => hg.cell hk5 (by simp)
              clear hk5 g8 g8x k0 k1 k2 k3 k4 k5 KEEP3 HP7 HS7 HG7 HSE HBc
              obtain ⟨hcg, hcl⟩ := unhide HCG c hc
              have hMc := unhide HMM c
              have hM6 : M c ≤ 1048576 := by rw [← hMc]; exact mul_ten hb1.2 hb2.2
              have hc0 := i64_in (c : Int) (by omega)
              go_wp2
              go_loopw [22] (fun i wv => ∃ y : Nat, y ≤ sv + 7 ∧ i = .int .i64 y ∧ Hid (Seen wv w6.heap.size (.slice (some ⟨sb, 0, none⟩) gs.length sc) gs M (fun c => seenR L c (BW c) (M c))) ∧ Hid (w8.grownBy wv none)) (fun i _ => sv - (intOf i).toNat)
              case atStart => exact ⟨0, Nat.zero_le _, rfl, HS8, World.grownBy.refl _ _⟩
              case round =>
                clear HS8
                obtain ⟨y, hy, rfl, hT, hgy⟩ := hrel
                by_cases hlt4 : y < sv
                · have hyI : (y : Int) < (sv : Int) := by omega
                  go_wp2
                  go_loopw [23] (fun i wv => ∃ x : Nat, x ≤ su + 7 ∧ i = .int .i64 x ∧ Hid (Seen wv w6.heap.size (.slice (some ⟨sb, 0, none⟩) gs.length sc) gs M (fun c => seenR L c (BW c) (M c))) ∧ Hid (w8.grownBy wv none)) (fun i _ => su - (intOf i).toNat)
                  case atStart => exact ⟨0, Nat.zero_le _, rfl, hT, hgy⟩
                  case round =>
                    clear hT hgy
                    obtain ⟨x, hx, rfl, hT, hgx⟩ := hrel
                    by_cases hlt5 : x < su
                    · have hxI : (x : Int) < (su : Int) := by omega
                      have hin := unhide (unhide HME) y x hlt4 hlt5
                      obtain ⟨c', r', z', hpl, _, hr, hz⟩ := unhide HIN _ hin
                      obtain ⟨Y, hY⟩ : ∃ Y, y / 8 = Y := ⟨_, rfl⟩
                      obtain ⟨X, hX⟩ : ∃ X, x / 8 = X := ⟨_, rfl⟩
                      rw [hY, hX] at hin hpl
                      simp only [Prod.mk.injEq] at hpl
                      obtain ⟨hp1, hp2, hp3⟩ := hpl
                      obtain rfl : c = c' := by omega
                      obtain rfl : Y = r' := by omega
                      obtain rfl : X = z' := by omega
                      obtain ⟨t0, ht0⟩ : ∃ t0, Y * BW c = t0 := ⟨_, rfl⟩
                      obtain ⟨t, htt⟩ : ∃ t, t0 + X = t := ⟨_, rfl⟩
                      have htM : t < M c := by
                        have h1 : (Y + 1) * BW c ≤ BH c * BW c := Nat.mul_le_mul_right _ hr
                        rw [Nat.add_mul, Nat.one_mul, ht0, Nat.mul_comm (BH c), hMc] at h1
                        omega
                      have e1 : (Y : Int) * (BW c : Int) = (t0 : Int) := by rw [← Int.natCast_mul, ht0]
                      have e2 : (t0 : Int) + (X : Int) = (t : Int) := by omega
                      have e3 := i64_in (t0 : Int) (by omega)
                      have e4 := i64_in (t : Int) (by omega)
                      have htI : (t : Int) < (M c : Int) := by omega
                      have s0 : wr.cell? ⟨sb, c, none⟩ = some (.slice (some ⟨gs.getD c 0, 0, none⟩) (M c) (M c)) := (unhide hT).cell c hcl
                      have s1 : wr.cell? ⟨gs.getD c 0, t, none⟩ = some (.bool true) := by
                        rw [(unhide hT).at c hcl t htM, ← htt, ← ht0, seenR_at hz (by rw [ht0, htt]; exact htM), decide_eq_true hin]
                      have s2 := unhide HC8 wr (unhide hgx)
                      have q1 : (y : Int) / 8 = (Y : Int) := by omega
                      have q2 : (x : Int) / 8 = (X : Int) := by omega
                      have q3 : (y : Int).tdiv 8 = (Y : Int) := by rw [Int.tdiv_eq_ediv_of_nonneg (by omega)]; exact q1
                      have q4 : (x : Int).tdiv 8 = (X : Int) := by rw [Int.tdiv_eq_ediv_of_nonneg (by omega)]; exact q2
                      have e5 := i64_in (Y : Int) (by omega)
                      have e6 := i64_in (X : Int) (by omega)
                      clear hin hp1 hp2 hp3
                      generalize gs.getD c 0 = gc at *
                      go_wp2
                      go_roundw
                      case rel => exact ⟨x + 8, by omega, by go_num, hT, hgx⟩
                      case measure => simp [intOf]; omega
                    · go_wp2
                      go_roundw
                      case rel => exact ⟨y + 8, by omega, by go_num, hT, hgx⟩
                      case measure => simp [intOf]; omega
                · go_wp2
                  go_roundw
                  case rel => exact ⟨s + 1, by omega, by go_num, hT, grown_trans (unhide HG8) (unhide hgy)⟩
                  case measure => simp [intOf]; omega
            · obtain rfl : j = s := by omega
              go_wp2
              go_ret
              exact ⟨rfl, grown_below (grown_trans (unhide HG6) (unhide hgq))⟩

set_option maxRecDepth 20000 in
theorem lawPlaces (ao : Option Addr) (n cap : Nat) (zs : List Int) (w : World) (hr : Rd .u8 w ao n zs) (hb : ∀ i, 0 ≤ zs.getD i 0 ∧ zs.getD i 0 ≤ 255) :
    Calls Try.prog 6 #[.slice ao n cap] w fun e w' => e = .returned (.bool true) ∧ Below w.heap.size w w' := by
  by_cases hn : n ≤ 1048576
  · exact lawPlaces_in ao n cap zs w hr hb hn
  · go_enter Try.func6, Try.ntmps6
    go_wp2_with fail
    refine (lawBigP ao n cap true w (by unfold Hid; simp; omega)).mono ?_
    rintro e w0 ⟨rfl, rfl⟩
    go_wp2
    go_ret
    exact ⟨rfl, Below.refl _ _⟩

end Go.Proofs.Ytoeehfjbnbbijaa
