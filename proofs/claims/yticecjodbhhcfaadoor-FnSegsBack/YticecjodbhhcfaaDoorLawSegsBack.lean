/-
  The walk of the law that segments are read back.
-/
import Derived.Test.YticecjodbhhcfaaDoorSegDraw2
import Derived.Test.YticecjodbhhcfaaDoorSegOkImpl
import Derived.Test.YticecjodbhhcfaaDoorSegWriteImpl
import Derived.Test.YticecjodbhhcfaaDoorSegReadTop
import Derived.Test.YticecjodbhhcfaaDoorSegBackPure
import Derived.Test.YticecjodbhhcfaaDoorSegBackPure2
import Derived.Test.YticecjodbhhcfaaDoorSameSegs
namespace Go.Proofs.YticecjodbhhcfaaDoor
open Go.RowKit

theorem readFrom_bounds : ∀ (f : Nat) (zs : List Int) (k : Nat) (was : Int) (acc : List (Int × List Int)), acc.length ≤ 300 → (∀ s ∈ acc, s.2.length ≤ 20000) → (readFrom f zs k was acc).1.length ≤ 300 ∧ ∀ s ∈ (readFrom f zs k was acc).1, s.2.length ≤ 20000
  | 0, _, _, _, _, _, _ => ⟨by simp [readFrom], fun s hs => by simp [readFrom] at hs⟩
  | f + 1, zs, k, was, acc, h1, h2 => by
    rw [readFrom]
    cases hnx : nextS zs k was (decide (acc.length = 300)) with
    | fault c a => exact ⟨by simp, fun s hs => by simp at hs⟩
    | fin a =>
      dsimp only
      split
      · exact ⟨by simp, fun s hs => by simp at hs⟩
      · exact ⟨h1, h2⟩
    | seg m d nx =>
      have hb := next_bounds hnx
      have hne := of_decide_eq_false hb.2.2.2
      exact readFrom_bounds f zs nx (kindOf m) (acc ++ [(m, d)]) (by simp; omega) (fun s hs => by
        rcases List.mem_append.1 hs with h | h
        · exact h2 s h
        · rw [List.mem_singleton] at h; subst h; exact hb.2.2.1)
theorem readS_bounds (zs : List Int) : (readS zs).1.length ≤ 300 ∧ ∀ i, i < (readS zs).1.length → ((readS zs).1.getD i (0, [])).2.length ≤ 20000 := by
  have h : (readS zs).1.length ≤ 300 ∧ ∀ s ∈ (readS zs).1, s.2.length ≤ 20000 := by
    unfold readS
    split
    · exact ⟨by simp, fun s hs => by simp at hs⟩
    · split
      · exact readFrom_bounds _ _ _ _ _ (by simp) (fun s hs => by simp at hs)
      · exact ⟨by simp, fun s hs => by simp at hs⟩
  refine ⟨h.1, fun i hi => ?_⟩
  have e : (readS zs).1.getD i (0, []) = (readS zs).1[i] := by simp [hi]
  rw [e]
  exact h.2 _ (List.getElem_mem hi)

theorem lawBig (ao : Option Addr) (n cap : Nat) (t : Bool) (w : World) (h : Hid (decide ((1048576 : Int) < (n : Int)) = t)) :
    Calls Tryd.prog 4 #[.slice ao n cap] w fun e w' => e = .returned (.bool t) ∧ w = w' := by
  go_enter Tryd.func4, Tryd.ntmps4
  go_wp2
  go_ret
  exact ⟨ret_bool (by rw [← unhide h]), rfl⟩

theorem mem_getD {l : List Int} (h : ∀ x ∈ l, 0 ≤ x ∧ x ≤ 255) : ∀ i, 0 ≤ l.getD i 0 ∧ l.getD i 0 ≤ 255 := by
  intro i
  by_cases hi : i < l.length
  · have e : l.getD i 0 = l[i] := by simp [hi]
    rw [e]; exact h _ (List.getElem_mem hi)
  · have e : l.getD i 0 = 0 := by rw [List.getD_eq_getElem?_getD, List.getElem?_eq_none (by omega)]; rfl
    rw [e]; omega
theorem GoodS.lens {ss : List (Int × List Int)} (h : GoodS ss) : ∀ i, i < ss.length → (ss.getD i (0, [])).2.length ≤ 4194304 := by
  intro i hi
  have e : ss.getD i (0, []) = ss[i] := by simp [hi]
  rw [e]
  have := (h _ (List.getElem_mem hi)).1
  omega

set_option maxRecDepth 20000 in
set_option maxHeartbeats 12800000 in
theorem lawSegsBack (ao bo : Option Addr) (n cap nb capb : Nat) (zs ys : List Int) (w : World) (hg : w.cell? ⟨0, 0, none⟩ = some (.iface 82 (.agg #[.pointer (some ⟨1, 51, none⟩)]))) (hr : Rd .u8 w ao n zs) (hb : ∀ i, 0 ≤ zs.getD i 0 ∧ zs.getD i 0 ≤ 255)
    (hr2 : Rd .u8 w bo nb ys) (hb2 : ∀ i, 0 ≤ ys.getD i 0 ∧ ys.getD i 0 ≤ 255) :
    Calls Tryd.prog 3 #[.slice ao n cap, .slice bo nb capb] w fun e w' => e = .returned (.bool true) ∧ Below w.heap.size w w' := by
  have HR := hide hr
  have HB := hide hb
  have HR2 := hide hr2
  have HB2 := hide hb2
  have HG := hide hg
  clear hr hb hr2 hb2 hg
  by_cases hbig : n ≤ 1048576
  · have HT1 : Hid (decide ((1048576 : Int) < (n : Int)) = false) := decide_eq_false (by omega)
    by_cases hbig2 : nb ≤ 1048576
    · have HT2 : Hid (decide ((1048576 : Int) < (nb : Int)) = false) := decide_eq_false (by omega)
      go_enter Tryd.func3, Tryd.ntmps3
      go_wp2_with fail
      refine (lawBig ao n cap _ w HT1).mono ?_
      rintro e wz ⟨rfl, rfl⟩
      go_wp2_with fail
      refine (lawBig bo nb capb _ w HT2).mono ?_
      rintro e wz ⟨rfl, rfl⟩
      go_wp2_with fail
      refine (drawWriteSegs ao n cap zs w (unhide HR) (unhide HB) hbig).mono ?_
      rintro e w1 ⟨ss, vo, vc, rfl, o1, hsl, hgd, g1⟩
      have RS1 := hide o1.rd
      have HGD := hide hgd
      have hs4 : ss.length ≤ 4194304 := by omega
      have X1 := g1
      have hwl := writeS_short ss
      have HWB := hide (mem_getD (writeS_bytes hgd))
      clear o1 hgd g1
      go_wp2_with fail
      refine (implWriteSegs vo ss.length vc ss w1 (unhide RS1)).mono ?_
      rintro e w2 ⟨b1, c1, rfl, oB, g2⟩
      have X2 := grown_trans X1 g2
      have RS2 := hide ((unhide RS1).grown g2)
      have HCB := hide (own_le oB)
      have RB2 := hide (own_rd oB)
      clear RS1 X1 g2 oB
      go_wp2_with fail
      refine (specWriteSegs vo ss.length vc ss w2 (unhide RS2)).mono ?_
      rintro e w3 ⟨b2, c2, rfl, oC, g3⟩
      have X3 := grown_trans X2 g3
      have RS3 := hide ((unhide RS2).grown g3)
      have RB3 := hide ((unhide RB2).grown g3)
      have RC3 := hide (own_rd oC)
      clear RS2 X2 g3 oC RB2
      have HRW : Hid (writeS ss ≠ [] → readS (writeS ss) = (ss, 0, 0)) := read_written ss
      generalize writeS ss = zw at *
      go_wp2_with fail
      refine (sameBytes b1 b2 zw.length c1 c2 zw w3 (unhide RB3) (unhide RC3) (by omega)).mono ?_
      rintro e w4 ⟨rfl, g4⟩
      have X4 := grown_trans X3 g4
      have RS4 := hide ((unhide RS3).grown g4)
      have RB4 := hide ((unhide RB3).grown g4)
      clear RS3 X3 g4 RB3 RC3
      go_wp2_with fail
      refine (implSegsOk vo ss.length vc ss w4 (unhide RS4)).mono ?_
      rintro e w5 ⟨rfl, g5⟩
      have X5 := grown_trans X4 g5
      have RS5 := hide ((unhide RS4).grown g5)
      have RB5 := hide ((unhide RB4).grown g5)
      clear RS4 X4 g5 RB4
      go_wp2_with fail
      refine (specSegsOk vo ss.length vc ss w5 (unhide RS5)).mono ?_
      rintro e w6 ⟨rfl, g6⟩
      have X6 := grown_trans X5 g6
      have RS6 := hide ((unhide RS5).grown g6)
      have RB6 := hide ((unhide RB5).grown g6)
      clear RS5 X5 g6 RB5
      have hne : (okS ss != okS ss) = false := by simp
      generalize okS ss = okk at hne ⊢
      by_cases hz : 0 < zw.length
      · have hdz : decide ((0 : Int) < (zw.length : Int)) = true := decide_eq_true (by omega)
        have HRE := hide (unhide HRW (by intro e; rw [e] at hz; simp at hz))
        have HIM : Hid (∀ (wa : World) (a1 : Option Addr) (ca : Nat), w.grownBy wa none → Rd .u8 wa a1 zw.length zw → zw.length ≤ ca → Calls Tryd.prog 11 #[.slice a1 zw.length ca] wa fun e w' => ∃ bo c, e = .returned (.tuple #[.slice bo ss.length c, .agg #[.int .i64 0, .int .i64 0]]) ∧ OwnS w' wa.heap.size w'.heap.size (.slice bo ss.length c) ss ∧ wa.grownBy w' none) := fun wa a1 ca h0 h1 h2 => by
          have h := implReadSegs a1 zw.length ca zw wa (h0.cell (unhide HG) (by simp)) h1 (unhide HWB) (by omega) h2; rw [unhide HRE] at h; exact h
        go_wp2_with fail
        refine (unhide HIM w6 b1 c1 X6 (unhide RB6) (unhide HCB)).mono ?_
        rintro e w7 ⟨xo, xc, rfl, oX, g7⟩
        have X7 := grown_trans X6 g7
        have RS7 := hide ((unhide RS6).grown (grown_alloc g7 (.cells #[.int .i64 0, .int .i64 0] 30)))
        have RX7 := hide (oX.rd.grown (grown_alloc (World.grownBy.refl w7 none) (.cells #[.int .i64 0, .int .i64 0] 30)))
        have X7a : Hid (w.grownBy (w7.alloc (.cells #[.int .i64 0, .int .i64 0] 30)) none) := grown_alloc X7 _
        clear X7 g7 oX RS6
        go_wp2_with fail
        refine (sameSegs xo vo ss.length xc vc ss _ (unhide RX7) (unhide RS7) hs4 (unhide HGD).lens).mono ?_
        generalize (w7.alloc (.cells #[.int .i64 0, .int .i64 0] 30)) = w7a at *
        rintro e w8 ⟨rfl, g8⟩
        have X8 := grown_trans (unhide X7a) g8
        clear X7a g8 RX7 RS7
        go_wp2_with fail
        refine (drawReadSegs bo nb capb ys w8 ((unhide HR2).grown X8) (unhide HB2) hbig2).mono ?_
        rintro e wA ⟨yt, to, tc, rfl, htl, htb, oT, gA⟩
        have XA := grown_trans X8 gA
        have RTA := hide (own_rd oT)
        have HTC := hide (own_le oT)
        have HTB := hide (mem_getD htb)
        clear X8 gA oT htb
        obtain ⟨⟨xs, fc, fa⟩, hrd⟩ : ∃ r, readS yt = r := ⟨_, rfl⟩
        have hbd := readS_bounds yt
        rw [hrd] at hbd
        have hx4 : xs.length ≤ 4194304 := by have := hbd.1; dsimp only at this; omega
        have HXL : Hid (∀ i, i < xs.length → (xs.getD i (0, [])).2.length ≤ 4194304) := fun i hi => by have := hbd.2 i hi; dsimp only at this; omega
        have HRD := hide hrd
        clear hrd hbd
        have HIM2 : Hid (∀ (wa : World) (a1 : Option Addr) (ca : Nat), w.grownBy wa none → Rd .u8 wa a1 yt.length yt → yt.length ≤ ca → Calls Tryd.prog 11 #[.slice a1 yt.length ca] wa fun e w' => ∃ bo c, e = .returned (.tuple #[.slice bo xs.length c, .agg #[.int .i64 fc, .int .i64 fa]]) ∧ OwnS w' wa.heap.size w'.heap.size (.slice bo xs.length c) xs ∧ wa.grownBy w' none) := fun wa a1 ca h0 h1 h2 => by
          have h := implReadSegs a1 yt.length ca yt wa (h0.cell (unhide HG) (by simp)) h1 (unhide HTB) (by omega) h2; rw [unhide HRD] at h; exact h
        have HSP2 : Hid (∀ (wa : World) (a1 : Option Addr) (ca : Nat), Rd .u8 wa a1 yt.length yt → yt.length ≤ ca → Calls Tryd.prog 14 #[.slice a1 yt.length ca] wa fun e w' => ∃ bo c, e = .returned (.tuple #[.slice bo xs.length c, .agg #[.int .i64 fc, .int .i64 fa]]) ∧ OwnS w' wa.heap.size w'.heap.size (.slice bo xs.length c) xs ∧ wa.grownBy w' none) := fun wa a1 ca h1 h2 => by
          have h := specReadSegs a1 yt.length ca yt wa h1 (unhide HTB) (by omega) h2; rw [unhide HRD] at h; exact h
        go_wp2_with fail
        refine (unhide HIM2 wA to tc XA (unhide RTA) (unhide HTC)).mono ?_
        rintro e wB ⟨xo2, xc2, rfl, oX2, gB⟩
        have XB : Hid (w.grownBy (wB.alloc (.cells #[.int .i64 fc, .int .i64 fa] 30)) none) := grown_alloc (grown_trans XA gB) _
        have RTB := hide ((unhide RTA).grown (grown_alloc gB (.cells #[.int .i64 fc, .int .i64 fa] 30)))
        have RXB := hide (oX2.rd.grown (grown_alloc (World.grownBy.refl wB none) (.cells #[.int .i64 fc, .int .i64 fa] 30)))
        have HFB := hide (heap_alloc_new wB (.cells #[.int .i64 fc, .int .i64 fa] 30))
        have hfz : wB.heap.size < (wB.alloc (.cells #[.int .i64 fc, .int .i64 fa] 30)).heap.size := by simp
        clear XA RTA gB oX2
        go_wp2_with fail
        refine (unhide HSP2 (wB.alloc (.cells #[.int .i64 fc, .int .i64 fa] 30)) to tc (unhide RTB) (unhide HTC)).mono ?_
        generalize hwB : (wB.alloc (.cells #[.int .i64 fc, .int .i64 fa] 30)) = wBa at *
        rintro e wC ⟨yo2, yc2, rfl, oY2, gC⟩
        have XC : Hid (w.grownBy (wC.alloc (.cells #[.int .i64 fc, .int .i64 fa] 30)) none) := grown_alloc (grown_trans (unhide XB) gC) _
        have RTC := hide ((unhide RTB).grown (grown_alloc gC (.cells #[.int .i64 fc, .int .i64 fa] 30)))
        have RXC := hide ((unhide RXB).grown (grown_alloc gC (.cells #[.int .i64 fc, .int .i64 fa] 30)))
        have RYC := hide (oY2.rd.grown (grown_alloc (World.grownBy.refl wC none) (.cells #[.int .i64 fc, .int .i64 fa] 30)))
        have hfc1 := ((grown_alloc gC (.cells #[.int .i64 fc, .int .i64 fa] 30)).block wB.heap.size hfz (by simp)).trans (unhide HFB)
        have cf1 := seg_cells hfc1
        have HFC := hide (heap_alloc_new wC (.cells #[.int .i64 fc, .int .i64 fa] 30))
        have hfz2 : wC.heap.size < (wC.alloc (.cells #[.int .i64 fc, .int .i64 fa] 30)).heap.size := by simp
        have hcc : (fc == fc) = true := by simp
        have haa : ((fa : Int) == (fa : Int)) = true := by simp
        clear XB RTB gC oY2 hfc1 hwB
        go_wp2_with fail
        refine (sameSegs xo2 yo2 xs.length xc2 yc2 xs _ (unhide RXC) (unhide RYC) hx4 (unhide HXL)).mono ?_
        generalize (wC.alloc (.cells #[.int .i64 fc, .int .i64 fa] 30)) = wCa at *
        rintro e wD ⟨rfl, gD⟩
        have XD := grown_trans (unhide XC) gD
        have RTD := hide ((unhide RTC).grown gD)
        have RXD := hide ((unhide RXC).grown gD)
        have cg := seg_cells ((gD.block wC.heap.size hfz2 (by simp)).trans (unhide HFC))
        clear XC RTC RXC RYC gD cf1
        by_cases hfc : fc = 0
        · subst hfc
          have HWR := hide (written_read yt xs fa (unhide HTB) (unhide HRD))
          go_wp2_with fail
          refine (implWriteSegs xo2 xs.length xc2 xs wD (unhide RXD)).mono ?_
          rintro e wE ⟨zo, zc, rfl, oZ, gE⟩
          rw [unhide HWR] at oZ ⊢
          have XE := grown_trans XD gE
          have RTE := hide ((unhide RTD).grown gE)
          have RZE := hide (own_rd oZ)
          clear XD RTD gE oZ cg
          go_wp2_with fail
          refine (sameBytes zo to yt.length zc tc yt wE (unhide RZE) (unhide RTE) (by omega)).mono ?_
          rintro e wF ⟨rfl, gF⟩
          have XF := grown_trans XE gF
          go_wp2
          go_ret
          exact ⟨rfl, grown_below XF⟩
        · have hfn : (fc != 0) = true := by simpa using hfc
          go_wp2
          go_ret
          exact ⟨rfl, grown_below XD⟩
      · have hdz : decide ((0 : Int) < (zw.length : Int)) = false := decide_eq_false (by omega)
        have X8 := X6
        go_wp2_with fail
        refine (drawReadSegs bo nb capb ys w6 ((unhide HR2).grown X8) (unhide HB2) hbig2).mono ?_
        rintro e wA ⟨yt, to, tc, rfl, htl, htb, oT, gA⟩
        have XA := grown_trans X8 gA
        have RTA := hide (own_rd oT)
        have HTC := hide (own_le oT)
        have HTB := hide (mem_getD htb)
        clear X8 gA oT htb
        obtain ⟨⟨xs, fc, fa⟩, hrd⟩ : ∃ r, readS yt = r := ⟨_, rfl⟩
        have hbd := readS_bounds yt
        rw [hrd] at hbd
        have hx4 : xs.length ≤ 4194304 := by have := hbd.1; dsimp only at this; omega
        have HXL : Hid (∀ i, i < xs.length → (xs.getD i (0, [])).2.length ≤ 4194304) := fun i hi => by have := hbd.2 i hi; dsimp only at this; omega
        have HRD := hide hrd
        clear hrd hbd
        have HIM2 : Hid (∀ (wa : World) (a1 : Option Addr) (ca : Nat), w.grownBy wa none → Rd .u8 wa a1 yt.length yt → yt.length ≤ ca → Calls Tryd.prog 11 #[.slice a1 yt.length ca] wa fun e w' => ∃ bo c, e = .returned (.tuple #[.slice bo xs.length c, .agg #[.int .i64 fc, .int .i64 fa]]) ∧ OwnS w' wa.heap.size w'.heap.size (.slice bo xs.length c) xs ∧ wa.grownBy w' none) := fun wa a1 ca h0 h1 h2 => by
          have h := implReadSegs a1 yt.length ca yt wa (h0.cell (unhide HG) (by simp)) h1 (unhide HTB) (by omega) h2; rw [unhide HRD] at h; exact h
        have HSP2 : Hid (∀ (wa : World) (a1 : Option Addr) (ca : Nat), Rd .u8 wa a1 yt.length yt → yt.length ≤ ca → Calls Tryd.prog 14 #[.slice a1 yt.length ca] wa fun e w' => ∃ bo c, e = .returned (.tuple #[.slice bo xs.length c, .agg #[.int .i64 fc, .int .i64 fa]]) ∧ OwnS w' wa.heap.size w'.heap.size (.slice bo xs.length c) xs ∧ wa.grownBy w' none) := fun wa a1 ca h1 h2 => by
          have h := specReadSegs a1 yt.length ca yt wa h1 (unhide HTB) (by omega) h2; rw [unhide HRD] at h; exact h
        go_wp2_with fail
        refine (unhide HIM2 wA to tc XA (unhide RTA) (unhide HTC)).mono ?_
        rintro e wB ⟨xo2, xc2, rfl, oX2, gB⟩
        have XB : Hid (w.grownBy (wB.alloc (.cells #[.int .i64 fc, .int .i64 fa] 30)) none) := grown_alloc (grown_trans XA gB) _
        have RTB := hide ((unhide RTA).grown (grown_alloc gB (.cells #[.int .i64 fc, .int .i64 fa] 30)))
        have RXB := hide (oX2.rd.grown (grown_alloc (World.grownBy.refl wB none) (.cells #[.int .i64 fc, .int .i64 fa] 30)))
        have HFB := hide (heap_alloc_new wB (.cells #[.int .i64 fc, .int .i64 fa] 30))
        have hfz : wB.heap.size < (wB.alloc (.cells #[.int .i64 fc, .int .i64 fa] 30)).heap.size := by simp
        clear XA RTA gB oX2
        go_wp2_with fail
        refine (unhide HSP2 (wB.alloc (.cells #[.int .i64 fc, .int .i64 fa] 30)) to tc (unhide RTB) (unhide HTC)).mono ?_
        generalize hwB : (wB.alloc (.cells #[.int .i64 fc, .int .i64 fa] 30)) = wBa at *
        rintro e wC ⟨yo2, yc2, rfl, oY2, gC⟩
        have XC : Hid (w.grownBy (wC.alloc (.cells #[.int .i64 fc, .int .i64 fa] 30)) none) := grown_alloc (grown_trans (unhide XB) gC) _
        have RTC := hide ((unhide RTB).grown (grown_alloc gC (.cells #[.int .i64 fc, .int .i64 fa] 30)))
        have RXC := hide ((unhide RXB).grown (grown_alloc gC (.cells #[.int .i64 fc, .int .i64 fa] 30)))
        have RYC := hide (oY2.rd.grown (grown_alloc (World.grownBy.refl wC none) (.cells #[.int .i64 fc, .int .i64 fa] 30)))
        have hfc1 := ((grown_alloc gC (.cells #[.int .i64 fc, .int .i64 fa] 30)).block wB.heap.size hfz (by simp)).trans (unhide HFB)
        have cf1 := seg_cells hfc1
        have HFC := hide (heap_alloc_new wC (.cells #[.int .i64 fc, .int .i64 fa] 30))
        have hfz2 : wC.heap.size < (wC.alloc (.cells #[.int .i64 fc, .int .i64 fa] 30)).heap.size := by simp
        have hcc : (fc == fc) = true := by simp
        have haa : ((fa : Int) == (fa : Int)) = true := by simp
        clear XB RTB gC oY2 hfc1 hwB
        go_wp2_with fail
        refine (sameSegs xo2 yo2 xs.length xc2 yc2 xs _ (unhide RXC) (unhide RYC) hx4 (unhide HXL)).mono ?_
        generalize (wC.alloc (.cells #[.int .i64 fc, .int .i64 fa] 30)) = wCa at *
        rintro e wD ⟨rfl, gD⟩
        have XD := grown_trans (unhide XC) gD
        have RTD := hide ((unhide RTC).grown gD)
        have RXD := hide ((unhide RXC).grown gD)
        have cg := seg_cells ((gD.block wC.heap.size hfz2 (by simp)).trans (unhide HFC))
        clear XC RTC RXC RYC gD cf1
        by_cases hfc : fc = 0
        · subst hfc
          have HWR := hide (written_read yt xs fa (unhide HTB) (unhide HRD))
          go_wp2_with fail
          refine (implWriteSegs xo2 xs.length xc2 xs wD (unhide RXD)).mono ?_
          rintro e wE ⟨zo, zc, rfl, oZ, gE⟩
          rw [unhide HWR] at oZ ⊢
          have XE := grown_trans XD gE
          have RTE := hide ((unhide RTD).grown gE)
          have RZE := hide (own_rd oZ)
          clear XD RTD gE oZ cg
          go_wp2_with fail
          refine (sameBytes zo to yt.length zc tc yt wE (unhide RZE) (unhide RTE) (by omega)).mono ?_
          rintro e wF ⟨rfl, gF⟩
          have XF := grown_trans XE gF
          go_wp2
          go_ret
          exact ⟨rfl, grown_below XF⟩
        · have hfn : (fc != 0) = true := by simpa using hfc
          go_wp2
          go_ret
          exact ⟨rfl, grown_below XD⟩
    · have HT2 : Hid (decide ((1048576 : Int) < (nb : Int)) = true) := decide_eq_true (by omega)
      go_enter Tryd.func3, Tryd.ntmps3
      go_wp2_with fail
      refine (lawBig ao n cap _ w HT1).mono ?_
      rintro e wz ⟨rfl, rfl⟩
      go_wp2_with fail
      refine (lawBig bo nb capb _ w HT2).mono ?_
      rintro e wz ⟨rfl, rfl⟩
      go_wp2
      go_ret
      exact ⟨rfl, grown_below (World.grownBy.refl _ _)⟩
  · have HT1 : Hid (decide ((1048576 : Int) < (n : Int)) = true) := decide_eq_true (by omega)
    go_enter Tryd.func3, Tryd.ntmps3
    go_wp2_with fail
    refine (lawBig ao n cap _ w HT1).mono ?_
    rintro e wz ⟨rfl, rfl⟩
    go_wp2
    go_ret
    exact ⟨rfl, grown_below (World.grownBy.refl _ _)⟩

end Go.Proofs.YticecjodbhhcfaaDoor
