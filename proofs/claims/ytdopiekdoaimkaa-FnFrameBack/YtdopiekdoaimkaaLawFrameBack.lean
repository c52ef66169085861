/-
  The walk of the law that frames are read back.
-/
import Derived.Test.YtdopiekdoaimkaaFrameDraw3
import Derived.Test.YtdopiekdoaimkaaFrameSpec
import Derived.Test.YtdopiekdoaimkaaSameFrame
import Derived.Test.YtdopiekdoaimkaaFrameWrite2
import Derived.Test.YtdopiekdoaimkaaFrameRead3
import Derived.Test.YtdopiekdoaimkaaSame
namespace Go.Proofs.Ytdopiekdoaimkaa
open Go.RowKit

theorem lawBig (ao : Option Addr) (n cap : Nat) (t : Bool) (w : World) (h : Hid (decide ((1048576 : Int) < (n : Int)) = t)) :
    Calls Try.prog 7 #[.slice ao n cap] w fun e w' => e = .returned (.bool t) ∧ w = w' := by
  go_enter Try.func7, Try.ntmps7
  go_wp2
  go_ret
  exact ⟨ret_bool (by rw [← unhide h]), rfl⟩
theorem mem_getD {l : List Int} (h : ∀ x ∈ l, 0 ≤ x ∧ x ≤ 255) : ∀ i, 0 ≤ l.getD i 0 ∧ l.getD i 0 ≤ 255 := by
  intro i
  by_cases hi : i < l.length
  · have e : l.getD i 0 = l[i] := by simp [hi]
    rw [e]; exact h _ (List.getElem_mem hi)
  · have e : l.getD i 0 = 0 := by rw [List.getD_eq_getElem?_getD, List.getElem?_eq_none (by omega)]; rfl
    rw [e]; omega
theorem RdC.four {w : World} {ao : Option Addr} {n : Nat} {C D : Nat → Nat → Int} (h : RdC w ao n C) (e : ∀ i, i < n → ∀ j, j < 4 → C i j = D i j) : RdC w ao n D := fun i hi => by
  obtain ⟨b, off, e1, hc⟩ := h i hi
  exact ⟨b, off, e1, fun j hj => by rw [hc j hj, e i hi j hj]⟩

set_option maxRecDepth 20000 in
set_option maxHeartbeats 12800000 in
theorem lawFrameBack (ao bo : Option Addr) (n cap nb capb : Nat) (zs ys : List Int) (w : World) (hr : Rd .u8 w ao n zs) (hb : ∀ i, 0 ≤ zs.getD i 0 ∧ zs.getD i 0 ≤ 255)
    (hr2 : Rd .u8 w bo nb ys) (hb2 : ∀ i, 0 ≤ ys.getD i 0 ∧ ys.getD i 0 ≤ 255) :
    Calls Try.prog 5 #[.slice ao n cap, .slice bo nb capb] w fun e w' => e = .returned (.bool true) ∧ Below w.heap.size w w' := by
  have HR := hide hr
  have HB := hide hb
  have HR2 := hide hr2
  have HB2 := hide hb2
  clear hr hb hr2 hb2
  by_cases hbig : n ≤ 1048576
  · have HT1 : Hid (decide ((1048576 : Int) < (n : Int)) = false) := decide_eq_false (by omega)
    by_cases hbig2 : nb ≤ 1048576
    · have HT2 : Hid (decide ((1048576 : Int) < (nb : Int)) = false) := decide_eq_false (by omega)
      go_enter Try.func5, Try.ntmps5
      go_wp2_with fail
      refine (lawBig ao n cap _ w HT1).mono ?_
      rintro e wz ⟨rfl, rfl⟩
      go_wp2_with fail
      refine (lawBig bo nb capb _ w HT2).mono ?_
      rintro e wz ⟨rfl, rfl⟩
      go_wp2_with fail
      refine (drawWriteFrame ao n cap zs w (unhide HR) (unhide HB) hbig).mono ?_
      rintro e w1 ⟨p0, wd0, ht0, rs0, C, m, vc, vo, rfl, hm5, r1, g1⟩
      obtain ⟨w2, hw2⟩ : ∃ w2, w1.alloc (.cells #[.int .i64 p0, .int .i64 wd0, .int .i64 ht0, .int .i64 rs0, .slice vo m vc] 40) = w2 := ⟨_, rfl⟩
      have g2 : w1.grownBy w2 none := by rw [← hw2]; exact grown_alloc (World.grownBy.refl _ _) _
      have HF2 : Hid (w2.heap[w1.heap.size]? = some (.cells #[.int .i64 p0, .int .i64 wd0, .int .i64 ht0, .int .i64 rs0, .slice vo m vc] 40 (0, 0))) := by rw [← hw2]; exact heap_alloc_new _ _
      have hfl : w1.heap.size < w2.heap.size := (Array.getElem?_eq_some_iff.1 (unhide HF2)).1
      have X2 := grown_trans g1 g2
      have R2 := hide (r1.grown g2)
      have HW2 := hide hw2
      clear hw2 r1 g1 g2
      obtain ⟨Z, HZ⟩ : ∃ Z, Hid (writeF p0 wd0 ht0 rs0 m C = Z) := ⟨_, rfl⟩
      have hZl : Z.length ≤ 17 := by rw [← unhide HZ]; exact writeF_short _ _ _ _ _ _
      have HZB : Hid (∀ x ∈ Z, 0 ≤ x ∧ x ≤ 255) := by unfold Hid; rw [← unhide HZ]; exact writeF_bytes _ _ _ _ _ _
      go_wp2_with fail
      rw [unhide HW2]
      refine (implWriteFrame p0 wd0 ht0 rs0 vo m vc C w2 (unhide R2) (by omega) Z HZ).mono ?_
      rintro e w3 ⟨b3, c3, rfl, o3, g3⟩
      have X3 := grown_trans X2 g3
      have R3 := hide ((unhide R2).grown g3)
      have RB3 := hide (own_rd o3)
      have HCB := hide (own_wide o3)
      have Y3 := g3
      have kf := frameCells5 ((Y3.block w1.heap.size hfl (by simp)).trans (unhide HF2))
      clear o3 g3 X2 R2 HW2
      go_wp2_with fail
      refine (specWriteFrame p0 wd0 ht0 rs0 vo m vc C w3 (unhide R3) Z HZ).mono ?_
      rintro e w4 ⟨b4, c4, rfl, o4, g4⟩
      have X4 := grown_trans X3 g4
      have R4 := hide ((unhide R3).grown g4)
      have RB4 := hide ((unhide RB3).grown g4)
      have RC4 := hide (own_rd o4)
      have Y4 := grown_trans Y3 g4
      clear o4 g4 X3 R3 RB3 kf Y3
      go_wp2_with fail
      refine (sameBytes b3 b4 Z.length c3 c4 Z w4 (unhide RB4) (unhide RC4) (by omega)).mono ?_
      rintro e w5 ⟨rfl, g5⟩
      have X5 := grown_trans X4 g5
      have R5 := hide ((unhide R4).grown g5)
      have RB5 := hide ((unhide RB4).grown g5)
      have Y5 := grown_trans Y4 g5
      have kf := frameCells5 ((Y5.block w1.heap.size hfl (by simp)).trans (unhide HF2))
      clear g5 X4 R4 RB4 RC4 Y4
      obtain ⟨t, HT⟩ : ∃ t, Hid (frameB p0 wd0 ht0 rs0 m C = t) := ⟨_, rfl⟩
      go_wp2_with fail
      refine (specFrameOk p0 wd0 ht0 rs0 vo m vc C w5 (unhide R5) t HT).mono ?_
      rintro e w6 ⟨rfl, g6⟩
      have X6 := grown_trans X5 g6
      have R6 := hide ((unhide R5).grown g6)
      have RB6 := hide ((unhide RB5).grown g6)
      have Y6 := grown_trans Y5 g6
      have kf := frameCells5 ((Y6.block w1.heap.size hfl (by simp)).trans (unhide HF2))
      clear g6 X5 R5 RB5 Y5
      cases t
      · clear kf
        go_wp2_with fail
        refine (drawReadFrame bo nb capb ys w6 ((unhide HR2).grown X6) (unhide HB2) hbig2).mono ?_
        rintro e wA ⟨yt, tc, to, rfl, htl, htb, RT, hTC, gA⟩
        have XA := grown_trans X6 gA
        have RTA := hide RT
        have HTB := hide (mem_getD htb)
        clear gA RT htb X6
        obtain ⟨ok, q0, q1, q2, q3, qm, HRY⟩ : ∃ ok q0 q1 q2 q3 qm, Hid (readF yt = (ok, q0, q1, q2, q3, qm)) := ⟨_, _, _, _, _, _, rfl⟩
        have hqm : qm ≤ 255 := by
          have h4 := unhide HTB 4
          rcases readF_cases (unhide HRY) with ⟨_, _, _, _, _, _, h⟩ | ⟨_, _, _, _, _, _, h⟩ <;> omega
        go_wp2_with fail
        refine (implReadFrame to yt.length tc yt wA (unhide RTA) (by omega) hTC (unhide HTB) ok q0 q1 q2 q3 qm HRY).mono ?_
        rintro e wB ⟨xo, xc, rfl, oX, gB⟩
        have gBa : wA.grownBy (wB.alloc (.cells #[.int .i64 q0, .int .i64 q1, .int .i64 q2, .int .i64 q3, .slice xo qm xc] 40)) none := grown_alloc gB _
        have XB := hide (grown_trans XA gBa)
        have RTB := hide ((unhide RTA).grown gBa)
        have RXB := hide ((own_rdC oX).grown (World.grownBy_alloc wB (.cells #[.int .i64 q0, .int .i64 q1, .int .i64 q2, .int .i64 q3, .slice xo qm xc] 40) none))
        have HXB := hide (heap_alloc_new wB (.cells #[.int .i64 q0, .int .i64 q1, .int .i64 q2, .int .i64 q3, .slice xo qm xc] 40))
        have hxl : wB.heap.size < (wB.alloc (.cells #[.int .i64 q0, .int .i64 q1, .int .i64 q2, .int .i64 q3, .slice xo qm xc] 40)).heap.size := by simp
        clear gB gBa XA RTA oX
        go_wp2_with fail
        refine (specReadFrame to yt.length tc yt _ (unhide RTB) (by omega) (unhide HTB) ok q0 q1 q2 q3 qm HRY).mono ?_
        generalize (wB.alloc (.cells #[.int .i64 q0, .int .i64 q1, .int .i64 q2, .int .i64 q3, .slice xo qm xc] 40)) = wBa at *
        rintro e wC ⟨yo, yc, rfl, oY, gC⟩
        have gCa : wBa.grownBy (wC.alloc (.cells #[.int .i64 q0, .int .i64 q1, .int .i64 q2, .int .i64 q3, .slice yo qm yc] 40)) none := grown_alloc gC _
        have XC := hide (grown_trans (unhide XB) gCa)
        have RTC := hide ((unhide RTB).grown gCa)
        have RXC := hide ((unhide RXB).grown gCa)
        have RYC := hide ((own_rdC oY).grown (World.grownBy_alloc wC (.cells #[.int .i64 q0, .int .i64 q1, .int .i64 q2, .int .i64 q3, .slice yo qm yc] 40) none))
        have hxc := (gCa.block wB.heap.size hxl (by simp)).trans (unhide HXB)
        have kx := frameCells5 hxc
        have HXC := hide hxc
        have hxl2 : wB.heap.size < (wC.alloc (.cells #[.int .i64 q0, .int .i64 q1, .int .i64 q2, .int .i64 q3, .slice yo qm yc] 40)).heap.size := by have := gCa.size; omega
        clear gC gCa XB RTB RXB oY hxc HXB hxl
        cases ok
        · go_wp2_with fail
          refine (sameFrame q0 q1 q2 q3 xo yo qm xc yc (compOf yt) _ (unhide RXC) (unhide RYC) (by omega)).mono ?_
          generalize (wC.alloc (.cells #[.int .i64 q0, .int .i64 q1, .int .i64 q2, .int .i64 q3, .slice yo qm yc] 40)) = wCa at *
          rintro e wD ⟨rfl, gD⟩
          have XD := grown_trans (unhide XC) gD
          go_wp2
          go_ret
          exact ⟨rfl, grown_below XD⟩
        · have HWR : Hid (writeF q0 q1 q2 q3 qm (compOf yt) = yt) := by
            rcases readF_cases (unhide HRY) with ⟨h, _⟩ | ⟨_, h, rfl, rfl, rfl, rfl, rfl⟩
            · exact absurd h (by simp)
            · exact frame_written_read h
          go_wp2_with fail
          refine (sameFrame q0 q1 q2 q3 xo yo qm xc yc (compOf yt) _ (unhide RXC) (unhide RYC) (by omega)).mono ?_
          generalize (wC.alloc (.cells #[.int .i64 q0, .int .i64 q1, .int .i64 q2, .int .i64 q3, .slice yo qm yc] 40)) = wCa at *
          rintro e wD ⟨rfl, gD⟩
          have XD := grown_trans (unhide XC) gD
          have RTD := hide ((unhide RTC).grown gD)
          have RXD := hide ((unhide RXC).grown gD)
          have kx := frameCells5 ((gD.block wB.heap.size hxl2 (by simp)).trans (unhide HXC))
          clear gD XC RTC RXC RYC HXC
          go_wp2_with fail
          refine (implWriteFrame q0 q1 q2 q3 xo qm xc (compOf yt) wD (unhide RXD) (by omega) yt HWR).mono ?_
          rintro e wE ⟨b5, c5, rfl, o5, gE⟩
          have XE := grown_trans XD gE
          have RTE := hide ((unhide RTD).grown gE)
          have RBE := hide (own_rd o5)
          clear gE XD RTD RXD o5 kx
          go_wp2_with fail
          refine (sameBytes b5 to yt.length c5 tc yt wE (unhide RBE) (unhide RTE) (by omega)).mono ?_
          rintro e wF ⟨rfl, gF⟩
          have XF := grown_trans XE gF
          go_wp2
          go_ret
          exact ⟨rfl, grown_below XF⟩
      · have hZe : Z = frameBs p0 wd0 ht0 rs0 m C m := by rw [← unhide HZ, writeF, unhide HT]; rfl
        have HRD : Hid (readF Z = (true, p0, wd0, ht0, rs0, m)) := by unfold Hid; rw [hZe]; exact frame_read_written (unhide HT)
        have HCO : Hid (∀ i, i < m → ∀ j, j < 4 → compOf Z i j = C i j) := fun i hi j hj => by rw [hZe]; exact comp_back (fun k hk => (frameB_facts (unhide HT)).2.2 k hk) i hi j hj
        clear hZe
        go_wp2_with fail
        refine (implReadFrame b3 Z.length c3 Z w6 (unhide RB6) (by omega) (unhide HCB) (mem_getD (unhide HZB)) true p0 wd0 ht0 rs0 m HRD).mono ?_
        rintro e w7 ⟨xo, xc, rfl, oX, g7⟩
        have g8 : w6.grownBy (w7.alloc (.cells #[.int .i64 p0, .int .i64 wd0, .int .i64 ht0, .int .i64 rs0, .slice xo m xc] 40)) none := grown_alloc g7 _
        have X8 := hide (grown_trans X6 g8)
        have R8 := hide ((unhide R6).grown g8)
        have RX8 := hide (((own_rdC oX).four (unhide HCO)).grown (World.grownBy_alloc w7 (.cells #[.int .i64 p0, .int .i64 wd0, .int .i64 ht0, .int .i64 rs0, .slice xo m xc] 40) none))
        have Y8 := grown_trans Y6 g8
        have kf := frameCells5 ((Y8.block w1.heap.size hfl (by simp)).trans (unhide HF2))
        clear oX g7 g8 X6 R6 RB6 Y6 Y8
        go_wp2_with fail
        refine (sameFrame p0 wd0 ht0 rs0 xo vo m xc vc C _ (unhide RX8) (unhide R8) (by omega)).mono ?_
        generalize (w7.alloc (.cells #[.int .i64 p0, .int .i64 wd0, .int .i64 ht0, .int .i64 rs0, .slice xo m xc] 40)) = w8 at *
        rintro e w9 ⟨rfl, g9⟩
        have X9 := grown_trans (unhide X8) g9
        clear g9 X8 RX8 R8 kf
        go_wp2_with fail
        refine (drawReadFrame bo nb capb ys w9 ((unhide HR2).grown X9) (unhide HB2) hbig2).mono ?_
        rintro e wA ⟨yt, tc, to, rfl, htl, htb, RT, hTC, gA⟩
        have XA := grown_trans X9 gA
        have RTA := hide RT
        have HTB := hide (mem_getD htb)
        clear gA RT htb X9
        obtain ⟨ok, q0, q1, q2, q3, qm, HRY⟩ : ∃ ok q0 q1 q2 q3 qm, Hid (readF yt = (ok, q0, q1, q2, q3, qm)) := ⟨_, _, _, _, _, _, rfl⟩
        have hqm : qm ≤ 255 := by
          have h4 := unhide HTB 4
          rcases readF_cases (unhide HRY) with ⟨_, _, _, _, _, _, h⟩ | ⟨_, _, _, _, _, _, h⟩ <;> omega
        go_wp2_with fail
        refine (implReadFrame to yt.length tc yt wA (unhide RTA) (by omega) hTC (unhide HTB) ok q0 q1 q2 q3 qm HRY).mono ?_
        rintro e wB ⟨xo, xc, rfl, oX, gB⟩
        have gBa : wA.grownBy (wB.alloc (.cells #[.int .i64 q0, .int .i64 q1, .int .i64 q2, .int .i64 q3, .slice xo qm xc] 40)) none := grown_alloc gB _
        have XB := hide (grown_trans XA gBa)
        have RTB := hide ((unhide RTA).grown gBa)
        have RXB := hide ((own_rdC oX).grown (World.grownBy_alloc wB (.cells #[.int .i64 q0, .int .i64 q1, .int .i64 q2, .int .i64 q3, .slice xo qm xc] 40) none))
        have HXB := hide (heap_alloc_new wB (.cells #[.int .i64 q0, .int .i64 q1, .int .i64 q2, .int .i64 q3, .slice xo qm xc] 40))
        have hxl : wB.heap.size < (wB.alloc (.cells #[.int .i64 q0, .int .i64 q1, .int .i64 q2, .int .i64 q3, .slice xo qm xc] 40)).heap.size := by simp
        clear gB gBa XA RTA oX
        go_wp2_with fail
        refine (specReadFrame to yt.length tc yt _ (unhide RTB) (by omega) (unhide HTB) ok q0 q1 q2 q3 qm HRY).mono ?_
        generalize (wB.alloc (.cells #[.int .i64 q0, .int .i64 q1, .int .i64 q2, .int .i64 q3, .slice xo qm xc] 40)) = wBa at *
        rintro e wC ⟨yo, yc, rfl, oY, gC⟩
        have gCa : wBa.grownBy (wC.alloc (.cells #[.int .i64 q0, .int .i64 q1, .int .i64 q2, .int .i64 q3, .slice yo qm yc] 40)) none := grown_alloc gC _
        have XC := hide (grown_trans (unhide XB) gCa)
        have RTC := hide ((unhide RTB).grown gCa)
        have RXC := hide ((unhide RXB).grown gCa)
        have RYC := hide ((own_rdC oY).grown (World.grownBy_alloc wC (.cells #[.int .i64 q0, .int .i64 q1, .int .i64 q2, .int .i64 q3, .slice yo qm yc] 40) none))
        have hxc := (gCa.block wB.heap.size hxl (by simp)).trans (unhide HXB)
        have kx := frameCells5 hxc
        have HXC := hide hxc
        have hxl2 : wB.heap.size < (wC.alloc (.cells #[.int .i64 q0, .int .i64 q1, .int .i64 q2, .int .i64 q3, .slice yo qm yc] 40)).heap.size := by have := gCa.size; omega
        clear gC gCa XB RTB RXB oY hxc HXB hxl
        cases ok
        · go_wp2_with fail
          refine (sameFrame q0 q1 q2 q3 xo yo qm xc yc (compOf yt) _ (unhide RXC) (unhide RYC) (by omega)).mono ?_
          generalize (wC.alloc (.cells #[.int .i64 q0, .int .i64 q1, .int .i64 q2, .int .i64 q3, .slice yo qm yc] 40)) = wCa at *
          rintro e wD ⟨rfl, gD⟩
          have XD := grown_trans (unhide XC) gD
          go_wp2
          go_ret
          exact ⟨rfl, grown_below XD⟩
        · have HWR : Hid (writeF q0 q1 q2 q3 qm (compOf yt) = yt) := by
            rcases readF_cases (unhide HRY) with ⟨h, _⟩ | ⟨_, h, rfl, rfl, rfl, rfl, rfl⟩
            · exact absurd h (by simp)
            · exact frame_written_read h
          go_wp2_with fail
          refine (sameFrame q0 q1 q2 q3 xo yo qm xc yc (compOf yt) _ (unhide RXC) (unhide RYC) (by omega)).mono ?_
          generalize (wC.alloc (.cells #[.int .i64 q0, .int .i64 q1, .int .i64 q2, .int .i64 q3, .slice yo qm yc] 40)) = wCa at *
          rintro e wD ⟨rfl, gD⟩
          have XD := grown_trans (unhide XC) gD
          have RTD := hide ((unhide RTC).grown gD)
          have RXD := hide ((unhide RXC).grown gD)
          have kx := frameCells5 ((gD.block wB.heap.size hxl2 (by simp)).trans (unhide HXC))
          clear gD XC RTC RXC RYC HXC
          go_wp2_with fail
          refine (implWriteFrame q0 q1 q2 q3 xo qm xc (compOf yt) wD (unhide RXD) (by omega) yt HWR).mono ?_
          rintro e wE ⟨b5, c5, rfl, o5, gE⟩
          have XE := grown_trans XD gE
          have RTE := hide ((unhide RTD).grown gE)
          have RBE := hide (own_rd o5)
          clear gE XD RTD RXD o5 kx
          go_wp2_with fail
          refine (sameBytes b5 to yt.length c5 tc yt wE (unhide RBE) (unhide RTE) (by omega)).mono ?_
          rintro e wF ⟨rfl, gF⟩
          have XF := grown_trans XE gF
          go_wp2
          go_ret
          exact ⟨rfl, grown_below XF⟩
    · have HT2 : Hid (decide ((1048576 : Int) < (nb : Int)) = true) := decide_eq_true (by omega)
      go_enter Try.func5, Try.ntmps5
      go_wp2_with fail
      refine (lawBig ao n cap _ w HT1).mono ?_
      rintro e wz ⟨rfl, rfl⟩
      go_wp2_with fail
      refine (lawBig bo nb capb _ w HT2).mono ?_
      rintro e wz ⟨rfl, rfl⟩
      go_wp2
      go_ret
      exact ⟨rfl, grown_below (World.grownBy.refl _ _)⟩
  · have HT1 : Hid (decide ((1048576 : Int) < (n : Int)) = true) := decide_eq_true (by omega)
    go_enter Try.func5, Try.ntmps5
    go_wp2_with fail
    refine (lawBig ao n cap _ w HT1).mono ?_
    rintro e wz ⟨rfl, rfl⟩
    go_wp2
    go_ret
    exact ⟨rfl, grown_below (World.grownBy.refl _ _)⟩

end Go.Proofs.Ytdopiekdoaimkaa
