/-
  The walk of the law on ReadFrame.
-/
import Derived.Test.YticecjodbhhcfaiFrameRead3
import Derived.Test.YticecjodbhhcfaiFrameMarks
namespace Go.Proofs.Yticecjodbhhcfai
open Go.RowKit

theorem readF_small {zs : List Int} {ok : Bool} {p wd ht rs : Int} {m : Nat} (h : readF zs = (ok, p, wd, ht, rs, m)) : m ≤ 4 := by
  rcases readF_cases h with ⟨_, _, _, _, _, _, rfl⟩ | ⟨_, h2, _, _, _, _, rfl⟩
  · omega
  · exact (read_comp_small h2).1

set_option maxHeartbeats 6400000 in
theorem lawReadFrame (ao : Option Addr) (n cap : Nat) (zs : List Int) (w : World) (hr : Rd .u8 w ao n zs) (hm0 : n ≤ maxLen) (hby : ∀ i, 0 ≤ zs.getD i 0 ∧ zs.getD i 0 ≤ 255) :
    Calls Try.prog 4 #[.slice ao n cap] w fun e w' => e = .returned (.bool true) ∧ Below w.heap.size w w' := by
  unfold maxLen at hm0
  by_cases hbig : n ≤ 1048576
  · have hdec : decide ((1048576 : Int) < (n : Int)) = false := decide_eq_false (by omega)
    have hn : n ≤ 4194304 := by omega
    obtain ⟨⟨ok, p, wd, ht, rs, m⟩, hF⟩ : ∃ r, readF zs = r := ⟨_, rfl⟩
    have hm4 := readF_small hF
    have HF := hide hF
    have HR := hide hr
    have HBY := hide hby
    clear hF hr hby
    have hm : m ≤ 4194304 := by omega
    have hne : (ok != ok) = false := by simp
    have hpn : decide ((1 : Int) + (n : Int) < 0) = false := decide_eq_false (by omega)
    have hqn : decide ((1 : Int) + 4 * (m : Int) < 0) = false := decide_eq_false (by omega)
    have hqq : ((1 : Int) + 4 * (m : Int) != 1 + 4 * (m : Int)) = false := by simp
    go_enter Try.func4, Try.ntmps4
    go_wp2_with fail
    refine (toByteS ao n cap zs w (unhide HR) hn).mono ?_
    rintro e w1 ⟨rfl, o1, g1⟩
    have X1 := g1
    clear g1
    go_wp2_with fail
    refine (specReadFrame _ n n zs w1 (own_rd o1) hn (unhide HBY) ok p wd ht rs m HF).mono ?_
    rintro e w2 ⟨wo, wc, rfl, oW, g2⟩
    have X2 := grown_trans X1 g2
    have hzz := X2.size
    have BW : Hid (∀ g, (Value.slice wo m wc).ownBlock = some g → g < w2.heap.size) := fun g e => (oW.lt g e).2
    have OW2 := hide (own_grown oW (grown_alloc (World.grownBy.refl w2 none) (.cells #[.int .i64 p, .int .i64 wd, .int .i64 ht, .int .i64 rs, .slice wo m wc] 30)))
    have HBW := hide (heap_alloc_new w2 (.cells #[.int .i64 p, .int .i64 wd, .int .i64 ht, .int .i64 rs, .slice wo m wc] 30))
    have X2a : Hid (w.grownBy (w2.alloc (.cells #[.int .i64 p, .int .i64 wd, .int .i64 ht, .int .i64 rs, .slice wo m wc] 30)) none) := grown_alloc X2 _
    have hzw : w2.heap.size < (w2.alloc (.cells #[.int .i64 p, .int .i64 wd, .int .i64 ht, .int .i64 rs, .slice wo m wc] 30)).heap.size := by simp
    clear o1 g2 X1 oW
    go_wp2_with fail
    refine (toByteS ao n cap zs _ ((unhide HR).grown (unhide X2a)) hn).mono ?_
    generalize (w2.alloc (.cells #[.int .i64 p, .int .i64 wd, .int .i64 ht, .int .i64 rs, .slice wo m wc] 30)) = w2a at *
    rintro e w3 ⟨rfl, oX, g3⟩
    have X3 := grown_trans (unhide X2a) g3
    have OW3 := hide (own_grown (unhide OW2) g3)
    have HBW3 := hide ((g3.block w2.heap.size hzw (by simp)).trans (unhide HBW))
    have OX3 := hide oX
    have hz3 := g3.size
    have hx3 : w2a.heap.size < w3.heap.size := (oX.lt _ rfl).2
    clear g3 X2 X2a OW2 HBW oX
    go_wp2_with fail
    refine (implReadFrame _ n n zs w3 (own_rd (unhide OX3)) hn (Nat.le_refl _) (unhide HBY) ok p wd ht rs m HF).mono ?_
    rintro e w4 ⟨go, gc, rfl, oG, g4⟩
    have X4 := grown_trans X3 g4
    have BG : Hid (∀ g, (Value.slice go m gc).ownBlock = some g → w3.heap.size ≤ g ∧ g < w4.heap.size) := fun g e => oG.lt g e
    have g4a := grown_trans g4 (grown_alloc (World.grownBy.refl w4 none) (.cells #[.int .i64 p, .int .i64 wd, .int .i64 ht, .int .i64 rs, .slice go m gc] 30))
    have OW4 := hide (own_grown (unhide OW3) g4a)
    have OX4 := hide (own_grown (unhide OX3) g4a)
    have OG4 := hide (own_grown oG (grown_alloc (World.grownBy.refl w4 none) (.cells #[.int .i64 p, .int .i64 wd, .int .i64 ht, .int .i64 rs, .slice go m gc] 30)))
    have HBG := hide (heap_alloc_new w4 (.cells #[.int .i64 p, .int .i64 wd, .int .i64 ht, .int .i64 rs, .slice go m gc] 30))
    have HBW4 := hide ((g4a.block w2.heap.size (by omega) (by simp)).trans (unhide HBW3))
    have cw := frameCells (unhide HBW4)
    have X4a : Hid (w.grownBy (w4.alloc (.cells #[.int .i64 p, .int .i64 wd, .int .i64 ht, .int .i64 rs, .slice go m gc] 30)) none) := grown_alloc X4 _
    have hzg : w4.heap.size < (w4.alloc (.cells #[.int .i64 p, .int .i64 wd, .int .i64 ht, .int .i64 rs, .slice go m gc] 30)).heap.size := by simp
    have hz4 := g4.size
    clear g4 g4a X3 OW3 OX3 oG HBW3
    go_wp2_with fail
    refine (eqFrame p wd ht rs _ _ m gc wc (compOf zs) _ (own_rdC (unhide OG4)) (own_rdC (unhide OW4)) hm).mono ?_
    generalize (w4.alloc (.cells #[.int .i64 p, .int .i64 wd, .int .i64 ht, .int .i64 rs, .slice go m gc] 30)) = w4a at *
    rintro e w5 ⟨rfl, g5⟩
    have X5 := grown_trans (unhide X4a) g5
    have OW5 := hide (own_grown (unhide OW4) g5)
    have OX5 := hide (own_grown (unhide OX4) g5)
    have OG5 := hide (own_grown (unhide OG4) g5)
    have HBW5 := hide ((g5.block w2.heap.size (by omega) (by simp)).trans (unhide HBW4))
    have HBG5 := hide ((g5.block w4.heap.size hzg (by simp)).trans (unhide HBG))
    have hz5 := g5.size
    clear g5 X4 X4a OW4 OX4 OG4 HBW4 HBG cw
    go_wp2_with fail
    refine (toByteS ao n cap zs w5 ((unhide HR).grown X5) hn).mono ?_
    rintro e w6 ⟨rfl, oT, g6⟩
    have X6 := grown_trans X5 g6
    have OW6 := hide (own_grown (unhide OW5) g6)
    have OX6 := hide (own_grown (unhide OX5) g6)
    have OG6 := hide (own_grown (unhide OG5) g6)
    have HBW6 := hide ((g6.block w2.heap.size (by omega) (by simp)).trans (unhide HBW5))
    have HBG6 := hide ((g6.block w4.heap.size (by omega) (by simp)).trans (unhide HBG5))
    have OT6 := hide oT
    have hz6 := g6.size
    clear g6 X5 OW5 OX5 OG5 HBW5 HBG5 oT
    go_wp2_with fail
    refine (eqByteS _ _ _ _ _ zs w6 (own_rd (unhide OX6)) (own_rd (unhide OT6)) hn).mono ?_
    rintro e w7 ⟨rfl, g7⟩
    have X7 := grown_trans X6 g7
    have OW7 := hide (own_grown (unhide OW6) g7)
    have OX7 := hide (own_grown (unhide OX6) g7)
    have OG7 := hide (own_grown (unhide OG6) g7)
    have HBW7 := hide ((g7.block w2.heap.size (by omega) (by simp)).trans (unhide HBW6))
    have HBG7 := hide ((g7.block w4.heap.size (by omega) (by simp)).trans (unhide HBG6))
    have hz7 := g7.size
    clear g7 X6 OW6 OX6 OG6 HBW6 HBG6 OT6
    go_wp2_with fail
    refine (markByteS _ n _ _ _ 1 w7 (unhide OX7) hn (by omega) (by omega)).mono ?_
    rintro e w8 ⟨rfl, _, g8⟩
    have g8' : w7.grownBy w8 (some w2a.heap.size) := g8
    have X8 := grown_new X7 g8' (fun g e => by simp at e; omega)
    have OW8 := hide (own_beneath (unhide OW7) g8' (fun g g' h h' => by have := unhide BW g h; simp at h'; omega))
    have OG8 := hide (own_beneath (unhide OG7) g8' (fun g g' h h' => by have := unhide BG g h; simp at h'; omega))
    have HBW8 := hide ((g8'.block w2.heap.size (by omega) (by simp; omega)).trans (unhide HBW7))
    have HBG8 := hide ((g8'.block w4.heap.size (by omega) (by simp; omega)).trans (unhide HBG7))
    have cw := frameCells (unhide HBW8)
    have cg := frameCells (unhide HBG8)
    have hz8 := g8'.size
    clear g8 g8' X7 OW7 OX7 OG7 HBW7 HBG7
    generalize (1 : Int) + (n : Int) = pk at *
    go_wp2_with fail
    refine (eqFrame p wd ht rs _ _ m gc wc (compOf zs) _ (own_rdC (unhide OG8)) (own_rdC (unhide OW8)) hm).mono ?_
    rintro e w9 ⟨rfl, g9⟩
    have X9 := grown_trans X8 g9
    have OW9 := hide (own_grown (unhide OW8) g9)
    have OG9 := hide (own_grown (unhide OG8) g9)
    have HBW9 := hide ((g9.block w2.heap.size (by omega) (by simp)).trans (unhide HBW8))
    have HBG9 := hide ((g9.block w4.heap.size (by omega) (by simp)).trans (unhide HBG8))
    have cg9 := frameCells (unhide HBG9)
    have hz9 := g9.size
    clear g9 X8 OW8 OG8 HBW8 HBG8 cw cg
    go_wp2_with fail
    refine (markFrame p wd ht rs _ m _ _ (compOf zs) 1 w9 (unhide OG9) hm (by omega) (by omega)).mono ?_
    rintro e wa ⟨rfl, oGa, ga⟩
    have Xa := grown_new X9 ga (fun g e => by have := unhide BG g e; omega)
    have OWa := hide (own_beneath (unhide OW9) ga (fun g g' h h' => by have := unhide BW g h; have := unhide BG g' h'; omega))
    have OGa := hide oGa
    have HBWa := hide ((ga.block w2.heap.size (by omega) (fun e => by have := unhide BG _ e.symm; omega)).trans (unhide HBW9))
    have HBGa := hide ((ga.block w4.heap.size (by omega) (fun e => by have := unhide BG _ e.symm; omega)).trans (unhide HBG9))
    have cga := frameCells (unhide HBGa)
    have hza := ga.size
    clear ga X9 OW9 OG9 HBW9 HBG9 cg9 oGa
    go_wp2_with fail
    refine (heldFrame p wd ht rs _ m _ 1 wa (own_rdC (unhide OGa)) hm (by omega) (by omega)).mono ?_
    rintro e wb ⟨rfl, gb⟩
    have Xb := grown_trans Xa gb
    have OWb := hide (own_grown (unhide OWa) gb)
    have OGb := hide (own_grown (unhide OGa) gb)
    have HBWb := hide ((gb.block w2.heap.size (by omega) (by simp)).trans (unhide HBWa))
    have HBGb := hide ((gb.block w4.heap.size (by omega) (by simp)).trans (unhide HBGa))
    have hzb := gb.size
    clear gb Xa OWa OGa HBWa HBGa cga
    obtain ⟨qk, hqk0⟩ : ∃ qk, (1 : Int) + 4 * (m : Int) = qk := ⟨_, rfl⟩
    rw [hqk0] at hqn hqq ⊢
    have QK := hide hqk0
    clear hqk0
    go_wp2_with fail
    refine (toByteS ao n cap zs wb ((unhide HR).grown Xb) hn).mono ?_
    rintro e wc2 ⟨rfl, oc, gc2⟩
    have Xc := grown_trans Xb gc2
    have OWc := hide (own_grown (unhide OWb) gc2)
    have OGc := hide (own_grown (unhide OGb) gc2)
    have HBWc := hide ((gc2.block w2.heap.size (by omega) (by simp)).trans (unhide HBWb))
    have HBGc := hide ((gc2.block w4.heap.size (by omega) (by simp)).trans (unhide HBGb))
    have Oc := hide oc
    have hzc := gc2.size
    clear gc2 Xb OWb OGb HBWb HBGb oc
    go_wp2_with fail
    refine (implReadFrame _ n n zs wc2 (own_rd (unhide Oc)) hn (Nat.le_refl _) (unhide HBY) ok p wd ht rs m HF).mono ?_
    rintro e wd3 ⟨ho, hc, rfl, oH, gd⟩
    have gda := grown_trans gd (grown_alloc (World.grownBy.refl wd3 none) (.cells #[.int .i64 p, .int .i64 wd, .int .i64 ht, .int .i64 rs, .slice ho m hc] 30))
    have Xd : Hid (w.grownBy (wd3.alloc (.cells #[.int .i64 p, .int .i64 wd, .int .i64 ht, .int .i64 rs, .slice ho m hc] 30)) none) := grown_trans Xc gda
    have OWd := hide (own_grown (unhide OWc) gda)
    have OGd := hide (own_grown (unhide OGc) gda)
    have OHd := hide (own_grown oH (grown_alloc (World.grownBy.refl wd3 none) (.cells #[.int .i64 p, .int .i64 wd, .int .i64 ht, .int .i64 rs, .slice ho m hc] 30)))
    have HBWd := hide ((gda.block w2.heap.size (by omega) (by simp)).trans (unhide HBWc))
    have HBGd := hide ((gda.block w4.heap.size (by omega) (by simp)).trans (unhide HBGc))
    have cwd := frameCells (unhide HBWd)
    have hzd := gda.size
    clear gd gda Xc OWc OGc HBWc HBGc oH Oc
    go_wp2_with fail
    refine (eqFrame p wd ht rs _ _ m hc wc (compOf zs) _ (own_rdC (unhide OHd)) (own_rdC (unhide OWd)) hm).mono ?_
    generalize (wd3.alloc (.cells #[.int .i64 p, .int .i64 wd, .int .i64 ht, .int .i64 rs, .slice ho m hc] 30)) = wda at *
    rintro e we ⟨rfl, ge⟩
    have Xe := grown_trans (unhide Xd) ge
    have OGe := hide (own_grown (unhide OGd) ge)
    have cge := frameCells ((ge.block w4.heap.size (by omega) (by simp)).trans (unhide HBGd))
    clear ge Xd OWd OGd OHd HBWd HBGd cwd
    go_wp2_with fail
    refine (heldFrame p wd ht rs _ m _ 1 we (own_rdC (unhide OGe)) hm (by omega) (by omega)).mono ?_
    rintro e wf ⟨rfl, gf⟩
    have Xf := grown_trans Xe gf
    rw [unhide QK]
    go_wp2
    go_ret
    exact ⟨rfl, grown_below Xf⟩
  · have hdec : decide ((1048576 : Int) < (n : Int)) = true := decide_eq_true (by omega)
    go_enter Try.func4, Try.ntmps4
    go_wp2
    go_ret
    exact ⟨rfl, grown_below (World.grownBy.refl _ _)⟩

end Go.Proofs.Yticecjodbhhcfai
