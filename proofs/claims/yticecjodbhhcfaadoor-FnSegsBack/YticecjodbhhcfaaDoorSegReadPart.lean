/-
  The walk of the program's reader of segments: a part.
-/
import Derived.Test.YticecjodbhhcfaaDoorSegReadImpl2
import Derived.Test.YticecjodbhhcfaaDoorQuietLast
namespace Go.Proofs.YticecjodbhhcfaaDoor
open Go.RowKit

section
variable (w0 w : World) (R lo : Nat) (bo : Option Addr) (n cap k : Nat) (last : Int) (sv : Value) (ss : List (Int × List Int))

set_option maxHeartbeats 6400000 in
theorem implPart (zs : List Int) (r : Nx) (h : St w0 w R lo bo n cap k last sv ss) (hr : Rd .u8 w0 bo n zs) (hby : ∀ i, 0 ≤ zs.getD i 0 ∧ zs.getD i 0 ≤ 255) (hn : n ≤ 60000) (hcap : n ≤ cap) (hk : k + 1 < n) (hss : ss.length ≤ 300)
    (hres : Hid (nextPart zs k = r)) :
    Calls Tryd.prog 40 #[.pointer (some ⟨R, 0, none⟩)] w fun e w' => rdPost w0 w R lo bo n cap last ss r e w' := by
  obtain ⟨c0, c1, c2, c3⟩ := h.cells
  have HH := hide h
  have HR := hide (hr.grown h.grown)
  have hl := hr.1
  have hres' := unhide hres
  unfold nextPart at hres'
  rw [hl] at hres'
  obtain ⟨b, off, rfl, _⟩ := (hr.grown h.grown).2 k (by omega)
  have at' : ∀ i, i < n → w.cell? ⟨b, off + i, none⟩ = some (.int .u8 (zs.getD i 0)) := by
    intro i hi
    obtain ⟨b', off', e', hcb⟩ := (hr.grown h.grown).2 i hi
    simp only [Option.some.injEq, Addr.mk.injEq] at e'
    rw [e'.1, e'.2.1]
    exact hcb
  clear h hr hres
  by_cases h4 : n < k + 4
  · rw [if_pos h4] at hres'
    subst hres'
    have hd4 : decide ((n : Int) < (k : Int) + 4) = true := decide_eq_true (by omega)
    clear at' hby
    go_enter Tryd.func40, Tryd.ntmps40
    go_wp2_with fail
    refine (implCut w0 w R lo _ n cap k last sv ss (unhide HH)).mono ?_
    rintro e w1 ⟨rfl, rfl⟩
    go_wp2
    go_ret
    exact ⟨rfl, Fr.refl _ _ _⟩
  · rw [if_neg h4] at hres'
    have hd4 : decide ((n : Int) < (k : Int) + 4) = false := decide_eq_false (by omega)
    have g1 := at' (k + 1) (by omega)
    have g2 := at' (k + 2) (by omega)
    have g3 := at' (k + 3) (by omega)
    have y1 := hby (k + 1)
    have y2 := hby (k + 2)
    have y3 := hby (k + 3)
    have h4a : k + 2 < n := by omega
    have h4b : k + 3 < n := by omega
    have hcnt : 256 * zs.getD (k + 2) 0 + zs.getD (k + 3) 0 = (cnt2 zs k : Int) := by unfold cnt2; omega
    have hor := or_bytes _ _ y2 y3
    rw [hcnt] at hor
    have hcc : cnt2 zs k ≤ 65535 := by omega
    clear at' hby
    generalize zs.getD (k + 1) 0 = x1 at *
    generalize zs.getD (k + 2) 0 = x2 at *
    generalize zs.getD (k + 3) 0 = x3 at *
    generalize hcn : cnt2 zs k = c at *
    clear hcnt hcn
    go_enter Tryd.func40, Tryd.ntmps40
    go_wp2
    go_quiet (fail)
    have gq := grown_drewN (World.grownBy.refl w none) nq
    have hSq := (unhide HH).more gq
    have HRQ := hide ((unhide HR).grown gq)
    obtain ⟨d0, d1, d2, d3⟩ := hSq.cells
    have k1 := gq.cell g1 (by simp)
    have HSQ := hide hSq
    clear c0 c1 c2 c3 hSq g1 g2 g3
    have hFq := (unhide HH).fr gq
    clear gq
    generalize w.drewN nq = wq at *
    by_cases h5 : 20000 < c
    · rw [if_pos h5] at hres'
      subst hres'
      have hd5 : decide ((20000 : Int) < (c : Int)) = true := decide_eq_true (by omega)
      go_wp2_with fail
      refine (implFault 5 k _).mono ?_
      rintro e w1 ⟨rfl, rfl⟩
      go_wp2
      go_ret
      exact ⟨rfl, hFq⟩
    · rw [if_neg h5] at hres'
      have hd5 : decide ((20000 : Int) < (c : Int)) = false := decide_eq_false (by omega)
      by_cases h6 : n < k + 4 + c
      · rw [if_pos h6] at hres'
        subst hres'
        have hd6 : decide ((n : Int) < (k : Int) + 4 + (c : Int)) = true := decide_eq_true (by omega)
        go_wp2_with fail
        refine (implCut w0 wq R lo _ n cap k last sv ss (unhide HSQ)).mono ?_
        rintro e w1 ⟨rfl, rfl⟩
        go_wp2
        go_ret
        exact ⟨rfl, hFq⟩
      · rw [if_neg h6] at hres'
        subst hres'
        have hd6 : decide ((n : Int) < (k : Int) + 4 + (c : Int)) = false := decide_eq_false (by omega)
        have HRA := hide (rd_sub (unhide HRQ) (k + 4) c (by omega) b off rfl)
        have HR0 : Hid (cap = k + 4 → Rd .u8 wq (some ⟨b, off, none⟩) c ((zs.drop (k + 4)).take c)) := fun h => ⟨(unhide HRA).1, fun i hi => absurd hi (by omega)⟩
        have ec : k + 4 + c - (k + 4) = c := by omega
        have HEC := hide ec
        have hdl : ((zs.drop (k + 4)).take c).length = c := (unhide HRA).1
        have HDL := hide hdl
        obtain ⟨nx, hnx⟩ : ∃ nx : Nat, k + 4 + c = nx := ⟨_, rfl⟩
        have hnx' : (k : Int) + 4 + (c : Int) = (nx : Int) := by omega
        have HNX := hide hnx
        have HNW : Hid (wrap64 (nx : Int) = (nx : Int)) := IntWalk.wrap64_in _ (by omega)
        have HEC2 : Hid (nx - (k + 4) = c) := by unfold Hid; omega
        clear ec hdl
        have hcap7 : cap = k + 4 ∨ ¬ cap = k + 4 := by omega
        rcases hcap7 with h7 | h7
        all_goals
          go_wp2_with (at_builtin; refine append_rd rfl _ _ rfl wq.heap.size (.slice none 0 0) 0 [] rfl (World.ownsRow_nil _ _ _ _) _ _ _ ((zs.drop (k + 4)).take c) rfl ?rd ?nil ?bb ?base ?_)
          case rd => first | exact unhide HRA | (rw [unhide HEC2]; exact unhide HRA) | exact unhide HR0 h7 | (rw [unhide HEC2]; exact unhide HR0 h7)
          case nil => intro h; cases h
          case bb => omega
          case base => exact Nat.le_refl _
          intro v3 w3 hown3 hgrow3
          have hgA : wq.grownBy w3 none := hgrow3
          have hS3 := (unhide HSQ).more hgA
          have kk := hgA.cell k1 (by simp)
          have hown4 : w3.ownsRow wq.heap.size 5 1 v3 ((zs.drop (k + 4)).take c).length (((zs.drop (k + 4)).take c).map (Value.int .u8)) := own_as hown3 (by rw [unhide HDL]; omega) (by simp)
          obtain ⟨b3, bc3, rfl⟩ := own_form hown4
          obtain ⟨e0, e1, e2, e3⟩ := hS3.cells
          have HO4 := hide hown4
          have HGA := hide hgA
          clear hown3 hgrow3 hown4 hgA d0 d1 d2 d3 k1 hS3
          generalize hdat : (zs.drop (k + 4)).take c = dat at *
          have HDAT := hide hdat
          clear hdat
          generalize hdn : dat.length = dn at *
          have h1n : (k : Int) + 1 < (n : Int) := by omega
          have h1p : (0 : Int) ≤ (k : Int) + 1 := by omega
          have h1w : IntKind.i64.wrap ((k : Int) + 1) = (k : Int) + 1 := i64_in _ (by omega)
          clear HRQ HRA HR0 HEC HDL HEC2 HR HH e2 e3 h7 hn hcap hl h4 hd4 h4a h4b y2 y3 hcc hor h5 hd5 h6 hd6
          go_wp2
          refine wp_region_last 20 _ (by kernel_rfl) rfl rfl (by kernel_rfl) ?_
          dsimp only [List.dropLast]
          repeat (go_big_quiet_step (fail))
          refine wpQuiet_nil ?_
          intro nq2
          clear h1n h1p h1w kk e0 e1 hk hnx'
          have HGD2 := hide (grown_drewN (unhide HGA) nq2)
          go_wp2_with fail
          rw [unhide HNW]
          refine (implTake w0 _ R lo _ n cap k last sv ss wq x1 _ dat nx (unhide HSQ) (unhide HGD2) hss (by rw [hdn]; exact own_drewN (unhide HO4) nq2)).mono ?_
          rintro e w4 ⟨rfl, sv', hst, hfr⟩
          go_wp2
          go_ret
          refine ⟨rfl, sv', ?_, ?_⟩
          · rw [unhide HNX, unhide HDAT]; exact hst
          · exact (hFq.trans ((unhide HSQ).fr (unhide HGD2))).trans hfr
end

end Go.Proofs.YticecjodbhhcfaaDoor
