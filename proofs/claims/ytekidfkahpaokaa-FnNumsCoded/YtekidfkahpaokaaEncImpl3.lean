/-
  The bit coder of the program: a bit is put.
-/
import Derived.Test.YtekidfkahpaokaaEncImpl2
import Derived.Test.YtekidfkahpaokaaCoderPut
namespace Go.Proofs.Ytekidfkahpaokaa
open Go.RowKit

set_option maxRecDepth 20000 in
set_option maxHeartbeats 6400000 in
theorem implPut {B w : World} {ob : Nat} {u : Value} {P : List Nat} {s : En} (h : Ce B ob w u P s) (hok : OkE s) (c b : Nat) (hc : c < 400) (hb : b ≤ 1) (hp : okP (P.getD c 2048)) (hlen : s.out.length ≤ 900000) :
    Calls Try.prog 46 #[.pointer (some ⟨ob, 0, none⟩), .agg #[.int .i64 c, .int .i64 b]] w fun e w' => e = .returned (.tuple #[]) ∧ ∃ u', Ce B ob w' u' (P.set c (learnN (P.getD c 2048) b)) (putE s (P.getD c 2048) b) := by
  obtain ⟨m1, m2, m3, m4, m5, m6⟩ := mid_ok hok hp b
  have hwl := wide_lo hok hp b
  have hpb := part_bounds hok.lo hp
  have hrh := hok.hi
  have hlw := hok.low
  have hlayok : OkL (midE s (P.getD c 2048) b) := ⟨by omega, by rw [m6]; exact hok.bytes, by rw [m6]; have := hok.room; omega⟩
  have hobl : ob ≠ w.heap.size := by have := h.co.lt; omega
  have G0 : w.grownBy (w.alloc (.cells #[.int .i64 c, .int .i64 b] 30)) none := World.grownBy_alloc _ _ _
  have HB0 := hide (heap_alloc_new w (.cells #[.int .i64 c, .int .i64 b] 30))
  have HC0 := hide (h.drewN G0)
  have HPART : Hid (∀ (W : World) (st : En), st.rang = s.rang → Ce B ob W u P st → Calls Try.prog 63 #[.pointer (some ⟨ob, 0, none⟩), .int .i64 c] W fun e w' => e = .returned (.int .i64 ((s.rang / 4096 * P.getD c 2048 : Nat) : Int)) ∧ W.grownBy w' none) := fun W st hst hW => by
    have h1 := implPart hW.co c hc (by rw [hst]; exact hrh) hp
    rw [hst] at h1
    exact h1
  have HNAR : Hid (∀ (W : World) (st : En), st.rang = s.rang → Ce B ob W u P st → Calls Try.prog 64 #[.pointer (some ⟨ob, 0, none⟩), .agg #[.int .i64 c, .int .i64 b]] W fun e w' => e = .returned (.tuple #[]) ∧ Ce B ob w' u P ⟨st.low, if b = 0 then s.rang / 4096 * P.getD c 2048 else s.rang - s.rang / 4096 * P.getD c 2048, st.out⟩ ∧ W.grownBy w' (some ob)) := fun W st hst hW => by
    refine (implNarrow hW.co c b hc hb (by rw [hst]; exact hok.lo) (by rw [hst]; exact hrh) hp).mono ?_
    rintro e w' ⟨rfl, hco, g⟩
    rw [hst] at hco
    exact ⟨rfl, hW.turnC g hco, g⟩
  have HLRN : Hid (∀ (W : World) (st : En), Ce B ob W u P st → Calls Try.prog 65 #[.pointer (some ⟨ob, 0, none⟩), .agg #[.int .i64 c, .int .i64 b]] W fun e w' => e = .returned (.tuple #[]) ∧ Ce B ob w' u (P.set c (learnN (P.getD c 2048) b)) st) := fun W st hW => by
    refine (implLearn hW.co c b hc hb hp).mono ?_
    rintro e w' ⟨rfl, hco, g⟩
    exact ⟨rfl, hW.turnC g hco⟩
  obtain ⟨P2, HP2⟩ : ∃ P2, Hid (P.set c (learnN (P.getD c 2048) b) = P2) := ⟨_, rfl⟩
  rw [unhide HP2] at HLRN ⊢
  obtain ⟨pt, hpt⟩ : ∃ pt, s.rang / 4096 * P.getD c 2048 = pt := ⟨_, rfl⟩
  rw [hpt] at hpb HPART HNAR
  have hME : midE s (P.getD c 2048) b = if b = 0 then ⟨s.low, pt, s.out⟩ else ⟨s.low + pt, s.rang - pt, s.out⟩ := by unfold midE; rw [hpt]
  have HPE : Hid (putE s (P.getD c 2048) b = wideE (midE s (P.getD c 2048) b)) := rfl
  obtain ⟨t, HT⟩ : ∃ t, Hid (midE s (P.getD c 2048) b = t) := ⟨_, rfl⟩
  rw [unhide HT] at hME hwl m1 m2 m3 m6 HPE hlayok
  rw [unhide HPE]
  have HME := hide hME
  have HLAY := hide hlayok
  have HLEN : Hid (t.out.length ≤ 900000) := by unfold Hid; rw [m6]; exact hlen
  have HG0 := hide G0
  clear h hME hlayok m4 m5 m6 hok hp hpt HT HPE G0
  have HW2 : Hid (∀ W u', Ce B ob W u' P2 t → t.rang < 16777216 → Calls Try.prog 69 #[.pointer (some ⟨ob, 0, none⟩)] W fun e w' => e = .returned (.tuple #[]) ∧ ∃ u2, Ce B ob w' u2 P2 (layN t)) := fun W u' hW _ => implLay hW (unhide HLAY) (by have := unhide HLEN; omega)
  have hwide : t.rang < 16777216 → wideE t = ⟨(layN t).low, 256 * t.rang, (layN t).out⟩ := fun hh => by unfold wideE; rw [if_pos hh]
  have hwid2 : ¬ t.rang < 16777216 → wideE t = t := fun hh => by unfold wideE; rw [if_neg hh]
  have hlr : (layN t).rang = t.rang := rfl
  have HWI := hide hwide
  have HWJ := hide hwid2
  have HLR := hide hlr
  clear hwide hwid2 hlr
  rcases (show b = 0 ∨ b = 1 by omega) with rfl | rfl
  · have ht := unhide HME
    rw [if_pos rfl] at ht
    have HT2 : Hid (t = ⟨s.low, pt, s.out⟩) := ht
    clear ht HME
    have q0 : (w.alloc (.cells #[.int .i64 c, .int .i64 ((0 : Nat) : Int)] 30)).cell? ⟨w.heap.size, 1, none⟩ = some (.int .i64 0) := by rw [cell_of_row _ _ 1 _ _ (0, 0) (unhide HB0)]; rfl
    go_enter Try.func46, Try.ntmps46
    go_wp2
    clear q0
    have HNE : Hid (ob ≠ w.heap.size) := hobl
    clear hobl
    obtain ⟨W0, HW0⟩ : ∃ W0, Hid (w.alloc (.cells #[.int .i64 c, .int .i64 0] 30) = W0) := ⟨_, rfl⟩
    have HBX : Hid (W0.heap[w.heap.size]? = some (.cells #[.int .i64 c, .int .i64 0] 30 (0, 0))) := by unfold Hid; rw [← unhide HW0]; exact unhide HB0
    have HCE : Hid (Ce B ob W0 u P s) := by unfold Hid; rw [← unhide HW0]; exact unhide HC0
    rw [unhide HW0]
    clear HB0 HC0 HG0 HW0
    generalize w.heap.size = bb at *
    have k0 : W0.cell? ⟨bb, 0, none⟩ = some (.int .i64 (c : Int)) := by rw [cell_of_row W0 _ 0 _ _ (0, 0) (unhide HBX)]; rfl
    have k1 : W0.cell? ⟨bb, 1, none⟩ = some (.int .i64 0) := by rw [cell_of_row W0 _ 1 _ _ (0, 0) (unhide HBX)]; rfl
    refine wp_region_last 20 _ (by kernel_rfl) rfl rfl (by kernel_rfl) ?_
    dsimp only [List.dropLast]
    repeat (go_big_quiet_step (fail))
    refine wpQuiet_nil ?_
    intro nq
    have HCQ := hide ((unhide HCE).drewN (grown_drewN (World.grownBy.refl _ _) nq))
    go_wp2_with fail
    refine (unhide HNAR _ s rfl (unhide HCQ)).mono ?_
    rintro e w3 ⟨rfl, hw3, g3⟩
    have HC3 : Hid (Ce B ob w3 u P t) := by unfold Hid; rw [unhide HT2]; exact hw3
    have hbx3 := grown_atC g3 (unhide HBX) (fun e => unhide HNE (Option.some.inj e))
    have j0 : w3.cell? ⟨bb, 0, none⟩ = some (.int .i64 (c : Int)) := by rw [cell_of_row w3 _ 0 _ _ (0, 0) hbx3]; rfl
    have j1 : w3.cell? ⟨bb, 1, none⟩ = some (.int .i64 0) := by rw [cell_of_row w3 _ 1 _ _ (0, 0) hbx3]; rfl
    clear hw3 g3 hbx3 k0 k1 HCQ HCE HBX HNAR
    go_wp2
    refine wp_region_last 20 _ (by kernel_rfl) rfl rfl (by kernel_rfl) ?_
    dsimp only [List.dropLast]
    repeat (go_big_quiet_step (fail))
    refine wpQuiet_nil ?_
    intro nq2
    have HCQ := hide ((unhide HC3).drewN (grown_drewN (World.grownBy.refl _ _) nq2))
    go_wp2_with fail
    refine (unhide HLRN _ _ (unhide HCQ)).mono ?_
    rintro e w4 ⟨rfl, hw4⟩
    have HO3 : Hid (Ce B ob w4 u P2 (cond false (wideE t) t)) := hw4
    clear hw4 HCQ HC3 j0 j1 HLRN HPART
    go_wp2
    go_loopw [] (fun wr => ∃ (fl : Bool) (u' : Value), Hid (Ce B ob wr u' P2 (cond fl (wideE t) t))) (fun wr => match wr.cell? ⟨ob, 0, none⟩ with | some (.int _ x) => if x < 16777216 then 1 else 0 | _ => 0)
    case atStart => exact ⟨false, u, HO3⟩
    case round =>
      clear HO3
      obtain ⟨fl, u', hw⟩ := hrel
      cases fl with
      | false =>
        have HO4 : Hid (Ce B ob wr u' P2 t) := hw
        have r2 := (unhide HO4).cells.1
        by_cases hlt : t.rang < 16777216
        · have hd : decide ((t.rang : Int) < 16777216) = true := decide_eq_true (by omega)
          have e7 := i64_in ((t.rang : Int) * 256) (by omega)
          have HR2 := hide r2
          go_wp2_with fail
          refine (unhide HW2 wr u' (unhide HO4) hlt).mono ?_
          rintro e w5 ⟨rfl, u2, hw5⟩
          have r4 := hw5.cells.1
          rw [unhide HLR] at r4
          have f4 := hw5.co.fz 0
          have HO5 : Hid (Ce B ob (w5.setCell ⟨ob, 0, none⟩ (.int .i64 ((t.rang : Int) * 256))) u2 P2 (cond true (wideE t) t)) := by
            have h5 := hw5.setR (256 * t.rang)
            have e8 : ((256 * t.rang : Nat) : Int) = (t.rang : Int) * 256 := by omega
            rw [e8] at h5
            unfold Hid
            rw [cond_true, unhide HWI hlt]
            exact h5
          have r5 : (w5.setCell ⟨ob, 0, none⟩ (.int .i64 ((t.rang : Int) * 256))).cell? ⟨ob, 0, none⟩ = some (.int .i64 ((t.rang : Int) * 256)) := by
            have h6 := (unhide HO5).cells.1
            rw [cond_true, unhide HWI hlt] at h6
            dsimp only at h6
            rw [h6, show ((256 * t.rang : Nat) : Int) = (t.rang : Int) * 256 by omega]
          have HR5 := hide r5
          clear hw5 r5 r2 HO4 hw
          go_wp2
          go_roundw
          case rel => exact ⟨true, u2, HO5⟩
          case measure =>
            have h1 := unhide HR5
            have h2 := unhide HR2
            simp only [h1, h2]
            rw [if_pos (show (t.rang : Int) < 16777216 by omega), if_neg (show ¬ (t.rang : Int) * 256 < 16777216 by omega)]
            exact Nat.zero_lt_one
        · have hd : decide ((t.rang : Int) < 16777216) = false := decide_eq_false (by omega)
          have HF : Hid (Ce B ob wr u' P2 (wideE t)) := by unfold Hid; rw [unhide HWJ hlt]; exact unhide HO4
          clear hw HO4
          go_wp2
          exact bodyPost_end (v := .tuple #[]) (by simp [results, Try.results46, go_sem]) rfl ⟨rfl, u', unhide HF⟩
      | true =>
        have HF : Hid (Ce B ob wr u' P2 (wideE t)) := hw
        have r2 := (unhide HF).cells.1
        obtain ⟨t2, HX2⟩ : ∃ t2, Hid (wideE t = t2) := ⟨_, rfl⟩
        rw [unhide HX2] at r2 hwl
        have hd : decide ((t2.rang : Int) < 16777216) = false := decide_eq_false (by omega)
        clear hw
        go_wp2
        exact bodyPost_end (v := .tuple #[]) (by simp [results, Try.results46, go_sem]) rfl ⟨rfl, u', unhide HF⟩
  · have ht := unhide HME
    rw [if_neg (by omega)] at ht
    have HT2 : Hid (t = ⟨s.low + pt, s.rang - pt, s.out⟩) := ht
    clear ht HME
    have e5 := i64_in ((s.low : Int) + (pt : Int)) (by omega)
    have q0 : (w.alloc (.cells #[.int .i64 c, .int .i64 ((1 : Nat) : Int)] 30)).cell? ⟨w.heap.size, 1, none⟩ = some (.int .i64 1) := by rw [cell_of_row _ _ 1 _ _ (0, 0) (unhide HB0)]; rfl
    go_enter Try.func46, Try.ntmps46
    go_wp2
    clear q0
    have HNE : Hid (ob ≠ w.heap.size) := hobl
    clear hobl
    obtain ⟨W9, HW9⟩ : ∃ W9, Hid (w.alloc (.cells #[.int .i64 c, .int .i64 1] 30) = W9) := ⟨_, rfl⟩
    have HBX9 : Hid (W9.heap[w.heap.size]? = some (.cells #[.int .i64 c, .int .i64 1] 30 (0, 0))) := by unfold Hid; rw [← unhide HW9]; exact unhide HB0
    have HCE9 : Hid (Ce B ob W9 u P s) := by unfold Hid; rw [← unhide HW9]; exact unhide HC0
    rw [unhide HW9]
    clear HB0 HC0 HG0 HW9
    generalize w.heap.size = bb at *
    have a0 : W9.cell? ⟨bb, 0, none⟩ = some (.int .i64 (c : Int)) := by rw [cell_of_row W9 _ 0 _ _ (0, 0) (unhide HBX9)]; rfl
    have a1 := (unhide HCE9).cells.2.1
    refine wp_region_noPanic ?_
    refine wp_region_tailL 20 (fun w' => w'.cell? ⟨bb, 0, none⟩ = some (.int .i64 (c : Int)) ∧ w'.cell? ⟨ob, 401, none⟩ = some (.int .i64 (s.low : Int))) [true, true, true, true, true, true, true, true, true, false, false, false, false, false] (by kernel_rfl) (fun _ _ _ _ _ h => h) rfl (by decide) (by kernel_rfl) ⟨a0, a1⟩ ?_
    iterate 9
      refine heldF_take (v := ?_) (Or.inl ⟨by rfl, ?_⟩) ?_
      rotate_left 1
      · intro w' hSw
        try dsimp only at hSw
        obtain ⟨z0, z1⟩ := hSw
        go_simp
        try with_reducible rfl
      simp only [Act.put, List.setIfInBounds_toArray, List.set_cons_zero, List.set_cons_succ]
    iterate 5 refine heldF_skip ?_
    refine heldF_nil ?_
    iterate 9 refine tailL_skip ?_
    refine tailL_step (fun K hK => ?_)
    go_simp
    refine (unhide HPART _ s rfl ((unhide HCE9).drewN (grown_drew (World.grownBy.refl _ _)))).mono ?_
    rintro e w2 ⟨rfl, g2⟩
    have g2' := grown_trans (grown_drew (World.grownBy.refl W9 none)) g2
    have HBX2 := hide (grown_atC g2' (unhide HBX9) (by simp))
    have HCE2 := hide ((unhide HCE9).drewN g2')
    have d0 : w2.cell? ⟨bb, 0, none⟩ = some (.int .i64 (c : Int)) := by rw [cell_of_row w2 _ 0 _ _ (0, 0) (unhide HBX2)]; rfl
    have d1 := (unhide HCE2).cells.2.1
    have fd := (unhide HCE2).co.fz 401
    have D := hide (And.intro d0 d1)
    clear g2 g2' HBX9 HCE9 a0 a1
    go_simp
    refine hK.out _ _ (.inr (unhide D)) ?_
    clear hK K
    iterate 3
      refine tailL_step (fun K hK => ?_)
      go_simp
      refine hK.out _ _ (.inr (by first | exact unhide D | exact ⟨d0, d1⟩)) ?_
      clear hK K
    refine tailL_step (fun K hK => ?_)
    go_simp
    refine hK.out _ _ (.inl rfl) ?_
    clear hK K
    refine tailL_nil (NoPanic.normal ?_)
    have G3 := grown_set w2 ob 401 (.int .i64 ((s.low : Int) + (pt : Int)))
    obtain ⟨W0, HW0⟩ : ∃ W0, Hid (w2.setCell ⟨ob, 401, none⟩ (.int .i64 ((s.low : Int) + (pt : Int))) = W0) := ⟨_, rfl⟩
    have HBX : Hid (W0.heap[bb]? = some (.cells #[.int .i64 c, .int .i64 1] 30 (0, 0))) := by unfold Hid; rw [← unhide HW0]; exact grown_atC G3 (unhide HBX2) (fun e => unhide HNE (Option.some.inj e))
    have HCE : Hid (Ce B ob W0 u P ⟨s.low + pt, s.rang, s.out⟩) := by
      have h1 := (unhide HCE2).setL (s.low + pt)
      have e8 : ((s.low + pt : Nat) : Int) = (s.low : Int) + (pt : Int) := by omega
      rw [e8, unhide HW0] at h1
      exact h1
    rw [unhide HW0]
    clear HBX2 HCE2 HW0 G3 d0 d1 fd D
    go_wp2
    have k0 : W0.cell? ⟨bb, 0, none⟩ = some (.int .i64 (c : Int)) := by rw [cell_of_row W0 _ 0 _ _ (0, 0) (unhide HBX)]; rfl
    have k1 : W0.cell? ⟨bb, 1, none⟩ = some (.int .i64 1) := by rw [cell_of_row W0 _ 1 _ _ (0, 0) (unhide HBX)]; rfl
    refine wp_region_last 20 _ (by kernel_rfl) rfl rfl (by kernel_rfl) ?_
    dsimp only [List.dropLast]
    repeat (go_big_quiet_step (fail))
    refine wpQuiet_nil ?_
    intro nq
    have HCQ := hide ((unhide HCE).drewN (grown_drewN (World.grownBy.refl _ _) nq))
    go_wp2_with fail
    refine (unhide HNAR _ ⟨s.low + pt, s.rang, s.out⟩ rfl (unhide HCQ)).mono ?_
    rintro e w3 ⟨rfl, hw3, g3⟩
    have HC3 : Hid (Ce B ob w3 u P t) := by unfold Hid; rw [unhide HT2]; exact hw3
    have hbx3 := grown_atC g3 (unhide HBX) (fun e => unhide HNE (Option.some.inj e))
    have j0 : w3.cell? ⟨bb, 0, none⟩ = some (.int .i64 (c : Int)) := by rw [cell_of_row w3 _ 0 _ _ (0, 0) hbx3]; rfl
    have j1 : w3.cell? ⟨bb, 1, none⟩ = some (.int .i64 1) := by rw [cell_of_row w3 _ 1 _ _ (0, 0) hbx3]; rfl
    clear hw3 g3 hbx3 k0 k1 HCQ HCE HBX HNAR
    go_wp2
    refine wp_region_last 20 _ (by kernel_rfl) rfl rfl (by kernel_rfl) ?_
    dsimp only [List.dropLast]
    repeat (go_big_quiet_step (fail))
    refine wpQuiet_nil ?_
    intro nq2
    have HCQ := hide ((unhide HC3).drewN (grown_drewN (World.grownBy.refl _ _) nq2))
    go_wp2_with fail
    refine (unhide HLRN _ _ (unhide HCQ)).mono ?_
    rintro e w4 ⟨rfl, hw4⟩
    have HO3 : Hid (Ce B ob w4 u P2 (cond false (wideE t) t)) := hw4
    clear hw4 HCQ HC3 j0 j1 HLRN HPART
    go_wp2
    go_loopw [] (fun wr => ∃ (fl : Bool) (u' : Value), Hid (Ce B ob wr u' P2 (cond fl (wideE t) t))) (fun wr => match wr.cell? ⟨ob, 0, none⟩ with | some (.int _ x) => if x < 16777216 then 1 else 0 | _ => 0)
    case atStart => exact ⟨false, u, HO3⟩
    case round =>
      clear HO3
      obtain ⟨fl, u', hw⟩ := hrel
      cases fl with
      | false =>
        have HO4 : Hid (Ce B ob wr u' P2 t) := hw
        have r2 := (unhide HO4).cells.1
        by_cases hlt : t.rang < 16777216
        · have hd : decide ((t.rang : Int) < 16777216) = true := decide_eq_true (by omega)
          have e7 := i64_in ((t.rang : Int) * 256) (by omega)
          have HR2 := hide r2
          go_wp2_with fail
          refine (unhide HW2 wr u' (unhide HO4) hlt).mono ?_
          rintro e w5 ⟨rfl, u2, hw5⟩
          have r4 := hw5.cells.1
          rw [unhide HLR] at r4
          have f4 := hw5.co.fz 0
          have HO5 : Hid (Ce B ob (w5.setCell ⟨ob, 0, none⟩ (.int .i64 ((t.rang : Int) * 256))) u2 P2 (cond true (wideE t) t)) := by
            have h5 := hw5.setR (256 * t.rang)
            have e8 : ((256 * t.rang : Nat) : Int) = (t.rang : Int) * 256 := by omega
            rw [e8] at h5
            unfold Hid
            rw [cond_true, unhide HWI hlt]
            exact h5
          have r5 : (w5.setCell ⟨ob, 0, none⟩ (.int .i64 ((t.rang : Int) * 256))).cell? ⟨ob, 0, none⟩ = some (.int .i64 ((t.rang : Int) * 256)) := by
            have h6 := (unhide HO5).cells.1
            rw [cond_true, unhide HWI hlt] at h6
            dsimp only at h6
            rw [h6, show ((256 * t.rang : Nat) : Int) = (t.rang : Int) * 256 by omega]
          have HR5 := hide r5
          clear hw5 r5 r2 HO4 hw
          go_wp2
          go_roundw
          case rel => exact ⟨true, u2, HO5⟩
          case measure =>
            have h1 := unhide HR5
            have h2 := unhide HR2
            simp only [h1, h2]
            rw [if_pos (show (t.rang : Int) < 16777216 by omega), if_neg (show ¬ (t.rang : Int) * 256 < 16777216 by omega)]
            exact Nat.zero_lt_one
        · have hd : decide ((t.rang : Int) < 16777216) = false := decide_eq_false (by omega)
          have HF : Hid (Ce B ob wr u' P2 (wideE t)) := by unfold Hid; rw [unhide HWJ hlt]; exact unhide HO4
          clear hw HO4
          go_wp2
          exact bodyPost_end (v := .tuple #[]) (by simp [results, Try.results46, go_sem]) rfl ⟨rfl, u', unhide HF⟩
      | true =>
        have HF : Hid (Ce B ob wr u' P2 (wideE t)) := hw
        have r2 := (unhide HF).cells.1
        obtain ⟨t2, HX2⟩ : ∃ t2, Hid (wideE t = t2) := ⟨_, rfl⟩
        rw [unhide HX2] at r2 hwl
        have hd : decide ((t2.rang : Int) < 16777216) = false := decide_eq_false (by omega)
        clear hw
        go_wp2
        exact bodyPost_end (v := .tuple #[]) (by simp [results, Try.results46, go_sem]) rfl ⟨rfl, u', unhide HF⟩

end Go.Proofs.Ytekidfkahpaokaa
