/-
  The bit coder of the program: a bit is read.
-/
import Derived.Test.YtekidfkahpaokaaDecImpl
namespace Go.Proofs.Ytekidfkahpaokaa
open Go.RowKit

set_option maxRecDepth 20000 in
set_option maxHeartbeats 6400000 in
theorem implNext {B w : World} {rb : Nat} {P : List Nat} {s : De} (ao : Option Addr) (m cap : Nat) (bz : List Int) (h : Cd B rb w (.slice ao m cap) m P s) (hr : Rd .u8 B ao m bz) (hb : ∀ i, 0 ≤ bz.getD i 0 ∧ bz.getD i 0 ≤ 255) (hok : OkD s) (c : Nat) (hc : c < 400) (hp : okP (P.getD c 2048)) (hm : m ≤ 1048576) :
    Calls Try.prog 42 #[.pointer (some ⟨rb, 0, none⟩), .int .i64 c] w fun e w' => e = .returned (.int .i64 ((bitD s (P.getD c 2048) : Nat) : Int)) ∧ Cd B rb w' (.slice ao m cap) m (P.set c (learnN (P.getD c 2048) (bitD s (P.getD c 2048)))) (wideD (byteS bz) (midD s (P.getD c 2048))) ∧ w.grownBy w' (some rb) := by
  obtain ⟨m1, m2, m3, m4⟩ := midD_ok hok hp
  have hwl := (wideD_ok (byteS_le hb) m1 m2 m3).1.lo
  have hpb := part_bounds hok.lo hp
  have hrh := hok.hi
  have hch := hok.code
  have hrl := h.co.lt
  have HPART := hide (implPart h.co c hc hrh hp)
  have HNAR : Hid (∀ (b : Nat) (W : World) (st : De), b ≤ 1 → st.rang = s.rang → Cd B rb W (.slice ao m cap) m P st → Calls Try.prog 64 #[.pointer (some ⟨rb, 0, none⟩), .agg #[.int .i64 c, .int .i64 b]] W fun e w' => e = .returned (.tuple #[]) ∧ Cd B rb w' (.slice ao m cap) m P ⟨st.code, if b = 0 then s.rang / 4096 * P.getD c 2048 else s.rang - s.rang / 4096 * P.getD c 2048, st.at_⟩ ∧ W.grownBy w' (some rb)) := fun b W st hb hst hW => by
    refine (implNarrow hW.co c b hc hb (by rw [hst]; exact hok.lo) (by rw [hst]; exact hrh) hp).mono ?_
    rintro e w' ⟨rfl, hco, g⟩
    rw [hst] at hco
    exact ⟨rfl, hW.turnC g hco, g⟩
  have HLRN : Hid (∀ (b : Nat) (W : World) (st : De), b ≤ 1 → Cd B rb W (.slice ao m cap) m P st → Calls Try.prog 65 #[.pointer (some ⟨rb, 0, none⟩), .agg #[.int .i64 c, .int .i64 b]] W fun e w' => e = .returned (.tuple #[]) ∧ Cd B rb w' (.slice ao m cap) m (P.set c (learnN (P.getD c 2048) b)) st ∧ W.grownBy w' (some rb)) := fun b W st hb hW => by
    refine (implLearn hW.co c b hc hb hp).mono ?_
    rintro e w' ⟨rfl, hco, g⟩
    exact ⟨rfl, hW.turnC g hco, g⟩
  have HSHI : Hid (∀ (P' : List Nat) (W : World) (st : De), st.code < 4294967296 → Cd B rb W (.slice ao m cap) m P' st → Calls Try.prog 62 #[.pointer (some ⟨rb, 0, none⟩)] W fun e w' => e = .returned (.tuple #[]) ∧ Cd B rb w' (.slice ao m cap) m P' ⟨st.code % 16777216 * 256 + byteS bz st.at_, st.rang, st.at_ + 1⟩ ∧ W.grownBy w' (some rb)) := fun P' W st hcd hW => implShift ao m cap bz hW hr hb hcd hm
  obtain ⟨pt, hpt⟩ : ∃ pt, s.rang / 4096 * P.getD c 2048 = pt := ⟨_, rfl⟩
  rw [hpt] at hpb HPART HNAR
  have hMD : midD s (P.getD c 2048) = if s.code < pt then ⟨s.code, pt, s.at_⟩ else ⟨s.code - pt, s.rang - pt, s.at_⟩ := by unfold midD; rw [hpt]
  have hBD : bitD s (P.getD c 2048) = if s.code < pt then 0 else 1 := by unfold bitD; rw [hpt]
  obtain ⟨t, HT⟩ : ∃ t, Hid (midD s (P.getD c 2048) = t) := ⟨_, rfl⟩
  rw [unhide HT] at hMD hwl m1 m2 m3 m4 ⊢
  have HMD := hide hMD
  have HBD := hide hBD
  have H := hide h
  clear h hMD hBD m4 hok hp hpt HT hb hr
  have hwide : t.rang < 16777216 → wideD (byteS bz) t = ⟨t.code % 16777216 * 256 + byteS bz t.at_, 256 * t.rang, t.at_ + 1⟩ := fun hh => by unfold wideD; rw [if_pos hh]
  have hwid2 : ¬ t.rang < 16777216 → wideD (byteS bz) t = t := fun hh => by unfold wideD; rw [if_neg hh]
  have HWI := hide hwide
  have HWJ := hide hwid2
  clear hwide hwid2
  have k1 := (unhide H).cells.2.1
  by_cases hlt : s.code < pt
  · have ht := unhide HMD
    rw [if_pos hlt] at ht
    have HT2 : Hid (t = ⟨s.code, pt, s.at_⟩) := ht
    have HB1 := unhide HBD
    rw [if_pos hlt] at HB1
    rw [HB1]
    obtain ⟨P2, HP2⟩ : ∃ P2, Hid (P.set c (learnN (P.getD c 2048) 0) = P2) := ⟨_, rfl⟩
    rw [unhide HP2]
    clear ht HMD HB1 HBD
    have hd : decide ((pt : Int) ≤ (s.code : Int)) = false := decide_eq_false (by omega)
    go_enter Try.func42, Try.ntmps42
    go_wp2_with fail
    refine (unhide HPART).mono ?_
    rintro e w1 ⟨rfl, g1⟩
    have HG1 := hide g1
    have HC1 := hide ((unhide H).drewN g1)
    have hbb : rb < w1.heap.size := by have := g1.size; omega
    have HBB := hide hbb
    clear g1 HPART k1 H hbb
    have GA : w1.grownBy (w1.alloc (.cells #[.int .i64 c, .int .i64 0] 30)) none := World.grownBy_alloc _ _ _
    have HBA := hide (heap_alloc_new w1 (.cells #[.int .i64 c, .int .i64 0] 30))
    have HCA := hide ((unhide HC1).drewN GA)
    have HGA : Hid (w.grownBy (w1.alloc (.cells #[.int .i64 c, .int .i64 0] 30)) (some rb)) := grown_any (grown_trans (unhide HG1) GA)
    have k1 := (unhide HCA).cells.2.1
    have fk := (unhide HCA).co.fz 401
    have HNE : Hid (rb ≠ w1.heap.size) := by have := unhide HBB; unfold Hid; omega
    clear GA
    clear HC1 HG1
    go_wp2
    clear k1 fk
    obtain ⟨W0, HW0⟩ : ∃ W0, Hid (w1.alloc (.cells #[.int .i64 c, .int .i64 0] 30) = W0) := ⟨_, rfl⟩
    have HBX : Hid (W0.heap[w1.heap.size]? = some (.cells #[.int .i64 c, .int .i64 0] 30 (0, 0))) := by unfold Hid; rw [← unhide HW0]; exact unhide HBA
    have HCE : Hid (Cd B rb W0 (.slice ao m cap) m P s) := by unfold Hid; rw [← unhide HW0]; exact unhide HCA
    have HG : Hid (w.grownBy W0 (some rb)) := by unfold Hid; rw [← unhide HW0]; exact unhide HGA
    rw [unhide HW0]
    clear HBA HCA HGA HW0 HBB
    generalize w1.heap.size = bb at *
    have k0 : W0.cell? ⟨bb, 0, none⟩ = some (.int .i64 (c : Int)) := by rw [cell_of_row W0 _ 0 _ _ (0, 0) (unhide HBX)]; rfl
    have k1 : W0.cell? ⟨bb, 1, none⟩ = some (.int .i64 0) := by rw [cell_of_row W0 _ 1 _ _ (0, 0) (unhide HBX)]; rfl
    refine wp_region_last 20 _ (by kernel_rfl) rfl rfl (by kernel_rfl) ?_
    dsimp only [List.dropLast]
    repeat (go_big_quiet_step (fail))
    refine wpQuiet_nil ?_
    intro nq
    have HCQ := hide ((unhide HCE).drewN (grown_drewN (World.grownBy.refl _ _) nq))
    have HGQ := hide (grown_drewN (unhide HG) nq)
    go_wp2_with fail
    refine (unhide HNAR 0 _ s (by decide) rfl (unhide HCQ)).mono ?_
    rintro e w3 ⟨rfl, hw3, g3⟩
    have HC3 : Hid (Cd B rb w3 (.slice ao m cap) m P t) := by unfold Hid; rw [unhide HT2]; exact hw3
    have HB3 := hide (grown_atC g3 (unhide HBX) (fun e => unhide HNE (Option.some.inj e)))
    have HG3 := hide (grown_trans (unhide HGQ) g3)
    have j0 : w3.cell? ⟨bb, 0, none⟩ = some (.int .i64 (c : Int)) := by rw [cell_of_row w3 _ 0 _ _ (0, 0) (unhide HB3)]; rfl
    have j1 : w3.cell? ⟨bb, 1, none⟩ = some (.int .i64 0) := by rw [cell_of_row w3 _ 1 _ _ (0, 0) (unhide HB3)]; rfl
    clear hw3 g3 k0 k1 HCQ HCE HBX HNAR HG HGQ
    go_wp2
    refine wp_region_last 20 _ (by kernel_rfl) rfl rfl (by kernel_rfl) ?_
    dsimp only [List.dropLast]
    repeat (go_big_quiet_step (fail))
    refine wpQuiet_nil ?_
    intro nq2
    have HCQ := hide ((unhide HC3).drewN (grown_drewN (World.grownBy.refl _ _) nq2))
    have HGQ := hide (grown_drewN (unhide HG3) nq2)
    go_wp2_with fail
    refine (unhide HLRN 0 _ _ (by decide) (unhide HCQ)).mono ?_
    rintro e w4 ⟨rfl, hw4, g4⟩
    rw [unhide HP2] at hw4
    have HO3 : Hid (Cd B rb w4 (.slice ao m cap) m P2 (cond false (wideD (byteS bz) t) t)) := hw4
    have HB4 := hide (grown_atC g4 (unhide HB3) (fun e => unhide HNE (Option.some.inj e)))
    have HG4 := hide (grown_trans (unhide HGQ) g4)
    clear hw4 g4 HCQ HC3 HB3 HG3 HGQ j0 j1 HLRN
    go_wp2
    go_loopw [] (fun wr => ∃ (fl : Bool), Hid (Cd B rb wr (.slice ao m cap) m P2 (cond fl (wideD (byteS bz) t) t)) ∧ Hid (wr.heap[bb]? = some (.cells #[.int .i64 c, .int .i64 0] 30 (0, 0))) ∧ Hid (w.grownBy wr (some rb))) (fun wr => match wr.cell? ⟨rb, 0, none⟩ with | some (.int _ x) => if x < 16777216 then 1 else 0 | _ => 0)
    case atStart => exact ⟨false, HO3, HB4, HG4⟩
    case round =>
      clear HO3 HB4 HG4
      obtain ⟨fl, hw, hbx, hg⟩ := hrel
      have q1 : wr.cell? ⟨bb, 1, none⟩ = some (.int .i64 0) := by rw [cell_of_row wr _ 1 _ _ (0, 0) (unhide hbx)]; rfl
      cases fl with
      | false =>
        have HO4 : Hid (Cd B rb wr (.slice ao m cap) m P2 t) := hw
        have r2 := (unhide HO4).cells.1
        by_cases hlt : t.rang < 16777216
        · have hd : decide ((t.rang : Int) < 16777216) = true := decide_eq_true (by omega)
          have e7 := i64_in ((t.rang : Int) * 256) (by omega)
          have HR2 := hide r2
          clear q1
          go_wp2_with fail
          refine (unhide HSHI P2 wr t m3 (unhide HO4)).mono ?_
          rintro e w5 ⟨rfl, hw5, g5⟩
          have r4 := hw5.cells.1
          dsimp only at r4
          have f4 := hw5.co.fz 0
          have HO5 : Hid (Cd B rb (w5.setCell ⟨rb, 0, none⟩ (.int .i64 ((t.rang : Int) * 256))) (.slice ao m cap) m P2 (cond true (wideD (byteS bz) t) t)) := by
            have h5 := hw5.setR (256 * t.rang)
            have e8 : ((256 * t.rang : Nat) : Int) = (t.rang : Int) * 256 := by omega
            rw [e8] at h5
            unfold Hid
            rw [cond_true, unhide HWI hlt]
            exact h5
          have r5 : (w5.setCell ⟨rb, 0, none⟩ (.int .i64 ((t.rang : Int) * 256))).cell? ⟨rb, 0, none⟩ = some (.int .i64 ((t.rang : Int) * 256)) := by
            have h6 := (unhide HO5).cells.1
            rw [cond_true, unhide HWI hlt] at h6
            dsimp only at h6
            rw [h6, show ((256 * t.rang : Nat) : Int) = (t.rang : Int) * 256 by omega]
          have HR5 := hide r5
          have HG5 := hide (grown_trans (grown_trans (unhide hg) g5) (grown_set w5 rb 0 (.int .i64 ((t.rang : Int) * 256))))
          have HB5 := hide (grown_atC (grown_trans g5 (grown_set w5 rb 0 (.int .i64 ((t.rang : Int) * 256)))) (unhide hbx) (fun e => unhide HNE (Option.some.inj e)))
          clear hw5 g5 r5 r2 HO4 hw hbx hg
          go_wp2
          go_roundw
          case rel => exact ⟨true, HO5, HB5, HG5⟩
          case measure =>
            have h1 := unhide HR5
            have h2 := unhide HR2
            simp only [h1, h2]
            rw [if_pos (show (t.rang : Int) < 16777216 by omega), if_neg (show ¬ (t.rang : Int) * 256 < 16777216 by omega)]
            exact Nat.zero_lt_one
        · have hd : decide ((t.rang : Int) < 16777216) = false := decide_eq_false (by omega)
          have HF : Hid (Cd B rb wr (.slice ao m cap) m P2 (wideD (byteS bz) t)) := by unfold Hid; rw [unhide HWJ hlt]; exact unhide HO4
          clear hw HO4
          go_wp2
          go_ret
          exact ⟨rfl, unhide HF, unhide hg⟩
      | true =>
        have HF : Hid (Cd B rb wr (.slice ao m cap) m P2 (wideD (byteS bz) t)) := hw
        have r2 := (unhide HF).cells.1
        obtain ⟨t2, HX2⟩ : ∃ t2, Hid (wideD (byteS bz) t = t2) := ⟨_, rfl⟩
        rw [unhide HX2] at r2 hwl
        have hd : decide ((t2.rang : Int) < 16777216) = false := decide_eq_false (by omega)
        clear hw
        go_wp2
        go_ret
        exact ⟨rfl, unhide HF, unhide hg⟩
  · have ht := unhide HMD
    rw [if_neg hlt] at ht
    have HT2 : Hid (t = ⟨s.code - pt, s.rang - pt, s.at_⟩) := ht
    have HB1 := unhide HBD
    rw [if_neg hlt] at HB1
    rw [HB1]
    obtain ⟨P2, HP2⟩ : ∃ P2, Hid (P.set c (learnN (P.getD c 2048) 1) = P2) := ⟨_, rfl⟩
    rw [unhide HP2]
    clear ht HMD HB1 HBD
    have hd : decide ((pt : Int) ≤ (s.code : Int)) = true := decide_eq_true (by omega)
    have e5 := i64_in ((s.code : Int) - (pt : Int)) (by omega)
    go_enter Try.func42, Try.ntmps42
    go_wp2_with fail
    refine (unhide HPART).mono ?_
    rintro e w1 ⟨rfl, g1⟩
    have HG1 := hide g1
    have HC1 := hide ((unhide H).drewN g1)
    have hbb : rb < w1.heap.size := by have := g1.size; omega
    have HBB := hide hbb
    clear g1 HPART k1 H hbb
    have GA : w1.grownBy (w1.alloc (.cells #[.int .i64 c, .int .i64 0] 30)) none := World.grownBy_alloc _ _ _
    have HBA := hide (heap_alloc_new w1 (.cells #[.int .i64 c, .int .i64 0] 30))
    have HCA := hide ((unhide HC1).drewN GA)
    have HGA : Hid (w.grownBy (w1.alloc (.cells #[.int .i64 c, .int .i64 0] 30)) (some rb)) := grown_any (grown_trans (unhide HG1) GA)
    have k1 := (unhide HCA).cells.2.1
    have fk := (unhide HCA).co.fz 401
    have HNE : Hid (rb ≠ w1.heap.size) := by have := unhide HBB; unfold Hid; omega
    clear GA
    have GB : w1.grownBy (w1.alloc (.cells #[.int .i64 c, .int .i64 1] 30)) none := World.grownBy_alloc _ _ _
    have HBB1 := hide (heap_alloc_new w1 (.cells #[.int .i64 c, .int .i64 1] 30))
    have HCB := hide ((unhide HC1).drewN GB)
    have HGB : Hid (w.grownBy (w1.alloc (.cells #[.int .i64 c, .int .i64 1] 30)) (some rb)) := grown_any (grown_trans (unhide HG1) GB)
    have k2 := (unhide HCB).cells.2.1
    have fk2 := (unhide HCB).co.fz 401
    clear GB HC1 HG1
    go_wp2
    clear k1 fk k2 fk2
    have G3 := grown_set (w1.alloc (.cells #[.int .i64 c, .int .i64 1] 30)) rb 401 (.int .i64 ((s.code : Int) - (pt : Int)))
    obtain ⟨W0, HW0⟩ : ∃ W0, Hid ((w1.alloc (.cells #[.int .i64 c, .int .i64 1] 30)).setCell ⟨rb, 401, none⟩ (.int .i64 ((s.code : Int) - (pt : Int))) = W0) := ⟨_, rfl⟩
    have HBX : Hid (W0.heap[w1.heap.size]? = some (.cells #[.int .i64 c, .int .i64 1] 30 (0, 0))) := by unfold Hid; rw [← unhide HW0]; exact grown_atC G3 (unhide HBB1) (fun e => unhide HNE (Option.some.inj e))
    have HCE : Hid (Cd B rb W0 (.slice ao m cap) m P ⟨s.code - pt, s.rang, s.at_⟩) := by
      have h1 := (unhide HCB).setC (s.code - pt)
      have e8 : ((s.code - pt : Nat) : Int) = (s.code : Int) - (pt : Int) := by omega
      rw [e8, unhide HW0] at h1
      exact h1
    have HG : Hid (w.grownBy W0 (some rb)) := by unfold Hid; rw [← unhide HW0]; exact grown_trans (unhide HGB) G3
    rw [unhide HW0]
    clear HBA HCA HGA HW0 HBB HBB1 HCB HGB G3
    generalize w1.heap.size = bb at *
    have k0 : W0.cell? ⟨bb, 0, none⟩ = some (.int .i64 (c : Int)) := by rw [cell_of_row W0 _ 0 _ _ (0, 0) (unhide HBX)]; rfl
    have k1 : W0.cell? ⟨bb, 1, none⟩ = some (.int .i64 1) := by rw [cell_of_row W0 _ 1 _ _ (0, 0) (unhide HBX)]; rfl
    refine wp_region_last 20 _ (by kernel_rfl) rfl rfl (by kernel_rfl) ?_
    dsimp only [List.dropLast]
    repeat (go_big_quiet_step (fail))
    refine wpQuiet_nil ?_
    intro nq
    have HCQ := hide ((unhide HCE).drewN (grown_drewN (World.grownBy.refl _ _) nq))
    have HGQ := hide (grown_drewN (unhide HG) nq)
    go_wp2_with fail
    refine (unhide HNAR 1 _ ⟨s.code - pt, s.rang, s.at_⟩ (by decide) rfl (unhide HCQ)).mono ?_
    rintro e w3 ⟨rfl, hw3, g3⟩
    have HC3 : Hid (Cd B rb w3 (.slice ao m cap) m P t) := by unfold Hid; rw [unhide HT2]; exact hw3
    have HB3 := hide (grown_atC g3 (unhide HBX) (fun e => unhide HNE (Option.some.inj e)))
    have HG3 := hide (grown_trans (unhide HGQ) g3)
    have j0 : w3.cell? ⟨bb, 0, none⟩ = some (.int .i64 (c : Int)) := by rw [cell_of_row w3 _ 0 _ _ (0, 0) (unhide HB3)]; rfl
    have j1 : w3.cell? ⟨bb, 1, none⟩ = some (.int .i64 1) := by rw [cell_of_row w3 _ 1 _ _ (0, 0) (unhide HB3)]; rfl
    clear hw3 g3 k0 k1 HCQ HCE HBX HNAR HG HGQ
    go_wp2
    refine wp_region_last 20 _ (by kernel_rfl) rfl rfl (by kernel_rfl) ?_
    dsimp only [List.dropLast]
    repeat (go_big_quiet_step (fail))
    refine wpQuiet_nil ?_
    intro nq2
    have HCQ := hide ((unhide HC3).drewN (grown_drewN (World.grownBy.refl _ _) nq2))
    have HGQ := hide (grown_drewN (unhide HG3) nq2)
    go_wp2_with fail
    refine (unhide HLRN 1 _ _ (by decide) (unhide HCQ)).mono ?_
    rintro e w4 ⟨rfl, hw4, g4⟩
    rw [unhide HP2] at hw4
    have HO3 : Hid (Cd B rb w4 (.slice ao m cap) m P2 (cond false (wideD (byteS bz) t) t)) := hw4
    have HB4 := hide (grown_atC g4 (unhide HB3) (fun e => unhide HNE (Option.some.inj e)))
    have HG4 := hide (grown_trans (unhide HGQ) g4)
    clear hw4 g4 HCQ HC3 HB3 HG3 HGQ j0 j1 HLRN
    go_wp2
    go_loopw [] (fun wr => ∃ (fl : Bool), Hid (Cd B rb wr (.slice ao m cap) m P2 (cond fl (wideD (byteS bz) t) t)) ∧ Hid (wr.heap[bb]? = some (.cells #[.int .i64 c, .int .i64 1] 30 (0, 0))) ∧ Hid (w.grownBy wr (some rb))) (fun wr => match wr.cell? ⟨rb, 0, none⟩ with | some (.int _ x) => if x < 16777216 then 1 else 0 | _ => 0)
    case atStart => exact ⟨false, HO3, HB4, HG4⟩
    case round =>
      clear HO3 HB4 HG4
      obtain ⟨fl, hw, hbx, hg⟩ := hrel
      have q1 : wr.cell? ⟨bb, 1, none⟩ = some (.int .i64 1) := by rw [cell_of_row wr _ 1 _ _ (0, 0) (unhide hbx)]; rfl
      cases fl with
      | false =>
        have HO4 : Hid (Cd B rb wr (.slice ao m cap) m P2 t) := hw
        have r2 := (unhide HO4).cells.1
        by_cases hlt : t.rang < 16777216
        · have hd : decide ((t.rang : Int) < 16777216) = true := decide_eq_true (by omega)
          have e7 := i64_in ((t.rang : Int) * 256) (by omega)
          have HR2 := hide r2
          clear q1
          go_wp2_with fail
          refine (unhide HSHI P2 wr t m3 (unhide HO4)).mono ?_
          rintro e w5 ⟨rfl, hw5, g5⟩
          have r4 := hw5.cells.1
          dsimp only at r4
          have f4 := hw5.co.fz 0
          have HO5 : Hid (Cd B rb (w5.setCell ⟨rb, 0, none⟩ (.int .i64 ((t.rang : Int) * 256))) (.slice ao m cap) m P2 (cond true (wideD (byteS bz) t) t)) := by
            have h5 := hw5.setR (256 * t.rang)
            have e8 : ((256 * t.rang : Nat) : Int) = (t.rang : Int) * 256 := by omega
            rw [e8] at h5
            unfold Hid
            rw [cond_true, unhide HWI hlt]
            exact h5
          have r5 : (w5.setCell ⟨rb, 0, none⟩ (.int .i64 ((t.rang : Int) * 256))).cell? ⟨rb, 0, none⟩ = some (.int .i64 ((t.rang : Int) * 256)) := by
            have h6 := (unhide HO5).cells.1
            rw [cond_true, unhide HWI hlt] at h6
            dsimp only at h6
            rw [h6, show ((256 * t.rang : Nat) : Int) = (t.rang : Int) * 256 by omega]
          have HR5 := hide r5
          have HG5 := hide (grown_trans (grown_trans (unhide hg) g5) (grown_set w5 rb 0 (.int .i64 ((t.rang : Int) * 256))))
          have HB5 := hide (grown_atC (grown_trans g5 (grown_set w5 rb 0 (.int .i64 ((t.rang : Int) * 256)))) (unhide hbx) (fun e => unhide HNE (Option.some.inj e)))
          clear hw5 g5 r5 r2 HO4 hw hbx hg
          go_wp2
          go_roundw
          case rel => exact ⟨true, HO5, HB5, HG5⟩
          case measure =>
            have h1 := unhide HR5
            have h2 := unhide HR2
            simp only [h1, h2]
            rw [if_pos (show (t.rang : Int) < 16777216 by omega), if_neg (show ¬ (t.rang : Int) * 256 < 16777216 by omega)]
            exact Nat.zero_lt_one
        · have hd : decide ((t.rang : Int) < 16777216) = false := decide_eq_false (by omega)
          have HF : Hid (Cd B rb wr (.slice ao m cap) m P2 (wideD (byteS bz) t)) := by unfold Hid; rw [unhide HWJ hlt]; exact unhide HO4
          clear hw HO4
          go_wp2
          go_ret
          exact ⟨rfl, unhide HF, unhide hg⟩
      | true =>
        have HF : Hid (Cd B rb wr (.slice ao m cap) m P2 (wideD (byteS bz) t)) := hw
        have r2 := (unhide HF).cells.1
        obtain ⟨t2, HX2⟩ : ∃ t2, Hid (wideD (byteS bz) t = t2) := ⟨_, rfl⟩
        rw [unhide HX2] at r2 hwl
        have hd : decide ((t2.rang : Int) < 16777216) = false := decide_eq_false (by omega)
        clear hw
        go_wp2
        go_ret
        exact ⟨rfl, unhide HF, unhide hg⟩

end Go.Proofs.Ytekidfkahpaokaa
