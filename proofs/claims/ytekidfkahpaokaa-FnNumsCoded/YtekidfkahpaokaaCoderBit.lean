/-
  A bit is read, in the specification.
-/
import Derived.Test.YtekidfkahpaokaaCoderIn
namespace Go.Proofs.Ytekidfkahpaokaa
open Go.RowKit

structure OkD (s : De) : Prop where
  lo : 16777216 ≤ s.rang
  hi : s.rang < 4294967296
  code : s.code < 4294967296
theorem midD_ok {s : De} (h : OkD s) {p : Nat} (hp : okP p) : 126976 ≤ (midD s p).rang ∧ (midD s p).rang < 4294967296 ∧ (midD s p).code < 4294967296 ∧ (midD s p).at_ = s.at_ := by
  have hb := part_bounds h.lo hp
  have h1 := h.hi
  have h2 := h.code
  unfold midD
  split
  · exact ⟨hb.1, by dsimp only; omega, h2, rfl⟩
  · exact ⟨by dsimp only; omega, by dsimp only; omega, by dsimp only; omega, rfl⟩
theorem wideD_ok {B : Nat → Nat} (hB : ∀ i, B i ≤ 255) {t : De} (h1 : 126976 ≤ t.rang) (h2 : t.rang < 4294967296) (h3 : t.code < 4294967296) : OkD (wideD B t) ∧ (wideD B t).at_ ≤ t.at_ + 1 := by
  have hb := hB t.at_
  unfold wideD
  split
  · exact ⟨⟨by dsimp only; omega, by dsimp only; omega, by dsimp only; omega⟩, Nat.le_refl _⟩
  · exact ⟨⟨by omega, h2, h3⟩, by omega⟩
theorem bitD_ok {B : Nat → Nat} (hB : ∀ i, B i ≤ 255) {s : De} (h : OkD s) {p : Nat} (hp : okP p) : OkD (wideD B (midD s p)) ∧ (wideD B (midD s p)).at_ ≤ s.at_ + 1 := by
  obtain ⟨a, b, c, d⟩ := midD_ok h hp
  have e := wideD_ok hB a b c
  rw [d] at e
  exact e

set_option maxRecDepth 20000 in
set_option maxHeartbeats 3200000 in
theorem specBitC {B W w : World} {xb rb : Nat} {v : Value} {P : List Nat} {s : De} (ao : Option Addr) (n cap : Nat) (bz : List Int) (h : Iw B W xb rb w v (.slice ao n cap) P s) (hr : Rd .u8 B ao n bz) (hb : ∀ i, 0 ≤ bz.getD i 0 ∧ bz.getD i 0 ≤ 255) (hok : OkD s) (c : Nat) (hc : c < P.length) (hp : okP (P.getD c 2048)) (hat : s.at_ ≤ 3000000) :
    Calls Try.prog 72 #[.pointer (some ⟨rb, 0, none⟩), .int .i64 c] w fun e w' => e = .returned (.int .i64 ((bitD s (P.getD c 2048) : Nat) : Int)) ∧ Iw B W xb rb w' v (.slice ao n cap) (P.set c (learnN (P.getD c 2048) (bitD s (P.getD c 2048)))) (wideD (byteS bz) (midD s (P.getD c 2048))) := by
  obtain ⟨c0, c1, c2, c3, c4, c5⟩ := h.cells
  obtain ⟨po, pc, rfl⟩ := own_form h.lk.own
  obtain ⟨g, rfl, _, _⟩ := own_at h.lk.own (by omega)
  have c6 : w.cell? ⟨g, c, none⟩ = some (.int .i64 ((P.getD c 2048 : Nat) : Int)) := by rw [h.lk.own.cellAt c (by omega)]; exact pCells_at P c hc
  obtain ⟨m1, m2, m3, m4⟩ := midD_ok hok hp
  have hwl := (wideD_ok (byteS_le hb) m1 m2 m3).1.lo
  have hpb := part_bounds hok.lo hp
  have hrh := hok.hi
  have hch := hok.code
  have HLEARN : Hid (∀ (b : Nat) (W' : World) (st : De), b ≤ 1 → Iw B W xb rb W' (.slice (some ⟨g, 0, none⟩) P.length pc) (.slice ao n cap) P st → Calls Try.prog 75 #[.pointer (some ⟨xb, 0, none⟩), .int .i64 c, .int .i64 b] W' fun e w' => e = .returned (.tuple #[]) ∧ Iw B W xb rb w' (.slice (some ⟨g, 0, none⟩) P.length pc) (.slice ao n cap) (P.set c (learnN (P.getD c 2048) b)) st) := fun b W' st hb1 hW =>
    (specLearn hW.lk c b hc hb1 hp).mono fun e w' hh => ⟨hh.1, hW.like hh.2.1 hh.2.2⟩
  have HBY := hide (byteS_le hb)
  obtain ⟨m, HN⟩ : ∃ m, Hid (P.length = m) := ⟨_, rfl⟩
  have hcI : (c : Int) < (m : Int) := by have := unhide HN; omega
  rw [unhide HN] at h c5 HLEARN
  rw [unhide HN]
  generalize P.getD c 2048 = p at *
  have e1 : (s.rang : Int).tdiv 4096 = ((s.rang / 4096 : Nat) : Int) := tdivN s.rang 4096
  obtain ⟨q, hq⟩ : ∃ q, s.rang / 4096 = q := ⟨_, rfl⟩
  rw [hq] at e1 hpb
  have e2 := i64_in ((q : Nat) : Int) (by omega)
  obtain ⟨pt, hpt⟩ : ∃ pt, q * p = pt := ⟨_, rfl⟩
  rw [hpt] at hpb
  have e3 : (q : Int) * (p : Int) = (pt : Int) := by rw [← hpt]; simp
  have e4 := i64_in ((pt : Nat) : Int) (by omega)
  have HBD : Hid (bitD s p = if s.code < pt then 0 else 1) := by unfold Hid bitD; rw [hq, hpt]
  have HMD : Hid (midD s p = if s.code < pt then ⟨s.code, pt, s.at_⟩ else ⟨s.code - pt, s.rang - pt, s.at_⟩) := by unfold Hid midD; rw [hq, hpt]
  obtain ⟨t, HT⟩ : ∃ t, Hid (midD s p = t) := ⟨_, rfl⟩
  obtain ⟨b, HBT⟩ : ∃ b, Hid (bitD s p = b) := ⟨_, rfl⟩
  rw [unhide HT] at HMD hwl m1 m2 m3 m4 ⊢
  rw [unhide HBT] at HBD ⊢
  have HOW := hide h
  have HAT : Hid (t.at_ ≤ 3000000) := by unfold Hid; rw [m4]; exact hat
  have HNX : Hid (∀ (W' : World) (P' : List Nat), Iw B W xb rb W' (.slice (some ⟨g, 0, none⟩) m pc) (.slice ao n cap) P' t → Calls Try.prog 71 #[.pointer (some ⟨rb, 0, none⟩)] W' fun e w' => e = .returned (.int .i64 ((byteS bz t.at_ : Nat) : Int)) ∧ Iw B W xb rb w' (.slice (some ⟨g, 0, none⟩) m pc) (.slice ao n cap) P' ⟨t.code, t.rang, t.at_ + 1⟩) := fun W' P' hW => specNext ao n cap bz hW (hr.grown hW.lk.grown) hb (by have := unhide HAT; omega)
  have hbx := unhide HBY t.at_
  have HWI : Hid (t.rang < 16777216 → wideD (byteS bz) t = ⟨t.code % 16777216 * 256 + byteS bz t.at_, 256 * t.rang, t.at_ + 1⟩) := fun hh => by unfold wideD; rw [if_pos hh]
  have HWJ : Hid (¬ t.rang < 16777216 → wideD (byteS bz) t = t) := fun hh => by unfold wideD; rw [if_neg hh]
  obtain ⟨t2, HT2⟩ : ∃ t2, Hid (wideD (byteS bz) t = t2) := ⟨_, rfl⟩
  rw [unhide HT2] at HWI HWJ hwl ⊢
  generalize byteS bz t.at_ = x at *
  clear h hr hb hok hp m4 hat HT2 HBY
  by_cases hlc : s.code < pt
  · rw [if_pos hlc] at HBD HMD
    obtain rfl : b = 0 := unhide HBD
    have HT3 : Hid (t = ⟨s.code, pt, s.at_⟩) := unhide HMD
    have hd0 : decide ((s.code : Int) < (pt : Int)) = true := decide_eq_true (by omega)
    have HS2 : Hid (∀ nq, Iw B W xb rb ((w.drewN nq).setCell ⟨rb, 4, none⟩ (.int .i64 ((pt : Nat) : Int))) (.slice (some ⟨g, 0, none⟩) m pc) (.slice ao n cap) P t) := fun nq => by
      rw [unhide HT3]
      exact ((unhide HOW).drewN (grown_drewN (World.grownBy.refl _ _) nq)).set4 pt
    have f4 := (unhide HOW).fz 4
    obtain ⟨P2, HP2⟩ : ∃ P2, Hid (P.set c (learnN p 0) = P2) := ⟨_, rfl⟩
    rw [unhide HP2]
    have HLB := hide (fun (W' : World) (hW : Iw B W xb rb W' (.slice (some ⟨g, 0, none⟩) m pc) (.slice ao n cap) P t) => unhide HLEARN 0 W' t (by omega) hW)
    rw [unhide HP2] at HLB
    clear HLEARN HBD HMD HT3 HT HBT HP2
    go_enter Try.func72, Try.ntmps72
    go_wp2
    go_quiet (fail)
    have HS3 := hide (unhide HS2 nq)
    clear HS2
    go_wp2_with fail
    refine (unhide HLB _ (unhide HS3)).mono ?_
    rintro e w3 ⟨rfl, hw3⟩
    have HO3 : Hid (Iw B W xb rb w3 (.slice (some ⟨g, 0, none⟩) m pc) (.slice ao n cap) P2 (cond false t2 t)) := hw3
    clear hw3 HS3 HLB HOW c0 c1 c2 c3 c4 c5 c6
    go_wp2
    go_loopw [59] (fun _ wr => ∃ fl : Bool, Hid (Iw B W xb rb wr (.slice (some ⟨g, 0, none⟩) m pc) (.slice ao n cap) P2 (cond fl t2 t))) (fun _ wr => match wr.cell? ⟨rb, 4, none⟩ with | some (.int _ x) => if x < 16777216 then 1 else 0 | _ => 0)
    case atStart => exact ⟨false, HO3⟩
    case round =>
      clear HO3
      obtain ⟨fl, hw⟩ := hrel
      cases fl with
      | false =>
        have HO4 : Hid (Iw B W xb rb wr (.slice (some ⟨g, 0, none⟩) m pc) (.slice ao n cap) P2 t) := hw
        have r4 := (unhide HO4).cells.2.2.2.2.1
        by_cases hlt : t.rang < 16777216
        · have hd : decide ((t.rang : Int) < 16777216) = true := decide_eq_true (by omega)
          have e7 := i64_in (256 * (t.rang : Int)) (by omega)
          have ea : (t.code : Int).tmod 16777216 = ((t.code % 16777216 : Nat) : Int) := tmodN t.code 16777216
          obtain ⟨cm, hcm⟩ : ∃ cm, t.code % 16777216 = cm := ⟨_, rfl⟩
          have hcl : cm < 16777216 := by omega
          rw [hcm] at ea
          have eb := i64_in ((cm : Nat) : Int) (by omega)
          have ec := i64_in ((cm : Int) * 256) (by omega)
          have ed := i64_in ((cm : Int) * 256 + (x : Int)) (by omega)
          have hT2 := unhide HWI hlt
          rw [hcm] at hT2
          have HTT := hide hT2
          have HR4 := hide r4
          clear hT2 hcm
          go_wp2_with fail
          refine (unhide HNX wr P2 (unhide HO4)).mono ?_
          rintro e w4 ⟨rfl, hw4⟩
          have k3 := hw4.cells.2.2.2.1
          have k4 := hw4.cells.2.2.2.2.1
          dsimp only at k3 k4
          have f3 := hw4.fz 3
          have f4 := hw4.fz 4
          have HO5 : Hid (Iw B W xb rb ((w4.setCell ⟨rb, 3, none⟩ (.int .i64 ((cm : Int) * 256 + (x : Int)))).setCell ⟨rb, 4, none⟩ (.int .i64 (256 * (t.rang : Int)))) (.slice (some ⟨g, 0, none⟩) m pc) (.slice ao n cap) P2 (cond true t2 t)) := by
            have h5 := (hw4.set3 (cm * 256 + x)).set4 (256 * t.rang)
            have e8 : ((256 * t.rang : Nat) : Int) = 256 * (t.rang : Int) := by omega
            have e9 : ((cm * 256 + x : Nat) : Int) = (cm : Int) * 256 + (x : Int) := by omega
            rw [e8, e9] at h5
            unfold Hid
            rw [cond_true, unhide HTT]
            exact h5
          have r5 : ((w4.setCell ⟨rb, 3, none⟩ (.int .i64 ((cm : Int) * 256 + (x : Int)))).setCell ⟨rb, 4, none⟩ (.int .i64 (256 * (t.rang : Int)))).cell? ⟨rb, 4, none⟩ = some (.int .i64 (256 * (t.rang : Int))) := by
            have h6 := (unhide HO5).cells.2.2.2.2.1
            rw [cond_true, unhide HTT] at h6
            dsimp only at h6
            rw [h6]
            congr 2
          have HR5 := hide r5
          clear hw4 r5 r4 HO4 hw
          go_wp2
          go_roundw
          case rel => exact ⟨true, HO5⟩
          case measure =>
            have h1 := unhide HR5
            have h2 := unhide HR4
            simp only [h1, h2]
            rw [if_pos (show (t.rang : Int) < 16777216 by omega), if_neg (show ¬ 256 * (t.rang : Int) < 16777216 by omega)]
            exact Nat.zero_lt_one
        · have hd : decide ((t.rang : Int) < 16777216) = false := decide_eq_false (by omega)
          have HF : Hid (Iw B W xb rb wr (.slice (some ⟨g, 0, none⟩) m pc) (.slice ao n cap) P2 t2) := by unfold Hid; rw [unhide HWJ hlt]; exact unhide HO4
          clear hw HO4
          go_wp2
          go_ret
          exact ⟨rfl, unhide HF⟩
      | true =>
        have HF : Hid (Iw B W xb rb wr (.slice (some ⟨g, 0, none⟩) m pc) (.slice ao n cap) P2 t2) := hw
        have r4 := (unhide HF).cells.2.2.2.2.1
        have hd : decide ((t2.rang : Int) < 16777216) = false := decide_eq_false (by omega)
        clear hw
        go_wp2
        go_ret
        exact ⟨rfl, unhide HF⟩
  · rw [if_neg hlc] at HBD HMD
    obtain rfl : b = 1 := unhide HBD
    have HT3 : Hid (t = ⟨s.code - pt, s.rang - pt, s.at_⟩) := unhide HMD
    have hd0 : decide ((s.code : Int) < (pt : Int)) = false := decide_eq_false (by omega)
    have e5 := i64_in ((s.code : Int) - (pt : Int)) (by omega)
    have e6 := i64_in ((s.rang : Int) - (pt : Int)) (by omega)
    have HS2 : Hid (∀ nq, Iw B W xb rb (((w.drewN nq).setCell ⟨rb, 3, none⟩ (.int .i64 ((s.code : Int) - (pt : Int)))).setCell ⟨rb, 4, none⟩ (.int .i64 ((s.rang : Int) - (pt : Int)))) (.slice (some ⟨g, 0, none⟩) m pc) (.slice ao n cap) P t) := fun nq => by
      rw [unhide HT3]
      have h1 := (((unhide HOW).drewN (grown_drewN (World.grownBy.refl _ _) nq)).set3 (s.code - pt)).set4 (s.rang - pt)
      have e8 : ((s.code - pt : Nat) : Int) = (s.code : Int) - (pt : Int) := by omega
      have e9 : ((s.rang - pt : Nat) : Int) = (s.rang : Int) - (pt : Int) := by omega
      rw [e8, e9] at h1
      exact h1
    have f3 := (unhide HOW).fz 3
    have f4 := (unhide HOW).fz 4
    obtain ⟨P2, HP2⟩ : ∃ P2, Hid (P.set c (learnN p 1) = P2) := ⟨_, rfl⟩
    rw [unhide HP2]
    have HLB := hide (fun (W' : World) (hW : Iw B W xb rb W' (.slice (some ⟨g, 0, none⟩) m pc) (.slice ao n cap) P t) => unhide HLEARN 1 W' t (by omega) hW)
    rw [unhide HP2] at HLB
    clear HLEARN HBD HMD HT3 HT HBT HP2
    go_enter Try.func72, Try.ntmps72
    go_wp2
    go_quiet (fail)
    have HS3 := hide (unhide HS2 nq)
    clear HS2
    go_wp2_with fail
    refine (unhide HLB _ (unhide HS3)).mono ?_
    rintro e w3 ⟨rfl, hw3⟩
    have HO3 : Hid (Iw B W xb rb w3 (.slice (some ⟨g, 0, none⟩) m pc) (.slice ao n cap) P2 (cond false t2 t)) := hw3
    clear hw3 HS3 HLB HOW c0 c1 c2 c3 c4 c5 c6
    go_wp2
    go_loopw [59] (fun _ wr => ∃ fl : Bool, Hid (Iw B W xb rb wr (.slice (some ⟨g, 0, none⟩) m pc) (.slice ao n cap) P2 (cond fl t2 t))) (fun _ wr => match wr.cell? ⟨rb, 4, none⟩ with | some (.int _ x) => if x < 16777216 then 1 else 0 | _ => 0)
    case atStart => exact ⟨false, HO3⟩
    case round =>
      clear HO3
      obtain ⟨fl, hw⟩ := hrel
      cases fl with
      | false =>
        have HO4 : Hid (Iw B W xb rb wr (.slice (some ⟨g, 0, none⟩) m pc) (.slice ao n cap) P2 t) := hw
        have r4 := (unhide HO4).cells.2.2.2.2.1
        by_cases hlt : t.rang < 16777216
        · have hd : decide ((t.rang : Int) < 16777216) = true := decide_eq_true (by omega)
          have e7 := i64_in (256 * (t.rang : Int)) (by omega)
          have ea : (t.code : Int).tmod 16777216 = ((t.code % 16777216 : Nat) : Int) := tmodN t.code 16777216
          obtain ⟨cm, hcm⟩ : ∃ cm, t.code % 16777216 = cm := ⟨_, rfl⟩
          have hcl : cm < 16777216 := by omega
          rw [hcm] at ea
          have eb := i64_in ((cm : Nat) : Int) (by omega)
          have ec := i64_in ((cm : Int) * 256) (by omega)
          have ed := i64_in ((cm : Int) * 256 + (x : Int)) (by omega)
          have hT2 := unhide HWI hlt
          rw [hcm] at hT2
          have HTT := hide hT2
          have HR4 := hide r4
          clear hT2 hcm
          go_wp2_with fail
          refine (unhide HNX wr P2 (unhide HO4)).mono ?_
          rintro e w4 ⟨rfl, hw4⟩
          have k3 := hw4.cells.2.2.2.1
          have k4 := hw4.cells.2.2.2.2.1
          dsimp only at k3 k4
          have f3 := hw4.fz 3
          have f4 := hw4.fz 4
          have HO5 : Hid (Iw B W xb rb ((w4.setCell ⟨rb, 3, none⟩ (.int .i64 ((cm : Int) * 256 + (x : Int)))).setCell ⟨rb, 4, none⟩ (.int .i64 (256 * (t.rang : Int)))) (.slice (some ⟨g, 0, none⟩) m pc) (.slice ao n cap) P2 (cond true t2 t)) := by
            have h5 := (hw4.set3 (cm * 256 + x)).set4 (256 * t.rang)
            have e8 : ((256 * t.rang : Nat) : Int) = 256 * (t.rang : Int) := by omega
            have e9 : ((cm * 256 + x : Nat) : Int) = (cm : Int) * 256 + (x : Int) := by omega
            rw [e8, e9] at h5
            unfold Hid
            rw [cond_true, unhide HTT]
            exact h5
          have r5 : ((w4.setCell ⟨rb, 3, none⟩ (.int .i64 ((cm : Int) * 256 + (x : Int)))).setCell ⟨rb, 4, none⟩ (.int .i64 (256 * (t.rang : Int)))).cell? ⟨rb, 4, none⟩ = some (.int .i64 (256 * (t.rang : Int))) := by
            have h6 := (unhide HO5).cells.2.2.2.2.1
            rw [cond_true, unhide HTT] at h6
            dsimp only at h6
            rw [h6]
            congr 2
          have HR5 := hide r5
          clear hw4 r5 r4 HO4 hw
          go_wp2
          go_roundw
          case rel => exact ⟨true, HO5⟩
          case measure =>
            have h1 := unhide HR5
            have h2 := unhide HR4
            simp only [h1, h2]
            rw [if_pos (show (t.rang : Int) < 16777216 by omega), if_neg (show ¬ 256 * (t.rang : Int) < 16777216 by omega)]
            exact Nat.zero_lt_one
        · have hd : decide ((t.rang : Int) < 16777216) = false := decide_eq_false (by omega)
          have HF : Hid (Iw B W xb rb wr (.slice (some ⟨g, 0, none⟩) m pc) (.slice ao n cap) P2 t2) := by unfold Hid; rw [unhide HWJ hlt]; exact unhide HO4
          clear hw HO4
          go_wp2
          go_ret
          exact ⟨rfl, unhide HF⟩
      | true =>
        have HF : Hid (Iw B W xb rb wr (.slice (some ⟨g, 0, none⟩) m pc) (.slice ao n cap) P2 t2) := hw
        have r4 := (unhide HF).cells.2.2.2.2.1
        have hd : decide ((t2.rang : Int) < 16777216) = false := decide_eq_false (by omega)
        clear hw
        go_wp2
        go_ret
        exact ⟨rfl, unhide HF⟩

end Go.Proofs.Ytekidfkahpaokaa
