/-
  A bit is told, in the specification.
-/
import Derived.Test.YtemfonnkaddmfaaCoderLay
namespace Go.Proofs.Ytemfonnkaddmfaa
open Go.RowKit

/-- The likelihoods are others. -/
theorem Ow.like {B w w' : World} {xb ob : Nat} {v u : Value} {P P' : List Nat} {s : En} (h : Ow B xb ob w v u P s) (hl : Lk B xb w' v P') (g : w.grownBy w' v.ownBlock) : Ow B xb ob w' v u P' s :=
  ⟨hl, own_beneath h.own g (fun a b e1 e2 e3 => h.n5 b e2 (by rw [← e3]; exact e1)), grown_atC g h.box h.n1, h.n1, h.n2, h.n3, h.n4, h.n5, h.base⟩

theorem wide_lo {s : En} (h : OkE s) {p : Nat} (hp : okP p) (b : Nat) : 16777216 ≤ (wideE (midE s p b)).rang := (put_ok h hp b).lo

set_option maxRecDepth 20000 in
set_option maxHeartbeats 3200000 in
theorem specPut {B w : World} {xb ob : Nat} {v u : Value} {P : List Nat} {s : En} (h : Ow B xb ob w v u P s) (hok : OkE s) (c b : Nat) (hc : c < P.length) (hb : b ≤ 1) (hp : okP (P.getD c 2048)) (hlen : s.out.length ≤ 900000) :
    Calls Try.prog 36 #[.pointer (some ⟨ob, 0, none⟩), .int .i64 c, .int .i64 b] w fun e w' => e = .returned (.tuple #[]) ∧ ∃ u', Ow B xb ob w' v u' (P.set c (learnN (P.getD c 2048) b)) (putE s (P.getD c 2048) b) := by
  obtain ⟨c0, c1, c2, c3, c4⟩ := h.cells
  obtain ⟨po, pc, rfl⟩ := own_form h.lk.own
  obtain ⟨g, rfl, _, _⟩ := own_at h.lk.own (by omega)
  have c5 : w.cell? ⟨g, c, none⟩ = some (.int .i64 ((P.getD c 2048 : Nat) : Int)) := by rw [h.lk.own.cellAt c (by omega)]; exact pCells_at P c hc
  obtain ⟨m1, m2, m3, m4, m5, m6⟩ := mid_ok hok hp b
  have hwl := wide_lo hok hp b
  have hpb := part_bounds hok.lo hp
  have hrh := hok.hi
  have hlw := hok.low
  have hlayok : OkL (midE s (P.getD c 2048) b) := ⟨by omega, by rw [m6]; exact hok.bytes, by rw [m6]; have := hok.room; omega⟩
  have HLEARN : Hid (∀ (W : World) (st : En), Ow B xb ob W (.slice (some ⟨g, 0, none⟩) P.length pc) u P st → Calls Try.prog 57 #[.pointer (some ⟨xb, 0, none⟩), .int .i64 c, .int .i64 b] W fun e w' => e = .returned (.tuple #[]) ∧ Ow B xb ob w' (.slice (some ⟨g, 0, none⟩) P.length pc) u (P.set c (learnN (P.getD c 2048) b)) st) := fun W st hW =>
    (specLearn hW.lk c b hc hb hp).mono fun e w' hh => ⟨hh.1, hW.like hh.2.1 hh.2.2⟩
  obtain ⟨P2, HP2⟩ : ∃ P2, Hid (P.set c (learnN (P.getD c 2048) b) = P2) := ⟨_, rfl⟩
  rw [unhide HP2] at HLEARN ⊢
  obtain ⟨n, HN⟩ : ∃ n, Hid (P.length = n) := ⟨_, rfl⟩
  have hcI : (c : Int) < (n : Int) := by have := unhide HN; omega
  rw [unhide HN] at h c4 HLEARN
  rw [unhide HN]
  generalize P.getD c 2048 = p at *
  have e1 : (s.rang : Int).tdiv 4096 = ((s.rang / 4096 : Nat) : Int) := tdivN s.rang 4096
  obtain ⟨q, hq⟩ : ∃ q, s.rang / 4096 = q := ⟨_, rfl⟩
  rw [hq] at e1 hpb
  have e2 := i64_in ((q : Nat) : Int) (by omega)
  obtain ⟨pt, hpt⟩ : ∃ pt, q * p = pt := ⟨_, rfl⟩
  rw [hpt] at hpb
  have e3 : (q : Int) * (p : Int) = (pt : Int) := by rw [← hpt]; simp
  have e4 := i64_in ((pt : Nat) : Int) (by omega)
  have hME : midE s p b = if b = 0 then ⟨s.low, pt, s.out⟩ else ⟨s.low + pt, s.rang - pt, s.out⟩ := by unfold midE; rw [hq, hpt]
  have HPE : Hid (putE s p b = wideE (midE s p b)) := rfl
  obtain ⟨t, HT⟩ : ∃ t, Hid (midE s p b = t) := ⟨_, rfl⟩
  rw [unhide HT] at hME hwl m1 m2 m3 m6 HPE hlayok
  rw [unhide HPE]
  obtain ⟨W0, HW0⟩ : ∃ W0, Hid (w = W0) := ⟨_, rfl⟩
  have HOW := hide h
  have HME := hide hME
  have HLAY := hide hlayok
  have HLEN : Hid (t.out.length ≤ 900000) := by unfold Hid; rw [m6]; exact hlen
  clear h hME hlayok m4 m5 m6 hok hp HW0
  have HW2 : Hid (∀ W u', Ow B xb ob W (.slice (some ⟨g, 0, none⟩) n pc) u' P2 t → t.rang < 16777216 → Calls Try.prog 58 #[.pointer (some ⟨ob, 0, none⟩)] W fun e w' => e = .returned (.tuple #[]) ∧ ∃ u2, Ow B xb ob w' (.slice (some ⟨g, 0, none⟩) n pc) u2 P2 (layN t)) := fun W u' hW _ => specLay hW (unhide HLAY).low (unhide HLAY).bytes (by have := unhide HLEN; omega)
  have hwide : t.rang < 16777216 → wideE t = ⟨(layN t).low, 256 * t.rang, (layN t).out⟩ := fun hh => by unfold wideE; rw [if_pos hh]
  have hwid2 : ¬ t.rang < 16777216 → wideE t = t := fun hh => by unfold wideE; rw [if_neg hh]
  have hlr : (layN t).rang = t.rang := rfl
  have HWI := hide hwide
  have HWJ := hide hwid2
  have HLR := hide hlr
  clear hwide hwid2 hlr
  rcases (show b = 0 ∨ b = 1 by omega) with rfl | rfl
  · have ht := unhide HME
    rw [if_pos rfl] at ht
    have HT2 : Hid (t = ⟨s.low, pt, s.out⟩) := ht
    clear ht
    have HS2 : Hid (∀ nq, Ow B xb ob ((w.drewN nq).setCell ⟨ob, 2, none⟩ (.int .i64 ((pt : Nat) : Int))) (.slice (some ⟨g, 0, none⟩) n pc) u P t) := fun nq => by
      rw [unhide HT2]
      exact ((unhide HOW).drewN (grown_drewN (World.grownBy.refl _ _) nq)).set2 pt
    have f2 := (unhide HOW).fz 2
    go_enter Try.func36, Try.ntmps36
    go_wp2
    go_quiet (fail)
    have HS3 := hide (unhide HS2 nq)
    clear HS2
    go_wp2_with fail
    refine (unhide HLEARN _ _ (unhide HS3)).mono ?_
    rintro e w3 ⟨rfl, hw3⟩
    have HO3 : Hid (Ow B xb ob w3 (.slice (some ⟨g, 0, none⟩) n pc) u P2 (cond false (wideE t) t)) := hw3
    clear hw3 HS3 HLEARN HOW c0 c1 c2 c3 c4 c5
    go_wp2
    go_loopw [58] (fun _ wr => ∃ (fl : Bool) (u' : Value), Hid (Ow B xb ob wr (.slice (some ⟨g, 0, none⟩) n pc) u' P2 (cond fl (wideE t) t))) (fun _ wr => match wr.cell? ⟨ob, 2, none⟩ with | some (.int _ x) => if x < 16777216 then 1 else 0 | _ => 0)
    case atStart => exact ⟨false, u, HO3⟩
    case round =>
      clear HO3
      obtain ⟨fl, u', hw⟩ := hrel
      cases fl with
      | false =>
        have HO4 : Hid (Ow B xb ob wr (.slice (some ⟨g, 0, none⟩) n pc) u' P2 t) := hw
        have r2 := (unhide HO4).cells.2.2.1
        by_cases hlt : t.rang < 16777216
        · have hd : decide ((t.rang : Int) < 16777216) = true := decide_eq_true (by omega)
          have e7 := i64_in (256 * (t.rang : Int)) (by omega)
          have HR2 := hide r2
          go_wp2_with fail
          refine (unhide HW2 wr u' (unhide HO4) hlt).mono ?_
          rintro e w4 ⟨rfl, u2, hw4⟩
          have r4 := hw4.cells.2.2.1
          rw [unhide HLR] at r4
          have f4 := hw4.fz 2
          have HO5 : Hid (Ow B xb ob (w4.setCell ⟨ob, 2, none⟩ (.int .i64 (256 * (t.rang : Int)))) (.slice (some ⟨g, 0, none⟩) n pc) u2 P2 (cond true (wideE t) t)) := by
            have h5 := hw4.set2 (256 * t.rang)
            have e8 : ((256 * t.rang : Nat) : Int) = 256 * (t.rang : Int) := by omega
            rw [e8] at h5
            unfold Hid
            rw [cond_true, unhide HWI hlt]
            exact h5
          have r5 : (w4.setCell ⟨ob, 2, none⟩ (.int .i64 (256 * (t.rang : Int)))).cell? ⟨ob, 2, none⟩ = some (.int .i64 (256 * (t.rang : Int))) := by
            have h6 := (unhide HO5).cells.2.2.1
            rw [cond_true, unhide HWI hlt] at h6
            dsimp only at h6
            rw [h6]
            congr 2
          have HR5 := hide r5
          clear hw4 r5 r2 HO4 hw
          go_wp2
          go_roundw
          case rel => exact ⟨true, u2, HO5⟩
          case measure =>
            have h1 := unhide HR5
            have h2 := unhide HR2
            simp only [h1, h2]
            rw [if_pos (show (t.rang : Int) < 16777216 by omega), if_neg (show ¬ 256 * (t.rang : Int) < 16777216 by omega)]
            exact Nat.zero_lt_one
        · have hd : decide ((t.rang : Int) < 16777216) = false := decide_eq_false (by omega)
          have HF : Hid (Ow B xb ob wr (.slice (some ⟨g, 0, none⟩) n pc) u' P2 (wideE t)) := by unfold Hid; rw [unhide HWJ hlt]; exact unhide HO4
          clear hw HO4
          go_wp2
          exact bodyPost_end (v := .tuple #[]) (by simp [results, Try.results36, go_sem]) rfl ⟨rfl, u', unhide HF⟩
      | true =>
        have HF : Hid (Ow B xb ob wr (.slice (some ⟨g, 0, none⟩) n pc) u' P2 (wideE t)) := hw
        have r2 := (unhide HF).cells.2.2.1
        obtain ⟨t2, HX2⟩ : ∃ t2, Hid (wideE t = t2) := ⟨_, rfl⟩
        rw [unhide HX2] at r2 hwl
        have hd : decide ((t2.rang : Int) < 16777216) = false := decide_eq_false (by omega)
        clear hw
        go_wp2
        exact bodyPost_end (v := .tuple #[]) (by simp [results, Try.results36, go_sem]) rfl ⟨rfl, u', unhide HF⟩
  · have ht := unhide HME
    rw [if_neg (by omega)] at ht
    have HT2 : Hid (t = ⟨s.low + pt, s.rang - pt, s.out⟩) := ht
    clear ht
    have e5 := i64_in ((s.low : Int) + (pt : Int)) (by omega)
    have e6 := i64_in ((s.rang : Int) - (pt : Int)) (by omega)
    have HS2 : Hid (∀ nq, Ow B xb ob (((w.drewN nq).setCell ⟨ob, 1, none⟩ (.int .i64 ((s.low : Int) + (pt : Int)))).setCell ⟨ob, 2, none⟩ (.int .i64 ((s.rang : Int) - (pt : Int)))) (.slice (some ⟨g, 0, none⟩) n pc) u P t) := fun nq => by
      rw [unhide HT2]
      have h1 := (((unhide HOW).drewN (grown_drewN (World.grownBy.refl _ _) nq)).set1 (s.low + pt)).set2 (s.rang - pt)
      have e8 : ((s.low + pt : Nat) : Int) = (s.low : Int) + (pt : Int) := by omega
      have e9 : ((s.rang - pt : Nat) : Int) = (s.rang : Int) - (pt : Int) := by omega
      rw [e8, e9] at h1
      exact h1
    have f1 := (unhide HOW).fz 1
    have f2 := (unhide HOW).fz 2
    go_enter Try.func36, Try.ntmps36
    go_wp2
    go_quiet (fail)
    have HS3 := hide (unhide HS2 nq)
    clear HS2
    go_wp2_with fail
    refine (unhide HLEARN _ _ (unhide HS3)).mono ?_
    rintro e w3 ⟨rfl, hw3⟩
    have HO3 : Hid (Ow B xb ob w3 (.slice (some ⟨g, 0, none⟩) n pc) u P2 (cond false (wideE t) t)) := hw3
    clear hw3 HS3 HLEARN HOW c0 c1 c2 c3 c4 c5
    go_wp2
    go_loopw [58] (fun _ wr => ∃ (fl : Bool) (u' : Value), Hid (Ow B xb ob wr (.slice (some ⟨g, 0, none⟩) n pc) u' P2 (cond fl (wideE t) t))) (fun _ wr => match wr.cell? ⟨ob, 2, none⟩ with | some (.int _ x) => if x < 16777216 then 1 else 0 | _ => 0)
    case atStart => exact ⟨false, u, HO3⟩
    case round =>
      clear HO3
      obtain ⟨fl, u', hw⟩ := hrel
      cases fl with
      | false =>
        have HO4 : Hid (Ow B xb ob wr (.slice (some ⟨g, 0, none⟩) n pc) u' P2 t) := hw
        have r2 := (unhide HO4).cells.2.2.1
        by_cases hlt : t.rang < 16777216
        · have hd : decide ((t.rang : Int) < 16777216) = true := decide_eq_true (by omega)
          have e7 := i64_in (256 * (t.rang : Int)) (by omega)
          have HR2 := hide r2
          go_wp2_with fail
          refine (unhide HW2 wr u' (unhide HO4) hlt).mono ?_
          rintro e w4 ⟨rfl, u2, hw4⟩
          have r4 := hw4.cells.2.2.1
          rw [unhide HLR] at r4
          have f4 := hw4.fz 2
          have HO5 : Hid (Ow B xb ob (w4.setCell ⟨ob, 2, none⟩ (.int .i64 (256 * (t.rang : Int)))) (.slice (some ⟨g, 0, none⟩) n pc) u2 P2 (cond true (wideE t) t)) := by
            have h5 := hw4.set2 (256 * t.rang)
            have e8 : ((256 * t.rang : Nat) : Int) = 256 * (t.rang : Int) := by omega
            rw [e8] at h5
            unfold Hid
            rw [cond_true, unhide HWI hlt]
            exact h5
          have r5 : (w4.setCell ⟨ob, 2, none⟩ (.int .i64 (256 * (t.rang : Int)))).cell? ⟨ob, 2, none⟩ = some (.int .i64 (256 * (t.rang : Int))) := by
            have h6 := (unhide HO5).cells.2.2.1
            rw [cond_true, unhide HWI hlt] at h6
            dsimp only at h6
            rw [h6]
            congr 2
          have HR5 := hide r5
          clear hw4 r5 r2 HO4 hw
          go_wp2
          go_roundw
          case rel => exact ⟨true, u2, HO5⟩
          case measure =>
            have h1 := unhide HR5
            have h2 := unhide HR2
            simp only [h1, h2]
            rw [if_pos (show (t.rang : Int) < 16777216 by omega), if_neg (show ¬ 256 * (t.rang : Int) < 16777216 by omega)]
            exact Nat.zero_lt_one
        · have hd : decide ((t.rang : Int) < 16777216) = false := decide_eq_false (by omega)
          have HF : Hid (Ow B xb ob wr (.slice (some ⟨g, 0, none⟩) n pc) u' P2 (wideE t)) := by unfold Hid; rw [unhide HWJ hlt]; exact unhide HO4
          clear hw HO4
          go_wp2
          exact bodyPost_end (v := .tuple #[]) (by simp [results, Try.results36, go_sem]) rfl ⟨rfl, u', unhide HF⟩
      | true =>
        have HF : Hid (Ow B xb ob wr (.slice (some ⟨g, 0, none⟩) n pc) u' P2 (wideE t)) := hw
        have r2 := (unhide HF).cells.2.2.1
        obtain ⟨t2, HX2⟩ : ∃ t2, Hid (wideE t = t2) := ⟨_, rfl⟩
        rw [unhide HX2] at r2 hwl
        have hd : decide ((t2.rang : Int) < 16777216) = false := decide_eq_false (by omega)
        clear hw
        go_wp2
        exact bodyPost_end (v := .tuple #[]) (by simp [results, Try.results36, go_sem]) rfl ⟨rfl, u', unhide HF⟩

end Go.Proofs.Ytemfonnkaddmfaa
