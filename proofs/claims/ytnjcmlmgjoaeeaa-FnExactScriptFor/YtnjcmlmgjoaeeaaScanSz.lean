/-
  How much scans are, as the law counts.
-/
import Derived.Test.YtnjcmlmgjoaeeaaScanHeld
namespace Go.Proofs.Ytnjcmlmgjoaeeaa
open Go.RowKit

def RdScZ (w : World) (u : Value) (a : Scn) : Prop := ∃ v, u = scV v a ∧ RdZ (RdI .i64) w v a.cs
def RdScEZ (w : World) (c : Nat → Value) (a : Scn) : Prop := scC c a ∧ RdZ (RdI .i64) w (c 0) a.cs
abbrev RdSsZ := RdZ (RdG 5 RdScEZ)
theorem RdSsZ.rd {w : World} {v : Value} {L : List Scn} (h : RdSsZ w v L) : RdSs w v L := by
  obtain ⟨⟨ao, cap, e, hel⟩, _⟩ := h
  exact ⟨ao, cap, e, fun i hi => by obtain ⟨b, off, c, e1, h1, h2, h3, _⟩ := hel i hi; exact ⟨b, off, c, e1, h1, h2, h3⟩⟩

set_option maxHeartbeats 800000 in
theorem szScanC (w : World) (u : Value) (a : Scn) (left : Nat) (hq : RdScZ w u a) (hl : left ≤ 1048576) (r : Int) (HR : Hid ((if szSc a ≤ left then (left : Int) - szSc a else -1) = r)) :
    Calls Try.prog 19 #[u, .int .i64 left] w fun e w' => e = .returned (.int .i64 r) ∧ w.grownBy w' none := by
  obtain ⟨v, rfl, hv⟩ := hq
  obtain ⟨cs, fr, to, hi, lo⟩ := a
  obtain ⟨⟨vo, vc, rfl, hr⟩, hm⟩ := id hv
  clear hr hm
  dsimp only at hv ⊢
  obtain ⟨vn, HVN⟩ : ∃ vn, Hid (cs.length = vn) := ⟨_, rfl⟩
  rw [unhide HVN] at hv ⊢
  have G0 : w.grownBy (w.alloc (.cells #[.slice vo vn vc, .int .i64 fr, .int .i64 to, .int .i64 hi, .int .i64 lo] 43)) none := World.grownBy_alloc _ _ _
  obtain ⟨c0, -, -, -, -⟩ := scanCells (heap_alloc_new w (.cells #[.slice vo vn vc, .int .i64 fr, .int .i64 to, .int .i64 hi, .int .i64 lo] 43))
  have HT := hide (szIntSC _ (.slice vo vn vc) cs left ⟨RdI.st .i64 _ _ _ _ hv.1 G0, hv.2⟩ hl)
  have e1 : (if lenI cs ≤ left then (left : Int) - lenI cs else -1) = r := unhide HR
  rw [e1] at HT
  have hrr : r = -1 ∨ (0 ≤ r ∧ r ≤ 1048576) := by
    rw [← e1]
    split
    · right; omega
    · left; rfl
  have HG0 := hide G0
  clear hv G0 e1 HR
  unfold scV
  dsimp only
  go_enter Try.func19, Try.ntmps19
  go_wp2_with fail
  refine (unhide HT).mono ?_
  rintro e w1 ⟨rfl, rfl⟩
  rcases hrr with rfl | h
  · go_wp2
    go_ret
    exact ⟨rfl, unhide HG0⟩
  · have hd : decide (r < 0) = false := decide_eq_false (by omega)
    go_wp2
    go_ret
    exact ⟨rfl, unhide HG0⟩

set_option maxRecDepth 20000 in
set_option maxHeartbeats 1600000 in
theorem szScanSC (w : World) (u : Value) (a : List Scn) (left : Nat) (hq : RdSsZ w u a) (hl : left ≤ 1048576) (res : Int) (HRES : Hid ((if szR szSc a ≤ left then (left : Int) - szR szSc a else -1) = res)) :
    Calls Try.prog 26 #[u, .int .i64 left] w fun e w' => e = .returned (.int .i64 res) ∧ w.grownBy w' none := by
  obtain ⟨⟨ao, cap, rfl, hel⟩, hmx⟩ := hq
  unfold maxLen at hmx
  have HEL := hide hel
  obtain ⟨n, HN⟩ : ∃ n, Hid (a.length = n) := ⟨_, rfl⟩
  have HSZ : Hid (szR szSc a = n + cntR szSc a) := by unfold Hid szR; rw [unhide HN]; rfl
  rw [unhide HN] at hmx ⊢
  have e1 := i64_in ((left : Int) - (n : Int)) (by omega)
  clear hel
  by_cases hnl : n ≤ left
  · have hd : decide ((left : Int) - (n : Int) < 0) = false := decide_eq_false (by omega)
    go_enter Try.func26, Try.ntmps26
    go_wp2
    go_loopw [1, 5] (fun kv iv wr => ∃ (i c : Nat), i ≤ n ∧ iv = .int .i64 i ∧ kv = .int .i64 ((left : Int) - (n : Int) - (c : Int)) ∧ n + c ≤ left ∧ Hid (cntR szSc (a.take i) = c) ∧ Hid (w.grownBy wr none)) (fun _ iv _ => n - (intOf iv).toNat)
    case atStart => exact ⟨0, 0, Nat.zero_le _, rfl, by simp, by omega, rfl, World.grownBy.refl _ _⟩
    case round =>
      obtain ⟨i, c, hin, rfl, rfl, hcl, hc, hg⟩ := hrel
      by_cases hlt : i < n
      · have hia : i < a.length := by rw [unhide HN]; exact hlt
        have hnx := cntR_next szSc a i hia
        have hle := cntR_le szSc a (i + 1)
        rw [unhide hc] at hnx
        obtain ⟨b, off, cf, rfl, k0, k1, q0⟩ := unhide HEL i hia
        obtain ⟨d0, d1, d2, d3, d4⟩ := rowScan (fun j hj => (unhide hg).cell (k0 j hj) (by simp)) k1
        obtain ⟨lf, hlf⟩ : ∃ lf : Nat, left - n - c = lf := ⟨_, rfl⟩
        have e2 : (left : Int) - (n : Int) - (c : Int) = (lf : Int) := by omega
        obtain ⟨ce, HCE⟩ : ∃ ce, Hid (szSc a[i] = ce) := ⟨_, hide rfl⟩
        obtain ⟨rr, HRR⟩ : ∃ rr : Int, Hid ((if szSc a[i] ≤ lf then (lf : Int) - szSc a[i] else -1) = rr) := ⟨_, hide rfl⟩
        have HT := hide (szScanC wr (scV (cf 0) a[i]) a[i] lf ⟨_, rfl, RdI.st .i64 _ _ _ _ q0.1 (unhide hg), q0.2⟩ (by omega) rr HRR)
        obtain ⟨⟨vo, vc, ev, -⟩, -⟩ := q0
        rw [ev] at HT d0
        unfold scV at HT
        have hrr := unhide HRR
        rw [unhide HCE] at hnx hrr
        have hiI : (i : Int) < (n : Int) := by omega
        obtain ⟨A, HAA⟩ : ∃ A, Hid (a[i] = A) := ⟨_, hide rfl⟩
        rw [unhide HAA] at HT d0 d1 d2 d3 d4
        obtain ⟨vn, HVN⟩ : ∃ vn, Hid (A.cs.length = vn) := ⟨_, rfl⟩
        rw [unhide HVN] at HT d0
        rw [e2]
        clear k0 k1 ev HCE HRR
        by_cases hce : ce ≤ lf
        · rw [if_pos hce] at hrr
          have hneg : decide (rr < 0) = false := decide_eq_false (by omega)
          have HNX := hide hnx
          have HRQ : Hid (rr = (left : Int) - (n : Int) - ((c + ce : Nat) : Int)) := by unfold Hid; omega
          clear hnx hle hrr
          go_wp2_with fail
          refine (unhide HT).mono ?_
          rintro e w2 ⟨rfl, g2⟩
          have HG2 := hide (grown_trans (unhide hg) g2)
          clear HT g2 hg d0 d1 d2 d3 d4
          go_wp2
          go_roundw
          case rel => exact ⟨i + 1, c + ce, by omega, by go_num, by rw [unhide HRQ], by omega, HNX, HG2⟩
          case measure => simp [intOf]; omega
        · rw [if_neg hce] at hrr
          have hres : res = -1 := by
            rw [← unhide HRES, if_neg]
            rw [unhide HSZ]
            omega
          subst hres
          subst hrr
          clear hnx hle
          go_wp2_with fail
          refine (unhide HT).mono ?_
          rintro e w2 ⟨rfl, g2⟩
          have HG2 := hide (grown_trans (unhide hg) g2)
          clear HT g2 hg d0 d1 d2 d3 d4
          go_wp2
          go_ret
          exact ⟨rfl, unhide HG2⟩
      · obtain rfl : i = n := by omega
        have hct : cntR szSc a = c := by rw [← unhide hc, ← unhide HN, cntR_all]
        have hres : res = (left : Int) - (i : Int) - (c : Int) := by
          rw [← unhide HRES, unhide HSZ, hct, if_pos (by omega)]
          omega
        subst hres
        clear hc hct
        go_wp2
        go_ret
        exact ⟨rfl, unhide hg⟩
  · have hd : decide ((left : Int) - (n : Int) < 0) = true := decide_eq_true (by omega)
    have hres : res = -1 := by
      rw [← unhide HRES, if_neg]
      rw [unhide HSZ]
      omega
    subst hres
    go_enter Try.func26, Try.ntmps26
    go_wp2
    go_ret
    exact ⟨rfl, World.grownBy.refl _ _⟩

end Go.Proofs.Ytnjcmlmgjoaeeaa
