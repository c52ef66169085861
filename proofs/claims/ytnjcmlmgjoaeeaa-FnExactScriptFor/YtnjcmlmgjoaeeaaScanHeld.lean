/-
  Scans marked and held by the law.
-/
import Derived.Test.YtnjcmlmgjoaeeaaScanTo
namespace Go.Proofs.Ytnjcmlmgjoaeeaa
open Go.RowKit

def cntSc (a : Scn) : Nat := lenI a.cs + 4
def mkSc (a : Scn) (k : Int) : Scn := ⟨mkI a.cs k, k + lenI a.cs, k + lenI a.cs + 1, k + lenI a.cs + 2, k + lenI a.cs + 3⟩

set_option maxRecDepth 20000 in
set_option maxHeartbeats 3200000 in
theorem heldScanSC : HeldC 35 RdSs (mkR mkSc cntSc) (cntR cntSc) (szR szSc) := by
  intro w u a k hq hs hk0 hk1
  obtain ⟨ao, cap, rfl, hel⟩ := hq
  have HEL := hide hel
  have hlen := szR_len szSc a
  have HSE := hide (fun i h => (szR_el szSc a i h).2)
  rw [mkR_len]
  obtain ⟨n, HN⟩ : ∃ n, Hid (a.length = n) := ⟨_, rfl⟩
  have hn : n ≤ 1048576 := by have := unhide HN; omega
  have HS := hide hs
  obtain ⟨tot, HTOT⟩ : ∃ tot, Hid (cntR cntSc a = tot) := ⟨_, rfl⟩
  rw [unhide HTOT] at hk1 ⊢
  rw [unhide HN]
  clear hel hs hlen
  go_enter Try.func35, Try.ntmps35
  go_wp2
  go_loopw [1, 5] (fun kv iv wr => ∃ (i c : Nat), i ≤ n ∧ iv = .int .i64 i ∧ kv = .int .i64 (k + (c : Int)) ∧ Hid (cntR cntSc (a.take i) = c) ∧ Hid (w.grownBy wr none)) (fun _ iv _ => n - (intOf iv).toNat)
  case atStart => exact ⟨0, 0, Nat.zero_le _, rfl, by simp, rfl, World.grownBy.refl _ _⟩
  case round =>
    obtain ⟨i, c, hin, rfl, rfl, hc, hg⟩ := hrel
    by_cases hlt : i < n
    · have hia : i < a.length := by rw [unhide HN]; exact hlt
      have hnx := cntR_next cntSc a i hia
      have hle := cntR_le cntSc a (i + 1)
      rw [unhide hc] at hnx
      rw [hnx, unhide HTOT] at hle
      obtain ⟨b, off, cf, rfl, k0, k1, q0⟩ := unhide HEL i (by rw [mkR_len]; exact hia)
      rw [mkR_at mkSc cntSc a k i hia, unhide hc] at k1 q0
      obtain ⟨d0, d1, d2, d3, d4⟩ := rowScan k0 k1
      have hsz : lenI a[i].cs ≤ 1048576 := Nat.le_trans (unhide HSE i hia) (unhide HS)
      have HT := hide (heldIntSC wr (cf 0) a[i].cs (k + (c : Int)) (RdI.st .i64 _ _ _ _ q0 (unhide hg)) hsz (by omega) (by unfold cntSc at hle; omega))
      obtain ⟨le, HLE⟩ : ∃ le, Hid (lenI a[i].cs = le) := ⟨_, hide rfl⟩
      obtain ⟨vo, vc, ev, -⟩ := q0
      obtain ⟨vn, HVN⟩ : ∃ vn, Hid ((mkSc a[i] (k + (c : Int))).cs.length = vn) := ⟨_, hide rfl⟩
      rw [unhide HVN] at ev
      have f1 : (mkSc a[i] (k + (c : Int))).fr = k + (c : Int) + (le : Int) := by rw [← unhide HLE]; rfl
      have f2 : (mkSc a[i] (k + (c : Int))).to = k + (c : Int) + (le : Int) + 1 := by rw [← unhide HLE]; rfl
      have f3 : (mkSc a[i] (k + (c : Int))).hi = k + (c : Int) + (le : Int) + 2 := by rw [← unhide HLE]; rfl
      have f4 : (mkSc a[i] (k + (c : Int))).lo = k + (c : Int) + (le : Int) + 3 := by rw [← unhide HLE]; rfl
      have f5 : cntSc a[i] = le + 4 := by rw [← unhide HLE]; rfl
      rw [f1] at d1
      rw [f2] at d2
      rw [f3] at d3
      rw [f4] at d4
      rw [f5] at hnx hle
      rw [ev] at d0 HT
      rw [unhide HLE] at HT
      have HNX := hide hnx
      have hiI : (i : Int) < (n : Int) := by omega
      obtain ⟨m, hm⟩ : ∃ m : Int, k + (c : Int) + (le : Int) = m := ⟨_, rfl⟩
      rw [hm] at d1 d2 d3 d4 HT
      have hm0 : 0 ≤ m ∧ m + 4 ≤ 16777216 := by omega
      have HM := hide hm
      have g0 := (unhide hg).cell d0 (by simp)
      have HDD := hide (And.intro d1 (And.intro d2 (And.intro d3 d4)))
      clear k0 k1 hnx f1 f2 f3 f4 f5 ev d0 d1 d2 d3 d4 hm
      go_wp2_with fail
      refine (unhide HT).mono ?_
      rintro e w2 ⟨rfl, g2⟩
      have G2 := grown_trans (unhide hg) g2
      have d1 := G2.cell (unhide HDD).1 (by simp)
      have d2 := G2.cell (unhide HDD).2.1 (by simp)
      have d3 := G2.cell (unhide HDD).2.2.1 (by simp)
      have d4 := G2.cell (unhide HDD).2.2.2 (by simp)
      have HG2 := hide G2
      clear G2 g2 HT hg g0 HDD
      have hneg : decide (m < 0) = false := decide_eq_false (by omega)
      have e1 := i64_in (m + 1) (by omega)
      have e2 := i64_in (m + 2) (by omega)
      have e3 := i64_in (m + 3) (by omega)
      have e4 := i64_in (m + 4) (by omega)
      have s1 : m + 1 + 1 = m + 2 := by omega
      have s2 : m + 2 + 1 = m + 3 := by omega
      have s3 : m + 3 + 1 = m + 4 := by omega
      have n0 : (m != m) = false := by simp
      have n1 : (m + 1 != m + 1) = false := by simp
      have n2 : (m + 2 != m + 2) = false := by simp
      have n3 : (m + 3 != m + 3) = false := by simp
      go_wp2
      go_roundw
      case rel => exact ⟨i + 1, c + (le + 4), by omega, by go_num, by congr 1; have := unhide HM; omega, HNX, HG2⟩
      case measure => simp [intOf]; omega
    · obtain rfl : i = n := by omega
      have hct : c = tot := by rw [← unhide hc, ← unhide HN, cntR_all]; exact unhide HTOT
      subst hct
      go_wp2
      go_ret
      exact ⟨rfl, unhide hg⟩

theorem own4 {w : World} {g cap n base : Nat} {e : TypeId} {U : Nat → Nat → Value} (h : w.ownsRow base e 5 (.slice (some ⟨g, 0, none⟩) n cap) n (rowsK n 5 U)) (i : Nat) (v a b c d : Value) (hv : U i 0 = v) :
    ((((w.setCell ⟨g, i * 5 + 1, none⟩ a).setCell ⟨g, i * 5 + 2, none⟩ b).setCell ⟨g, i * 5 + 3, none⟩ c).setCell ⟨g, i * 5 + 4, none⟩ d).ownsRow base e 5 (.slice (some ⟨g, 0, none⟩) n cap) n (rowsK n 5 (fun p q => if p = i then five v a b c d q else U p q)) := by
  have s1 := (h.stored (i * 5 + 1) a).1
  rw [rowsK_set n 5 _ i 1 a (by omega)] at s1
  have s2 := (s1.stored (i * 5 + 2) b).1
  rw [rowsK_set n 5 _ i 2 b (by omega)] at s2
  have s3 := (s2.stored (i * 5 + 3) c).1
  rw [rowsK_set n 5 _ i 3 c (by omega)] at s3
  have s4 := (s3.stored (i * 5 + 4) d).1
  rw [rowsK_set n 5 _ i 4 d (by omega)] at s4
  have e9 : rowsK n 5 (fun p q => if p = i then five v a b c d q else U p q) = rowsK n 5 (fun p q => if p = i ∧ q = 4 then d else if p = i ∧ q = 3 then c else if p = i ∧ q = 2 then b else if p = i ∧ q = 1 then a else U p q) := by
    apply rowsK_congr
    intro p q _ hq
    by_cases ep : p = i
    · subst ep
      have : q = 0 ∨ q = 1 ∨ q = 2 ∨ q = 3 ∨ q = 4 := by omega
      rcases this with rfl | rfl | rfl | rfl | rfl <;> simp [five, hv]
    · simp [ep]
  rw [e9]
  exact s4

set_option maxRecDepth 20000 in
set_option maxHeartbeats 3200000 in
theorem markScanSC : MarkC 31 OwSs (mkR mkSc cntSc) (cntR cntSc) (szR szSc) := by
  intro w u a F k hp hnd hs hk0 hk1
  obtain ⟨ao, cap, rfl⟩ := hp.form
  have HND := hide hnd
  have hlen := szR_len szSc a
  have HSE := hide (fun i h => (szR_el szSc a i h).2)
  have H0 : Hid (OwSs w (.slice ao a.length cap) (overR mkSc cntSc a k 0) F) := hp
  obtain ⟨n, HN⟩ : ∃ n, Hid (a.length = n) := ⟨_, rfl⟩
  have hn : n ≤ 1048576 := by have := unhide HN; omega
  have HS := hide hs
  obtain ⟨tot, HTOT⟩ : ∃ tot, Hid (cntR cntSc a = tot) := ⟨_, rfl⟩
  rw [unhide HTOT] at hk1 ⊢
  rw [unhide HN] at H0 ⊢
  obtain ⟨A2, HA2⟩ : ∃ A2, Hid (mkR mkSc cntSc a k = A2) := ⟨_, rfl⟩
  rw [unhide HA2]
  clear hp hs hlen hnd
  go_enter Try.func31, Try.ntmps31
  go_wp2
  go_loopw [1, 5] (fun kv iv wr => ∃ (i c : Nat), i ≤ n ∧ iv = .int .i64 i ∧ kv = .int .i64 (k + (c : Int)) ∧ Hid (cntR cntSc (a.take i) = c) ∧ Hid (OwSs wr (.slice ao n cap) (overR mkSc cntSc a k i) F) ∧ Hid (Wr F w wr)) (fun _ iv _ => n - (intOf iv).toNat)
  case atStart => exact ⟨0, 0, Nat.zero_le _, rfl, by simp, rfl, H0, Wr.refl _ _⟩
  case round =>
    clear H0
    obtain ⟨i, c, hin, rfl, rfl, hc, ho, hw⟩ := hrel
    by_cases hlt : i < n
    · have hia : i < a.length := by rw [unhide HN]; exact hlt
      have ell : (overR mkSc cntSc a k i).length = n := by rw [overR_len _ _ _ _ _ (by omega)]; exact unhide HN
      have hol : i < (overR mkSc cntSc a k i).length := by omega
      have hnx := cntR_next cntSc a i hia
      have hle := cntR_le cntSc a (i + 1)
      rw [unhide hc] at hnx
      rw [hnx, unhide HTOT] at hle
      obtain ⟨g, cap0, cf, Fi, e0, hgF, hgn, hcf, p0, nd0, sub0, back⟩ := OwG.at OwScE.ok (unhide ho) (unhide HND) i hol
      rw [overR_at mkSc cntSc a k i hia] at p0
      obtain ⟨rfl, rfl⟩ : ao = some ⟨g, 0, none⟩ ∧ cap = cap0 := by simp at e0; exact ⟨e0.1, e0.2.2⟩
      obtain ⟨k1, p1⟩ := p0
      have hsz : lenI a[i].cs ≤ 1048576 := Nat.le_trans (unhide HSE i hia) (unhide HS)
      have HT := hide (markIntSC wr (cf 0) a[i].cs Fi (k + (c : Int)) p1 nd0 hsz (by omega) (by unfold cntSc at hle; omega))
      obtain ⟨vo, vc, ev⟩ := own_form p1.1
      obtain ⟨le, HLE⟩ : ∃ le, Hid (lenI a[i].cs = le) := ⟨_, hide rfl⟩
      obtain ⟨vn, HVN⟩ : ∃ vn, Hid (a[i].cs.length = vn) := ⟨_, hide rfl⟩
      have f5 : cntSc a[i] = le + 4 := by rw [← unhide HLE]; rfl
      rw [f5] at hnx hle
      rw [unhide HVN] at ev
      have x0 := (hcf wr (Wr.refl _ _)).1 0 (by omega)
      rw [Nat.add_zero, ev] at x0
      rw [ev, unhide HLE] at HT
      have HNX := hide hnx
      have hiI : (i : Int) < (n : Int) := by omega
      obtain ⟨m, hm⟩ : ∃ m : Int, k + (c : Int) + (le : Int) = m := ⟨_, rfl⟩
      rw [hm] at HT
      have hm0 : 0 ≤ m ∧ m + 4 ≤ 16777216 := by omega
      have HM := hide hm
      have HBK := hide back
      have HSB := hide sub0
      have HCF := hide hcf
      have HEV := hide ev
      clear p1 nd0 back sub0 e0 hnx k1 f5 hm hcf ev
      go_wp2_with fail
      refine (unhide HT).mono ?_
      rintro e w2 ⟨rfl, p2, g2⟩
      obtain ⟨hcc, hff⟩ := unhide HCF w2 g2
      have x1 := hcc 1 (by omega)
      have x2 := hcc 2 (by omega)
      have x3 := hcc 3 (by omega)
      have x4 := hcc 4 (by omega)
      have y1 := hff (i * 5 + 1)
      have y2 := hff (i * 5 + 2)
      have y3 := hff (i * 5 + 3)
      have y4 := hff (i * 5 + 4)
      have GS := grown_trans (grown_trans (grown_trans (grown_set w2 g (i * 5 + 1) (.int .i64 m)) (grown_set _ g (i * 5 + 2) (.int .i64 (m + 1)))) (grown_set _ g (i * 5 + 3) (.int .i64 (m + 2)))) (grown_set _ g (i * 5 + 4) (.int .i64 (m + 3)))
      have hWG : Wr [g] w2 ((((w2.setCell ⟨g, i * 5 + 1, none⟩ (.int .i64 m)).setCell ⟨g, i * 5 + 2, none⟩ (.int .i64 (m + 1))).setCell ⟨g, i * 5 + 3, none⟩ (.int .i64 (m + 2))).setCell ⟨g, i * 5 + 4, none⟩ (.int .i64 (m + 3))) := Wr.ofRow GS (fun x e => by have : g = x := Option.some.inj e; simp [this])
      have h2 := unhide HBK w2 _ (five (.slice vo vn vc) (.int .i64 m) (.int .i64 (m + 1)) (.int .i64 (m + 2)) (.int .i64 (m + 3))) (mkSc a[i] (k + (c : Int))) g2 hWG (fun U h hU => by
        rw [ell] at h ⊢
        exact own4 h i _ _ _ _ _ (by rw [hU 0 (by omega)]; exact unhide HEV)) ⟨by
          have e1 : (mkSc a[i] (k + (c : Int))).fr = m := by rw [← unhide HM, ← unhide HLE]; rfl
          have e2 : (mkSc a[i] (k + (c : Int))).to = m + 1 := by rw [← unhide HM, ← unhide HLE]; rfl
          have e3 : (mkSc a[i] (k + (c : Int))).hi = m + 2 := by rw [← unhide HM, ← unhide HLE]; rfl
          have e4 : (mkSc a[i] (k + (c : Int))).lo = m + 3 := by rw [← unhide HM, ← unhide HLE]; rfl
          unfold scC
          rw [e1, e2, e3, e4]
          exact ⟨rfl, rfl, rfl, rfl⟩, ok1.wr p2 hWG (fun x hx e => by simp at e; subst e; exact hgn hx)⟩
      rw [← unhide hc, overR_set mkSc cntSc a k i hia] at h2
      have HO2 := hide h2
      have HW2 := hide (((unhide hw).trans (g2.mono (unhide HSB))).trans (hWG.mono (fun x hx => by simp at hx; subst hx; exact hgF)))
      have e1 := i64_in (m + 1) (by omega)
      have e2 := i64_in (m + 2) (by omega)
      have e3 := i64_in (m + 3) (by omega)
      have e4 := i64_in (m + 4) (by omega)
      have s1 : m + 1 + 1 = m + 2 := by omega
      have s2 : m + 2 + 1 = m + 3 := by omega
      have s3 : m + 3 + 1 = m + 4 := by omega
      clear p2 g2 h2 HT HBK HSB ho hw hcc hff GS hWG HCF hgF hgn x0
      go_wp2
      go_roundw
      case rel => exact ⟨i + 1, c + (le + 4), by omega, by go_num, by congr 1; have := unhide HM; omega, HNX, HO2, HW2⟩
      case measure => simp [intOf]; omega
    · obtain rfl : i = n := by omega
      have HO4 : Hid (OwSs wr (.slice ao i cap) A2 F) := by
        have h := unhide ho
        have e9 : overR mkSc cntSc a k i = A2 := by rw [← unhide HN, overR_all]; exact unhide HA2
        rw [e9] at h
        exact h
      have hct : c = tot := by rw [← unhide hc, ← unhide HN, cntR_all]; exact unhide HTOT
      subst hct
      clear ho hc
      go_wp2
      go_ret
      exact ⟨rfl, unhide HO4, unhide hw⟩

end Go.Proofs.Ytnjcmlmgjoaeeaa
