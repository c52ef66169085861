/-
  Waves in the specification: Forward, Inverse.
-/
import Derived.Test.YtoeehfjbnbbijabDoorWaveSpec
import Derived.Test.YtoeehfjbnbbijabDoorWaveImpl5
namespace Go.Proofs.YtoeehfjbnbbijabDoor
open Go.RowKit

theorem OutI.drewN {B S : World} {g0 : Nat} {wr : World} {v : Value} {n : Nat} {xs : List Int} (h : OutI B S g0 wr v n xs) (q : Nat) : OutI B S g0 (wr.drewN q) v n xs :=
  ⟨h.own, grown_drewN h.base q, grown_drewN h.kept q, h.lies⟩
/-- What is summed. -/
def fwdT (z : Nat → Int) (u v y x : Nat) : Int := z (8 * y + x) * wv (8 * u + y) * wv (8 * v + x)
def invT (z : Nat → Int) (y x u v : Nat) : Int := z (8 * u + v) * wv (8 * u + y) * wv (8 * v + x)
theorem prod3_in {a b c : Int} (ha : -32767 ≤ a ∧ a ≤ 32767) (hb : -2048 ≤ b ∧ b ≤ 2048) (hc : -2048 ≤ c ∧ c ≤ 2048) : (-67106816 ≤ a * b ∧ a * b ≤ 67106816) ∧ (-137434759168 ≤ a * b * c ∧ a * b * c ≤ 137434759168) := by
  have h1 := mul_within (A := 32767) (B := 2048) ha hb
  have h2 := mul_within (A := 67106816) (B := 2048) (a := a * b) (b := c) (by omega) hc
  omega
theorem sums_in {f : Nat → Nat → Int} (h : ∀ c, c < 8 → ∀ d, d < 8 → -137434759168 ≤ f c d ∧ f c d ≤ 137434759168) (c d : Nat) (hc : c ≤ 8) (hd : d ≤ 8) (hcd : c = 8 → d = 0) :
    -10000000000000 ≤ sumTo (fun i => sumTo (f i) 8) c + sumTo (f c) d ∧ sumTo (fun i => sumTo (f i) 8) c + sumTo (f c) d ≤ 10000000000000 := by
  have h1 := sumTo_bound (f := fun i => sumTo (f i) 8) (n := c) (M := 1099478073344) (fun i hi => by
    have := sumTo_bound (f := f i) (n := 8) (M := 137434759168) (fun j hj => h i (by omega) j hj)
    omega)
  have h2 : -(8 * 137434759168) ≤ sumTo (f c) d ∧ sumTo (f c) d ≤ 8 * 137434759168 := by
    by_cases e : c = 8
    · rw [hcd e]; simp [sumTo]
    · exact sum_in hd (by omega) (fun i hi => h c (by omega) i (by omega))
  have h3 : (c : Int) * 1099478073344 ≤ 8 * 1099478073344 := Int.mul_le_mul_of_nonneg_right (by omega) (by omega)
  omega

set_option maxRecDepth 20000 in
set_option maxHeartbeats 6400000 in
theorem specForward (ao : Option Addr) (n cap : Nat) (zs : List Int) (w : World) (hr : Rd .i64 w ao n zs) (b : Bool) (hb : Hid (numsB (-2048) 2047 zs = b)) (L : List Int) (HL : Hid ((if b then fwdL zs else []) = L)) :
    Calls Tryd.prog 8 #[.slice ao n cap] w fun e w' => ∃ so sc, e = .returned (.slice so L.length sc) ∧ w'.ownsRow w.heap.size 3 1 (.slice so L.length sc) L.length (L.map (Value.int .i64)) ∧ w.grownBy w' none := by
  have HO : Hid ((w.alloc (.cells #[] 3)).ownsRow w.heap.size 3 1 (.slice (some ⟨w.heap.size, 0, none⟩) 0 0) 0 []) := World.ownsRow_lit w #[] 0 (Nat.le_refl _) (by unfold maxLen; omega) rfl
  have HR := hide (hr.grown (World.grownBy_alloc w (.cells #[] 3) none))
  have HN := hide hr.1
  have HLW := hide hr.lt
  clear hr
  go_enter Tryd.func8, Tryd.ntmps8
  go_wp2_with fail
  refine (specSamplesOk ao n cap zs _ (unhide HR) b hb).mono ?_
  rintro e w1 ⟨rfl, g1⟩
  have HG1 : Hid (w.grownBy w1 none) := grown_trans (World.grownBy_alloc _ _ _) g1
  have HO1 := hide (own_grown (unhide HO) g1)
  have HR1 := hide ((unhide HR).grown g1)
  clear g1 HO HR
  cases b with
  | false =>
    have e : L = [] := (unhide HL).symm
    subst e
    go_wp2
    go_ret
    exact ⟨_, _, rfl, unhide HO1, unhide HG1⟩
  | true =>
    have hz := (nums_at (unhide hb)).1
    have hn : n = 64 := by rw [← unhide HN]; exact hz
    subst hn
    have HBD : Hid (∀ j, j < 64 → -32767 ≤ zs.getD j 0 ∧ zs.getD j 0 ≤ 32767) := fun j hj => by have := (nums_at (unhide hb)).2 j hj; omega
    have e : L = fwdL zs := (unhide HL).symm
    subst e
    clear HL hb
    have HZ := hide hz
    clear hz
    go_wp2_with fail
    refine (specBasis w1).mono ?_
    rintro e w2 ⟨zo, zc, rfl, oz, g2⟩
    have hs1 : w.heap.size < w1.heap.size := by have := (unhide HO1).lt w.heap.size rfl; omega
    have HZL : Hid (∀ b off, zo = some ⟨b, off, none⟩ → b ≠ w.heap.size) := by
      intro b off e
      subst e
      have h := (oz.lt b (by simp [Value.ownBlock])).1
      omega
    have HRL : Hid (∀ b off, ao = some ⟨b, off, none⟩ → b ≠ w.heap.size) := by
      intro b off e
      exact Nat.ne_of_lt (unhide HLW (by omega) b off e)
    have HO2 : Hid (OutI w w2 w.heap.size w2 (.slice (some ⟨w.heap.size, 0, none⟩) 0 0) 0 []) := ⟨own_grown (unhide HO1) g2, grown_trans (unhide HG1) g2, World.grownBy.refl _ _, fun g e => by simp [Value.ownBlock] at e; left; exact e.symm⟩
    have hZZ := own_rd oz
    have hR2 := (unhide HR1).grown g2
    have ezl : (wvL.length : Nat) = 64 := wv_len
    rw [ezl] at hZZ
    rw [ezl]
    obtain ⟨zb, zoff, rfl, _⟩ := hZZ.2 0 (by omega)
    obtain ⟨ab, aoff, rfl, _⟩ := hR2.2 0 (by omega)
    have HCZ : Hid (∀ (wr : World), w2.grownBy wr (some w.heap.size) → ∀ i, i < 64 → wr.cell? ⟨zb, zoff + i, none⟩ = some (.int .i64 (wv i))) := by
      intro wr hg i hi
      obtain ⟨b', o', e, hc⟩ := hZZ.2 i hi
      simp only [Option.some.injEq, Addr.mk.injEq, and_true] at e
      obtain ⟨rfl, rfl⟩ := e
      exact hg.cell hc (fun e => unhide HZL _ _ rfl (by simpa using e))
    have HCA : Hid (∀ (wr : World), w2.grownBy wr (some w.heap.size) → ∀ i, i < 64 → wr.cell? ⟨ab, aoff + i, none⟩ = some (.int .i64 (zs.getD i 0))) := by
      intro wr hg i hi
      obtain ⟨b', o', e, hc⟩ := hR2.2 i hi
      simp only [Option.some.injEq, Addr.mk.injEq, and_true] at e
      obtain ⟨rfl, rfl⟩ := e
      exact hg.cell hc (fun e => unhide HRL _ _ rfl (by simpa using e))
    clear oz g2 HO1 HR1 HG1 hs1 hZZ hR2 ezl HZL HRL
    go_wp2
    go_loopw [3, 5] (fun o i wr => ∃ a : Nat, a ≤ 8 ∧ i = .int .i64 a ∧ Hid (OutI w w2 w.heap.size wr o (8 * a) ((fwdL zs).take (8 * a)))) (fun _ i _ => 8 - (intOf i).toNat)
    case atStart => exact ⟨0, Nat.zero_le _, rfl, HO2⟩
    case round =>
      obtain ⟨a, ha, rfl, hM⟩ := hrel
      obtain ⟨so1, sc1, rfl⟩ := own_form (unhide hM).own
      by_cases hla : a < 8
      · have HM := hide (unhide hM)
        clear hM
        have hda : decide ((a : Int) < 8) = true := by simp; omega
        go_wp2
        go_loopw [3, 6] (fun o i wr => ∃ b : Nat, b ≤ 8 ∧ i = .int .i64 b ∧ Hid (OutI w w2 w.heap.size wr o (8 * a + b) ((fwdL zs).take (8 * a + b)))) (fun _ i _ => 8 - (intOf i).toNat)
        case atStart => exact ⟨0, Nat.zero_le _, rfl, HM⟩
        case round =>
          obtain ⟨b, hb, rfl, hM2⟩ := hrel
          obtain ⟨so2, sc2, rfl⟩ := own_form (unhide hM2).own
          by_cases hlb : b < 8
          · have HM2 := hide (unhide hM2)
            clear hM2
            have hdb : decide ((b : Int) < 8) = true := by simp; omega
            have HT : Hid (∀ c, c < 8 → ∀ d, d < 8 → -137434759168 ≤ fwdT (fun k => zs.getD k 0) a b c d ∧ fwdT (fun k => zs.getD k 0) a b c d ≤ 137434759168) := by
              intro c hc d hd
              exact (prod3_in (unhide HBD _ (by omega)) (wv_in _ (by omega)) (wv_in _ (by omega))).2
            go_wp2
            go_loopw [7, 8] (fun s i wr => ∃ c : Nat, c ≤ 8 ∧ i = .int .i64 c ∧ (∃ S : Int, s = .int .i64 S ∧ Hid (S = sumTo (fun i => sumTo (fwdT (fun k => zs.getD k 0) a b i) 8) c)) ∧ Hid (OutI w w2 w.heap.size wr (.slice so2 (8 * a + b) sc2) (8 * a + b) ((fwdL zs).take (8 * a + b)))) (fun _ i _ => 8 - (intOf i).toNat)
            case atStart => exact ⟨0, Nat.zero_le _, rfl, ⟨0, rfl, rfl⟩, HM2⟩
            case round =>
              obtain ⟨c, hc, rfl, ⟨S, rfl, HS⟩, hM3⟩ := hrel
              by_cases hlc : c < 8
              · have hdc : decide ((c : Int) < 8) = true := by simp; omega
                go_wp2
                go_loopw [7, 9] (fun s i wr => ∃ d : Nat, d ≤ 8 ∧ i = .int .i64 d ∧ (∃ S2 : Int, s = .int .i64 S2 ∧ Hid (S2 = sumTo (fun i => sumTo (fwdT (fun k => zs.getD k 0) a b i) 8) c + sumTo (fwdT (fun k => zs.getD k 0) a b c) d)) ∧ Hid (OutI w w2 w.heap.size wr (.slice so2 (8 * a + b) sc2) (8 * a + b) ((fwdL zs).take (8 * a + b)))) (fun _ i _ => 8 - (intOf i).toNat)
                case atStart => exact ⟨0, Nat.zero_le _, rfl, ⟨S, rfl, by unfold Hid; rw [unhide HS]; simp [sumTo]⟩, hM3⟩
                case round =>
                  obtain ⟨d, hd, rfl, ⟨S2, rfl, HS2⟩, hM4⟩ := hrel
                  by_cases hld : d < 8
                  · obtain ⟨i1, hi1⟩ : ∃ i1 : Nat, 8 * c + d = i1 := ⟨_, rfl⟩
                    obtain ⟨i2, hi2⟩ : ∃ i2 : Nat, 8 * a + c = i2 := ⟨_, rfl⟩
                    obtain ⟨i3, hi3⟩ : ∃ i3 : Nat, 8 * b + d = i3 := ⟨_, rfl⟩
                    have h1I : 8 * (c : Int) + (d : Int) = (i1 : Int) := by omega
                    have h2I : 8 * (a : Int) + (c : Int) = (i2 : Int) := by omega
                    have h3I : 8 * (b : Int) + (d : Int) = (i3 : Int) := by omega
                    have l1 : (i1 : Int) < 64 := by omega
                    have l2 : (i2 : Int) < 64 := by omega
                    have l3 : (i3 : Int) < 64 := by omega
                    have c1 := unhide HCA wr (unhide hM4).kept i1 (by omega)
                    have c2 := unhide HCZ wr (unhide hM4).kept i2 (by omega)
                    have c3 := unhide HCZ wr (unhide hM4).kept i3 (by omega)
                    have hp := prod3_in (unhide HBD i1 (by omega)) (wv_in i2 (by omega)) (wv_in i3 (by omega))
                    have hsum := sums_in (unhide HT) c d hc hd (by omega)
                    rw [← unhide HS2] at hsum
                    have HNX : Hid (S2 + zs.getD i1 0 * wv i2 * wv i3 = sumTo (fun i => sumTo (fwdT (fun k => zs.getD k 0) a b i) 8) c + sumTo (fwdT (fun k => zs.getD k 0) a b c) (d + 1)) := by
                      unfold Hid
                      rw [unhide HS2, ← hi1, ← hi2, ← hi3]
                      show _ = _ + (sumTo _ d + fwdT (fun k => zs.getD k 0) a b c d)
                      exact Int.add_assoc _ _ _
                    clear hi1 hi2 hi3 HS2
                    generalize zs.getD i1 0 = A at *
                    generalize wv i2 = B at *
                    generalize wv i3 = C at *
                    have e1 := i64_in (A * B) (by omega)
                    have e2 := i64_in (A * B * C) (by omega)
                    have e3 := i64_in (S2 + A * B * C) (by omega)
                    go_wp2
                    go_quiet (fail)
                    go_wp2
                    go_roundw
                    case rel => exact ⟨d + 1, by omega, by go_num, ⟨_, rfl, unhide HNX⟩, (unhide hM4).drewN _⟩
                    case measure => simp [intOf]; omega
                  · obtain rfl : d = 8 := by omega
                    go_wp2
                    go_roundw
                    case rel => exact ⟨c + 1, by omega, by go_num, ⟨_, rfl, unhide HS2⟩, hM4⟩
                    case measure => simp [intOf]; omega
              · obtain rfl : c = 8 := by omega
                have hS : S = fwdS (fun k => zs.getD k 0) a b := unhide HS
                have hSB : -1000000000000000 ≤ S ∧ S ≤ 1000000000000000 := by
                  have := sums_in (unhide HT) 8 0 (by omega) (by omega) (fun _ => rfl)
                  have h0 : sumTo (fwdT (fun k => zs.getD k 0) a b 8) 0 = 0 := rfl
                  rw [h0, ← unhide HS] at this
                  omega
                have HV : Hid (roundI S = fwd (fun k => zs.getD k 0) (8 * a + b)) := by
                  unfold Hid fwd
                  rw [show (8 * a + b) / 8 = a by omega, show (8 * a + b) % 8 = b by omega, hS]
                have HSB := hide hSB
                clear hS hSB
                go_wp2_with fail
                refine (specRoundD S (roundI S) (unhide HSB) rfl wr).mono ?_
                rintro e w8 ⟨rfl, rfl⟩
                go_wp2_with (at_builtin; refine append_out rfl _ _ rfl w w2 w.heap.size _ (8 * a + b) ((fwdL zs).take (8 * a + b)) rfl (unhide hM3) _ rfl (by omega) ?_; intro v' w' ho)
                go_roundw
                case rel =>
                  refine ⟨b + 1, by omega, by go_num, ?_⟩
                  unfold Hid
                  unfold fwdL at ho
                  rw [made_take _ (8 * a + b) (by omega) _ (unhide HV)] at ho
                  exact ho
                case measure => simp [intOf]; omega
          · obtain rfl : b = 8 := by omega
            go_wp2
            go_roundw
            case rel => exact ⟨a + 1, by omega, by go_num, by unfold Hid; rw [show 8 * (a + 1) = 8 * a + 8 by omega]; exact unhide hM2⟩
            case measure => simp [intOf]; omega
      · obtain rfl : a = 8 := by omega
        have ho := (unhide hM).own
        have hl : (fwdL zs).length = 64 := made_len _
        rw [List.take_of_length_le (by omega)] at ho
        have HOF := hide ho
        have HGF := hide (unhide hM).base
        have HLL := hide hl
        clear ho hl hM
        go_wp2
        go_ret
        refine ⟨so1, sc1, ?_, ?_, unhide HGF⟩
        · rw [unhide HLL]; rfl
        · rw [unhide HLL]; exact unhide HOF

set_option maxRecDepth 20000 in
set_option maxHeartbeats 6400000 in
theorem specInverse (ao : Option Addr) (n cap : Nat) (zs : List Int) (w : World) (hr : Rd .i64 w ao n zs) (b : Bool) (hb : Hid (numsB (-32767) 32767 zs = b)) (L : List Int) (HL : Hid ((if b then invL zs else []) = L)) :
    Calls Tryd.prog 13 #[.slice ao n cap] w fun e w' => ∃ so sc, e = .returned (.slice so L.length sc) ∧ w'.ownsRow w.heap.size 3 1 (.slice so L.length sc) L.length (L.map (Value.int .i64)) ∧ w.grownBy w' none := by
  have HO : Hid ((w.alloc (.cells #[] 3)).ownsRow w.heap.size 3 1 (.slice (some ⟨w.heap.size, 0, none⟩) 0 0) 0 []) := World.ownsRow_lit w #[] 0 (Nat.le_refl _) (by unfold maxLen; omega) rfl
  have HR := hide (hr.grown (World.grownBy_alloc w (.cells #[] 3) none))
  have HN := hide hr.1
  have HLW := hide hr.lt
  clear hr
  go_enter Tryd.func13, Tryd.ntmps13
  go_wp2_with fail
  refine (specBlockOk ao n cap zs _ (unhide HR) b hb).mono ?_
  rintro e w1 ⟨rfl, g1⟩
  have HG1 : Hid (w.grownBy w1 none) := grown_trans (World.grownBy_alloc _ _ _) g1
  have HO1 := hide (own_grown (unhide HO) g1)
  have HR1 := hide ((unhide HR).grown g1)
  clear g1 HO HR
  cases b with
  | false =>
    have e : L = [] := (unhide HL).symm
    subst e
    go_wp2
    go_ret
    exact ⟨_, _, rfl, unhide HO1, unhide HG1⟩
  | true =>
    have hz := (nums_at (unhide hb)).1
    have hn : n = 64 := by rw [← unhide HN]; exact hz
    subst hn
    have HBD : Hid (∀ j, j < 64 → -32767 ≤ zs.getD j 0 ∧ zs.getD j 0 ≤ 32767) := fun j hj => by have := (nums_at (unhide hb)).2 j hj; omega
    have e : L = invL zs := (unhide HL).symm
    subst e
    clear HL hb
    have HZ := hide hz
    clear hz
    go_wp2_with fail
    refine (specBasis w1).mono ?_
    rintro e w2 ⟨zo, zc, rfl, oz, g2⟩
    have hs1 : w.heap.size < w1.heap.size := by have := (unhide HO1).lt w.heap.size rfl; omega
    have HZL : Hid (∀ b off, zo = some ⟨b, off, none⟩ → b ≠ w.heap.size) := by
      intro b off e
      subst e
      have h := (oz.lt b (by simp [Value.ownBlock])).1
      omega
    have HRL : Hid (∀ b off, ao = some ⟨b, off, none⟩ → b ≠ w.heap.size) := by
      intro b off e
      exact Nat.ne_of_lt (unhide HLW (by omega) b off e)
    have HO2 : Hid (OutI w w2 w.heap.size w2 (.slice (some ⟨w.heap.size, 0, none⟩) 0 0) 0 []) := ⟨own_grown (unhide HO1) g2, grown_trans (unhide HG1) g2, World.grownBy.refl _ _, fun g e => by simp [Value.ownBlock] at e; left; exact e.symm⟩
    have hZZ := own_rd oz
    have hR2 := (unhide HR1).grown g2
    have ezl : (wvL.length : Nat) = 64 := wv_len
    rw [ezl] at hZZ
    rw [ezl]
    obtain ⟨zb, zoff, rfl, _⟩ := hZZ.2 0 (by omega)
    obtain ⟨ab, aoff, rfl, _⟩ := hR2.2 0 (by omega)
    have HCZ : Hid (∀ (wr : World), w2.grownBy wr (some w.heap.size) → ∀ i, i < 64 → wr.cell? ⟨zb, zoff + i, none⟩ = some (.int .i64 (wv i))) := by
      intro wr hg i hi
      obtain ⟨b', o', e, hc⟩ := hZZ.2 i hi
      simp only [Option.some.injEq, Addr.mk.injEq, and_true] at e
      obtain ⟨rfl, rfl⟩ := e
      exact hg.cell hc (fun e => unhide HZL _ _ rfl (by simpa using e))
    have HCA : Hid (∀ (wr : World), w2.grownBy wr (some w.heap.size) → ∀ i, i < 64 → wr.cell? ⟨ab, aoff + i, none⟩ = some (.int .i64 (zs.getD i 0))) := by
      intro wr hg i hi
      obtain ⟨b', o', e, hc⟩ := hR2.2 i hi
      simp only [Option.some.injEq, Addr.mk.injEq, and_true] at e
      obtain ⟨rfl, rfl⟩ := e
      exact hg.cell hc (fun e => unhide HRL _ _ rfl (by simpa using e))
    clear oz g2 HO1 HR1 HG1 hs1 hZZ hR2 ezl HZL HRL
    go_wp2
    go_loopw [3, 5] (fun o i wr => ∃ a : Nat, a ≤ 8 ∧ i = .int .i64 a ∧ Hid (OutI w w2 w.heap.size wr o (8 * a) ((invL zs).take (8 * a)))) (fun _ i _ => 8 - (intOf i).toNat)
    case atStart => exact ⟨0, Nat.zero_le _, rfl, HO2⟩
    case round =>
      obtain ⟨a, ha, rfl, hM⟩ := hrel
      obtain ⟨so1, sc1, rfl⟩ := own_form (unhide hM).own
      by_cases hla : a < 8
      · have HM := hide (unhide hM)
        clear hM
        have hda : decide ((a : Int) < 8) = true := by simp; omega
        go_wp2
        go_loopw [3, 6] (fun o i wr => ∃ b : Nat, b ≤ 8 ∧ i = .int .i64 b ∧ Hid (OutI w w2 w.heap.size wr o (8 * a + b) ((invL zs).take (8 * a + b)))) (fun _ i _ => 8 - (intOf i).toNat)
        case atStart => exact ⟨0, Nat.zero_le _, rfl, HM⟩
        case round =>
          obtain ⟨b, hb, rfl, hM2⟩ := hrel
          obtain ⟨so2, sc2, rfl⟩ := own_form (unhide hM2).own
          by_cases hlb : b < 8
          · have HM2 := hide (unhide hM2)
            clear hM2
            have hdb : decide ((b : Int) < 8) = true := by simp; omega
            have HT : Hid (∀ c, c < 8 → ∀ d, d < 8 → -137434759168 ≤ invT (fun k => zs.getD k 0) a b c d ∧ invT (fun k => zs.getD k 0) a b c d ≤ 137434759168) := by
              intro c hc d hd
              exact (prod3_in (unhide HBD _ (by omega)) (wv_in _ (by omega)) (wv_in _ (by omega))).2
            go_wp2
            go_loopw [7, 8] (fun s i wr => ∃ c : Nat, c ≤ 8 ∧ i = .int .i64 c ∧ (∃ S : Int, s = .int .i64 S ∧ Hid (S = sumTo (fun i => sumTo (invT (fun k => zs.getD k 0) a b i) 8) c)) ∧ Hid (OutI w w2 w.heap.size wr (.slice so2 (8 * a + b) sc2) (8 * a + b) ((invL zs).take (8 * a + b)))) (fun _ i _ => 8 - (intOf i).toNat)
            case atStart => exact ⟨0, Nat.zero_le _, rfl, ⟨0, rfl, rfl⟩, HM2⟩
            case round =>
              obtain ⟨c, hc, rfl, ⟨S, rfl, HS⟩, hM3⟩ := hrel
              by_cases hlc : c < 8
              · have hdc : decide ((c : Int) < 8) = true := by simp; omega
                go_wp2
                go_loopw [7, 9] (fun s i wr => ∃ d : Nat, d ≤ 8 ∧ i = .int .i64 d ∧ (∃ S2 : Int, s = .int .i64 S2 ∧ Hid (S2 = sumTo (fun i => sumTo (invT (fun k => zs.getD k 0) a b i) 8) c + sumTo (invT (fun k => zs.getD k 0) a b c) d)) ∧ Hid (OutI w w2 w.heap.size wr (.slice so2 (8 * a + b) sc2) (8 * a + b) ((invL zs).take (8 * a + b)))) (fun _ i _ => 8 - (intOf i).toNat)
                case atStart => exact ⟨0, Nat.zero_le _, rfl, ⟨S, rfl, by unfold Hid; rw [unhide HS]; simp [sumTo]⟩, hM3⟩
                case round =>
                  obtain ⟨d, hd, rfl, ⟨S2, rfl, HS2⟩, hM4⟩ := hrel
                  by_cases hld : d < 8
                  · obtain ⟨i1, hi1⟩ : ∃ i1 : Nat, 8 * c + d = i1 := ⟨_, rfl⟩
                    obtain ⟨i2, hi2⟩ : ∃ i2 : Nat, 8 * c + a = i2 := ⟨_, rfl⟩
                    obtain ⟨i3, hi3⟩ : ∃ i3 : Nat, 8 * d + b = i3 := ⟨_, rfl⟩
                    have h1I : 8 * (c : Int) + (d : Int) = (i1 : Int) := by omega
                    have h2I : 8 * (c : Int) + (a : Int) = (i2 : Int) := by omega
                    have h3I : 8 * (d : Int) + (b : Int) = (i3 : Int) := by omega
                    have l1 : (i1 : Int) < 64 := by omega
                    have l2 : (i2 : Int) < 64 := by omega
                    have l3 : (i3 : Int) < 64 := by omega
                    have c1 := unhide HCA wr (unhide hM4).kept i1 (by omega)
                    have c2 := unhide HCZ wr (unhide hM4).kept i2 (by omega)
                    have c3 := unhide HCZ wr (unhide hM4).kept i3 (by omega)
                    have hp := prod3_in (unhide HBD i1 (by omega)) (wv_in i2 (by omega)) (wv_in i3 (by omega))
                    have hsum := sums_in (unhide HT) c d hc hd (by omega)
                    rw [← unhide HS2] at hsum
                    have HNX : Hid (S2 + zs.getD i1 0 * wv i2 * wv i3 = sumTo (fun i => sumTo (invT (fun k => zs.getD k 0) a b i) 8) c + sumTo (invT (fun k => zs.getD k 0) a b c) (d + 1)) := by
                      unfold Hid
                      rw [unhide HS2, ← hi1, ← hi2, ← hi3]
                      show _ = _ + (sumTo _ d + invT (fun k => zs.getD k 0) a b c d)
                      exact Int.add_assoc _ _ _
                    clear hi1 hi2 hi3 HS2
                    generalize zs.getD i1 0 = A at *
                    generalize wv i2 = B at *
                    generalize wv i3 = C at *
                    have e1 := i64_in (A * B) (by omega)
                    have e2 := i64_in (A * B * C) (by omega)
                    have e3 := i64_in (S2 + A * B * C) (by omega)
                    go_wp2
                    go_quiet (fail)
                    go_wp2
                    go_roundw
                    case rel => exact ⟨d + 1, by omega, by go_num, ⟨_, rfl, unhide HNX⟩, (unhide hM4).drewN _⟩
                    case measure => simp [intOf]; omega
                  · obtain rfl : d = 8 := by omega
                    go_wp2
                    go_roundw
                    case rel => exact ⟨c + 1, by omega, by go_num, ⟨_, rfl, unhide HS2⟩, hM4⟩
                    case measure => simp [intOf]; omega
              · obtain rfl : c = 8 := by omega
                have hS : S = invS (fun k => zs.getD k 0) a b := unhide HS
                have hSB : -1000000000000000 ≤ S ∧ S ≤ 1000000000000000 := by
                  have := sums_in (unhide HT) 8 0 (by omega) (by omega) (fun _ => rfl)
                  have h0 : sumTo (invT (fun k => zs.getD k 0) a b 8) 0 = 0 := rfl
                  rw [h0, ← unhide HS] at this
                  omega
                have HV : Hid (min (max (roundI S) (-2048)) 2047 = inv (fun k => zs.getD k 0) (8 * a + b)) := by
                  unfold Hid inv clipS
                  rw [show (8 * a + b) / 8 = a by omega, show (8 * a + b) % 8 = b by omega, hS]
                have HSB := hide hSB
                clear hS hSB
                go_wp2_with fail
                refine (specRoundD S (roundI S) (unhide HSB) rfl wr).mono ?_
                rintro e w8 ⟨rfl, rfl⟩
                go_wp2_with fail
                refine (specClip (roundI S) (-2048) 2047 (by omega) wr).mono ?_
                rintro e w9 ⟨rfl, rfl⟩
                go_wp2_with (at_builtin; refine append_out rfl _ _ rfl w w2 w.heap.size _ (8 * a + b) ((invL zs).take (8 * a + b)) rfl (unhide hM3) _ rfl (by omega) ?_; intro v' w' ho)
                go_roundw
                case rel =>
                  refine ⟨b + 1, by omega, by go_num, ?_⟩
                  unfold Hid
                  unfold invL at ho
                  rw [made_take _ (8 * a + b) (by omega) _ (unhide HV)] at ho
                  exact ho
                case measure => simp [intOf]; omega
          · obtain rfl : b = 8 := by omega
            go_wp2
            go_roundw
            case rel => exact ⟨a + 1, by omega, by go_num, by unfold Hid; rw [show 8 * (a + 1) = 8 * a + 8 by omega]; exact unhide hM2⟩
            case measure => simp [intOf]; omega
      · obtain rfl : a = 8 := by omega
        have ho := (unhide hM).own
        have hl : (invL zs).length = 64 := made_len _
        rw [List.take_of_length_le (by omega)] at ho
        have HOF := hide ho
        have HGF := hide (unhide hM).base
        have HLL := hide hl
        clear ho hl hM
        go_wp2
        go_ret
        refine ⟨so1, sc1, ?_, ?_, unhide HGF⟩
        · rw [unhide HLL]; rfl
        · rw [unhide HLL]; exact unhide HOF

end Go.Proofs.YtoeehfjbnbbijabDoor
