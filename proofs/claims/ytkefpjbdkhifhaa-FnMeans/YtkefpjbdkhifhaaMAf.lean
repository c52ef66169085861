/-
  ShrinkSpec, GrowSpec, Cur, CurOnce, CurOdd, AppRdI, CodeDraw, SampDraw, SampDraw2, LawAid, SameInts, LawMeans.
-/
import Derived.Test.YtkefpjbdkhifhaaRows
import Derived.Deep.QuietTactic
import Derived.BigQuiet
import Derived.Outline
import Derived.Deep.AppendLies
import Derived.Laws.AppendOwnNone
import Derived.Maps.AppendAt
import Derived.Test.YtkefpjbdkhifhaaMAe

namespace Go.Proofs.Ytkefpjbdkhifhaa
open Go.RowKit

theorem specUp16 (n d u : Nat) (hn : 1 ≤ n ∧ n ≤ 4000000) (hd : 1 ≤ d ∧ d ≤ 4000000) (hu : Hid ((n + d - 1) / d = u)) (w : World) :
    Calls Try.prog 48 #[.int .i64 (n : Int), .int .i64 (d : Int)] w fun e w' => e = .returned (.int .i64 (u : Int)) ∧ w = w' := by
  have hd0 : ((d : Int) == 0) = false := beq_eq_false_iff_ne.2 (by omega)
  have hm1 : ((d : Int) == -1) = false := beq_eq_false_iff_ne.2 (by omega)
  have z0 : ¬ d = 0 := by omega
  have k1 := i64_in ((n : Int) + (d : Int)) (by omega)
  have k2 := i64_in ((n : Int) + (d : Int) - 1) (by omega)
  have ht : ((n : Int) + (d : Int) - 1).tdiv (d : Int) = (u : Int) := by
    rw [Int.tdiv_eq_ediv_of_nonneg (by omega), ← unhide hu]
    push_cast
    congr 1
    omega
  have hb : u ≤ n + d := by rw [← unhide hu]; exact Nat.le_trans (Nat.div_le_self _ _) (by omega)
  have k3 := i64_in (u : Int) (by omega)
  go_enter Try.func48, Try.ntmps48
  go_wp2
  go_ret
  exact ⟨rfl, rfl⟩

set_option maxRecDepth 100000 in
set_option maxHeartbeats 12800000 in
theorem specShrink (ao : Option Addr) (n cap : Nat) (zs : List Int) (w h nw nh : Int) (W : World) (hr : Rd .i64 W ao n zs) (hn : n ≤ 9223372036854775807) (L : List Int) (HL : Hid (shrinkG zs w h nw nh = L)) :
    Calls Try.prog 16 #[.slice ao n cap, .int .i64 w, .int .i64 h, .int .i64 nw, .int .i64 nh] W fun e W' => ∃ so sc, e = .returned (.slice so L.length sc) ∧ W'.ownsRow W.heap.size 3 1 (.slice so L.length sc) L.length (L.map (Value.int .i64)) ∧ W.grownBy W' none := by
  have HO : Hid ((W.alloc (.cells #[] 3)).ownsRow W.heap.size 3 1 (.slice (some ⟨W.heap.size, 0, none⟩) 0 0) 0 []) := World.ownsRow_lit W #[] 0 (Nat.le_refl _) (by unfold maxLen; omega) rfl
  have HR0 := hide hr
  have HR := hide (hr.grown (World.grownBy_alloc W (.cells #[] 3) none))
  have HN := hide hr.1
  clear hr
  obtain ⟨pb, HP⟩ : ∃ y, Hid (planeB zs w h = y) := ⟨_, rfl⟩
  go_enter Try.func16, Try.ntmps16
  go_wp2_with fail
  refine (specPlaneOk ao n cap zs w h _ (unhide HR) hn pb HP).mono ?_
  rintro e w1 ⟨rfl, g1⟩
  have HGW : Hid (W.grownBy w1 none) := grown_trans (World.grownBy_alloc _ _ _) g1
  have HOWN := hide (own_grown (unhide HO) g1)
  clear g1 HO HR
  cases pb with
  | false =>
    obtain rfl : L = [] := by rw [← unhide HL, shrinkG, unhide HP]; rfl
    go_wp2
    go_ret
    exact ⟨_, _, rfl, unhide HOWN, unhide HGW⟩
  | true =>
    have hpl := plane_of (unhide HP)
    obtain ⟨t1, HT1⟩ : ∃ y, Hid (decide (1 ≤ nw ∧ nw ≤ w) = y) := ⟨_, rfl⟩
    obtain ⟨t2, HT2⟩ : ∃ y, Hid (decide (1 ≤ nh ∧ nh ≤ h) = y) := ⟨_, rfl⟩
    have HLP := hide hpl
    clear hpl
    go_wp2_with fail
    refine (between nw 1 w t1 HT1 w1).mono ?_
    rintro e w1 ⟨rfl, rfl⟩
    by_cases h1 : ¬ t1 = true
    · obtain rfl : t1 = false := by simpa using h1
      obtain rfl : L = [] := by rw [← unhide HL, shrinkG, unhide HT1]; simp
      go_wp2
      go_ret
      exact ⟨_, _, rfl, unhide HOWN, unhide HGW⟩
    obtain rfl : t1 = true := by simpa using h1
    go_wp2_with fail
    refine (between nh 1 h t2 HT2 w1).mono ?_
    rintro e w1 ⟨rfl, rfl⟩
    by_cases h2 : ¬ t2 = true
    · obtain rfl : t2 = false := by simpa using h2
      obtain rfl : L = [] := by rw [← unhide HL, shrinkG, unhide HT2]; simp
      go_wp2
      go_ret
      exact ⟨_, _, rfl, unhide HOWN, unhide HGW⟩
    obtain rfl : t2 = true := by simpa using h2
    have hpl := unhide HLP
    have b1 := of_decide_eq_true (unhide HT1)
    have b2 := of_decide_eq_true (unhide HT2)
    clear h1 h2 HLP
    have hbd : nw.toNat * nh.toNat ≤ 131072 := by
      have h1 : nw * nh ≤ w * h := Int.mul_le_mul b1.2 b2.2 (by omega) (by omega)
      have h2 := hpl.2.2.2.1
      have h3 : ((nw.toNat * nh.toNat : Nat) : Int) = nw * nh := by push_cast; rw [Int.toNat_of_nonneg (by omega), Int.toNat_of_nonneg (by omega)]
      omega
    obtain ⟨wN, rfl⟩ : ∃ k : Nat, w = (k : Int) := ⟨w.toNat, by omega⟩
    obtain ⟨hN, rfl⟩ : ∃ k : Nat, h = (k : Int) := ⟨h.toNat, by omega⟩
    obtain ⟨nwN, rfl⟩ : ∃ k : Nat, nw = (k : Int) := ⟨nw.toNat, by omega⟩
    obtain ⟨nhN, rfl⟩ : ∃ k : Nat, nh = (k : Int) := ⟨nh.toNat, by omega⟩
    have HLG : Hid (shrinkL zs wN hN nwN nhN = L) := by
      unfold Hid
      rw [← unhide HL, shrinkG, unhide HP, unhide HT1, unhide HT2]
      rfl
    have hlen : zs.length = wN * hN := by have := hpl.2.2.1; exact_mod_cast this
    have HLL : Hid (L.length = nwN * nhN) := by unfold Hid; rw [← unhide HLG]; exact gridL_len _ _ _
    simp only [Int.toNat_natCast] at hbd
    have HBD := hide hbd
    have hb1 : wN ≤ 1024 ∧ hN ≤ 1024 ∧ nwN ≤ 1024 ∧ nhN ≤ 1024 ∧ 1 ≤ wN ∧ 1 ≤ hN ∧ 1 ≤ nwN ∧ 1 ≤ nhN := by omega
    have HLEN := hide hlen
    have HRW := hide ((unhide HR0).grown (unhide HGW))
    have HRA : Hid (Rd .i64 W ao n zs) := HR0
    have HT0 : Hid (∀ i, 0 ≤ zs.getD i 0 ∧ zs.getD i 0 ≤ 4095) := fun i => by
      by_cases hi : i < zs.length
      · have e : zs.getD i 0 = zs[i] := by simp [hi]
        rw [e]
        exact hpl.2.2.2.2 _ (List.getElem_mem hi)
      · have e : zs.getD i 0 = 0 := by rw [List.getD_eq_getElem?_getD, List.getElem?_eq_none (by omega)]; rfl
        rw [e]
        omega
    have hpos : 0 < n := by
      have h1 := unhide HN
      have h2 : 0 < wN * hN := Nat.mul_pos (by omega) (by omega)
      omega
    obtain ⟨bb, off, rfl, _⟩ := (unhide HRA).2 0 hpos
    clear hpl hlen hbd HP HL HRW hpos
    go_wp2
    go_loopw [11, 12] (fun ov yv wr => ∃ (y c : Nat), y ≤ nhN ∧ yv = .int .i64 y ∧ Hid (y * nwN = c) ∧ Hid (wr.ownsRow W.heap.size 3 1 ov c ((L.take c).map (Value.int .i64))) ∧ Hid (W.grownBy wr none)) (fun _ yv _ => nhN - (intOf yv).toNat)
    case atStart => exact ⟨0, 0, by omega, by go_num, by simp [Hid], HOWN, HGW⟩
    case round =>
      clear HOWN HGW
      obtain ⟨y, c0, hy, rfl, HC0, HOV, HGV⟩ := hrel
      by_cases hyl : y < nhN
      · have hyI : (y : Int) < (nhN : Int) := by omega
        have y1 := i64_in ((y : Int) + 1) (by omega)
        go_wp2
        go_loopw [11, 13] (fun ov xv wr => ∃ (x c : Nat), x ≤ nwN ∧ xv = .int .i64 x ∧ Hid (y * nwN + x = c) ∧ Hid (wr.ownsRow W.heap.size 3 1 ov c ((L.take c).map (Value.int .i64))) ∧ Hid (W.grownBy wr none)) (fun _ xv _ => nwN - (intOf xv).toNat)
        case atStart => exact ⟨0, c0, by omega, by go_num, HC0, HOV, HGV⟩
        case round =>
          clear HOV HGV HC0
          obtain ⟨x, c, hx, rfl, HC, HOV, HGV⟩ := hrel
          by_cases hxl : x < nwN
          · have hxI : (x : Int) < (nwN : Int) := by omega
            have x1 := i64_in ((x : Int) + 1) (by omega)
            have hcl : c < nwN * nhN := by
              rw [← unhide HC]
              have : (y + 1) * nwN ≤ nhN * nwN := Nat.mul_le_mul_right _ hyl
              rw [Nat.add_mul, Nat.one_mul] at this
              rw [Nat.mul_comm nwN nhN]
              omega
            have hcb : c + 1 ≤ 1000000 := by have := unhide HBD; omega
            obtain ⟨z, HZ⟩ : ∃ z, Hid (shrinkF zs wN hN nwN nhN y x = z) := ⟨_, rfl⟩
            have HNX : Hid (L.take c ++ [z] = L.take (c + 1)) := by
              unfold Hid
              rw [← unhide HLG]
              have h1 : c / nwN = y := by rw [← unhide HC, Nat.add_comm, Nat.add_mul_div_right _ _ (by omega), Nat.div_eq_of_lt hxl, Nat.zero_add]
              have h2 : c % nwN = x := by rw [← unhide HC, Nat.add_comm, Nat.add_mul_mod_self_right, Nat.mod_eq_of_lt hxl]
              unfold shrinkL
              rw [gridL_take _ _ _ c hcl, h1, h2, unhide HZ]
            obtain ⟨ya, HYA⟩ : ∃ k, Hid (fromN hN nhN y = k) := ⟨_, rfl⟩
            obtain ⟨yb, HYB⟩ : ∃ k, Hid (toN hN nhN y = k) := ⟨_, rfl⟩
            obtain ⟨xa, HXA⟩ : ∃ k, Hid (fromN wN nwN x = k) := ⟨_, rfl⟩
            obtain ⟨xb, HXB⟩ : ∃ k, Hid (toN wN nwN x = k) := ⟨_, rfl⟩
            have hy1 : ya < yb := by rw [← unhide HYA, ← unhide HYB]; exact from_to (by omega) (by omega)
            have hy2 : yb ≤ hN := by rw [← unhide HYB]; exact to_le hyl
            have hx1 : xa < xb := by rw [← unhide HXA, ← unhide HXB]; exact from_to (by omega) (by omega)
            have hx2 : xb ≤ wN := by rw [← unhide HXB]; exact to_le hxl
            obtain ⟨R, HR⟩ : ∃ k, Hid (yb - ya = k) := ⟨_, rfl⟩
            obtain ⟨C, HCC⟩ : ∃ k, Hid (xb - xa = k) := ⟨_, rfl⟩
            have hR : 1 ≤ R ∧ R ≤ 1024 := by have := unhide HR; omega
            have hC : 1 ≤ C ∧ C ≤ 1024 := by have := unhide HCC; omega
            have HZ' : Hid (meanI (sumR zs wN ya xa C R) (R * C) = z) := by
              have h := unhide HZ
              unfold shrinkF at h
              rw [unhide HYA, unhide HYB, unhide HXA, unhide HXB, unhide HR, unhide HCC] at h
              exact h
            obtain ⟨m1, HM1⟩ : ∃ k : Nat, Hid (y * hN = k) := ⟨_, rfl⟩
            obtain ⟨m2, HM2⟩ : ∃ k : Nat, Hid ((y + 1) * hN = k) := ⟨_, rfl⟩
            obtain ⟨m3, HM3⟩ : ∃ k : Nat, Hid (x * wN = k) := ⟨_, rfl⟩
            obtain ⟨m4, HM4⟩ : ∃ k : Nat, Hid ((x + 1) * wN = k) := ⟨_, rfl⟩
            have lm1 : m1 ≤ 1048576 := by rw [← unhide HM1]; exact Nat.mul_le_mul (by omega : y ≤ 1024) (by omega : hN ≤ 1024)
            have lm2 : 1 ≤ m2 ∧ m2 ≤ 1048576 := by rw [← unhide HM2]; exact ⟨Nat.mul_le_mul (by omega : 1 ≤ y + 1) (by omega : 1 ≤ hN), Nat.mul_le_mul (by omega : y + 1 ≤ 1024) (by omega : hN ≤ 1024)⟩
            have lm3 : m3 ≤ 1048576 := by rw [← unhide HM3]; exact Nat.mul_le_mul (by omega : x ≤ 1024) (by omega : wN ≤ 1024)
            have lm4 : 1 ≤ m4 ∧ m4 ≤ 1048576 := by rw [← unhide HM4]; exact ⟨Nat.mul_le_mul (by omega : 1 ≤ x + 1) (by omega : 1 ≤ wN), Nat.mul_le_mul (by omega : x + 1 ≤ 1024) (by omega : wN ≤ 1024)⟩
            have k1 : IntKind.i64.wrap ((y : Int) * (hN : Int)) = (m1 : Int) := by
              have e : (y : Int) * (hN : Int) = (m1 : Int) := by have := unhide HM1; exact_mod_cast this
              rw [e, i64_in _ (by omega)]
            have k2 : IntKind.i64.wrap (((y : Int) + 1) * (hN : Int)) = (m2 : Int) := by
              have e : ((y : Int) + 1) * (hN : Int) = (m2 : Int) := by have := unhide HM2; exact_mod_cast this
              rw [e, i64_in _ (by omega)]
            have k3 : IntKind.i64.wrap ((x : Int) * (wN : Int)) = (m3 : Int) := by
              have e : (x : Int) * (wN : Int) = (m3 : Int) := by have := unhide HM3; exact_mod_cast this
              rw [e, i64_in _ (by omega)]
            have k4 : IntKind.i64.wrap (((x : Int) + 1) * (wN : Int)) = (m4 : Int) := by
              have e : ((x : Int) + 1) * (wN : Int) = (m4 : Int) := by have := unhide HM4; exact_mod_cast this
              rw [e, i64_in _ (by omega)]
            have k5 : (m1 : Int).tdiv (nhN : Int) = (ya : Int) := by
              rw [Int.tdiv_eq_ediv_of_nonneg (by omega)]
              have : m1 / nhN = ya := by rw [← unhide HM1]; exact unhide HYA
              exact_mod_cast this
            have k6 : (m3 : Int).tdiv (nwN : Int) = (xa : Int) := by
              rw [Int.tdiv_eq_ediv_of_nonneg (by omega)]
              have : m3 / nwN = xa := by rw [← unhide HM3]; exact unhide HXA
              exact_mod_cast this
            have HU2 : Hid ((m2 + nhN - 1) / nhN = yb) := by unfold Hid; rw [← unhide HM2]; exact unhide HYB
            have HU4 : Hid ((m4 + nwN - 1) / nwN = xb) := by unfold Hid; rw [← unhide HM4]; exact unhide HXB
            have k7 := i64_in (ya : Int) (by omega)
            have k8 := i64_in (xa : Int) (by omega)
            have z1 : ((nhN : Int) == 0) = false := beq_eq_false_iff_ne.2 (by omega)
            have z2 : ((nhN : Int) == -1) = false := beq_eq_false_iff_ne.2 (by omega)
            have z3 : ((nwN : Int) == 0) = false := beq_eq_false_iff_ne.2 (by omega)
            have z4 : ((nwN : Int) == -1) = false := beq_eq_false_iff_ne.2 (by omega)
            have z5 : ¬ nhN = 0 := by omega
            have z6 : ¬ nwN = 0 := by omega

            have HCLX := hide hcl
            clear hcl lm1 lm3
            go_wp2
            go_loopw [14, 15, 16] (fun sv nv rv wr => ∃ (j : Nat) (sm : Int) (nn : Nat), j ≤ R ∧ sv = .int .i64 sm ∧ nv = .int .i64 nn ∧ rv = .int .i64 ((ya + j : Nat) : Int) ∧ Hid (sumR zs wN ya xa C j = sm) ∧ Hid (j * C = nn) ∧ (0 ≤ sm ∧ sm ≤ 4095 * nn) ∧ Hid (wr.ownsRow W.heap.size 3 1 u11 c ((L.take c).map (Value.int .i64))) ∧ Hid (W.grownBy wr none)) (fun _ _ rv _ => yb - (intOf rv).toNat)
            case atStart => exact ⟨0, 0, 0, by omega, rfl, rfl, by simp, rfl, by simp [Hid], by omega, HOV, HGV⟩
            case round =>
              clear HOV HGV
              obtain ⟨j, sm, nn, hj, rfl, rfl, rfl, HSM, HNN, hsm, HOV, HGV⟩ := hrel
              obtain ⟨rr, HRR⟩ : ∃ k : Nat, Hid (ya + j = k) := ⟨_, rfl⟩
              rw [unhide HRR]
              have hnn : nn ≤ 1048576 := by rw [← unhide HNN]; exact Nat.mul_le_mul (by omega : j ≤ 1024) hC.2
              go_wp2_with fail
              refine (specUp16 m2 nhN yb (by omega) (by omega) HU2 wr).mono ?_
              rintro e wr ⟨rfl, rfl⟩
              by_cases hjl : rr < yb
              · have hrI : (rr : Int) < (yb : Int) := by omega
                have r1 := i64_in ((rr : Int) + 1) (by omega)
                have hjR : j < R := by have := unhide HRR; have := unhide HR; omega
                obtain ⟨m5, HM5⟩ : ∃ k : Nat, Hid (rr * wN = k) := ⟨_, rfl⟩
                have hre := row_end (w := wN) (show rr < hN by omega)
                rw [unhide HM5, Nat.mul_comm hN wN] at hre
                have hwh : wN * hN ≤ 1048576 := Nat.mul_le_mul (by omega : wN ≤ 1024) (by omega : hN ≤ 1024)
                have k9 : IntKind.i64.wrap ((rr : Int) * (wN : Int)) = (m5 : Int) := by
                  have e : (rr : Int) * (wN : Int) = (m5 : Int) := by have := unhide HM5; exact_mod_cast this
                  rw [e, i64_in _ (by omega)]
                go_wp2
                go_loopw [14, 15, 17] (fun sv nv kv wr => ∃ (i : Nat) (s2 : Int) (n2 : Nat), i ≤ C ∧ sv = .int .i64 s2 ∧ nv = .int .i64 n2 ∧ kv = .int .i64 ((xa + i : Nat) : Int) ∧ Hid (sm + sumK zs m5 xa i = s2) ∧ Hid (nn + i = n2) ∧ (0 ≤ s2 ∧ s2 ≤ 4095 * n2) ∧ Hid (wr.ownsRow W.heap.size 3 1 u11 c ((L.take c).map (Value.int .i64))) ∧ Hid (W.grownBy wr none)) (fun _ _ kv _ => xb - (intOf kv).toNat)
                case atStart => exact ⟨0, sm, nn, by omega, rfl, rfl, by simp, by simp [Hid, sumK], by simp [Hid], hsm, HOV, HGV⟩
                case round =>
                  clear HOV HGV
                  obtain ⟨i, s2, n2, hi, rfl, rfl, rfl, HS2, HN2, hs2, HOV, HGV⟩ := hrel
                  obtain ⟨kk, HKK⟩ : ∃ k : Nat, Hid (xa + i = k) := ⟨_, rfl⟩
                  rw [unhide HKK]
                  have hn2 : n2 ≤ 1049600 := by have := unhide HN2; omega
                  go_wp2_with fail
                  refine (specUp16 m4 nwN xb (by omega) (by omega) HU4 wr).mono ?_
                  rintro e wr ⟨rfl, rfl⟩
                  by_cases hil : kk < xb
                  · have hkI : (kk : Int) < (xb : Int) := by omega
                    have q1 := i64_in ((kk : Int) + 1) (by omega)
                    have hiC : i < C := by have := unhide HKK; have := unhide HCC; omega
                    obtain ⟨ix, HIXE⟩ : ∃ k : Nat, Hid (m5 + kk = k) := ⟨_, rfl⟩
                    have q2 : IntKind.i64.wrap ((m5 : Int) + (kk : Int)) = (ix : Int) := by
                      have := unhide HIXE
                      rw [i64_in _ (by omega)]
                      omega
                    have hixl : ix < n := by
                      have h1 := unhide HN
                      have h2 := unhide HLEN
                      have h3 := unhide HIXE
                      omega
                    have hc : W.cell? ⟨bb, off + ix, none⟩ = some (.int .i64 (zs.getD ix 0)) := by
                      obtain ⟨b', o', e, hc⟩ := (unhide HRA).2 ix hixl
                      simp only [Option.some.injEq, Addr.mk.injEq, and_true] at e
                      rw [e.1, e.2]
                      exact hc
                    have hcell := (unhide HGV).cell hc (by simp)
                    obtain ⟨e1, HE1⟩ : ∃ z, Hid (zs.getD ix 0 = z) := ⟨_, rfl⟩
                    rw [unhide HE1] at hcell
                    have he := unhide HT0 ix
                    rw [unhide HE1] at he
                    have q3 := i64_in (s2 + e1) (by omega)
                    have q4 := i64_in ((n2 : Int) + 1) (by omega)
                    have hixI : (ix : Int) < (n : Int) := by omega
                    have HS3 : Hid (sm + sumK zs m5 xa (i + 1) = s2 + e1) := by
                      unfold Hid
                      rw [sumK, unhide HKK, unhide HIXE, unhide HE1, ← unhide HS2]
                      omega
                    have HKN : Hid ((kk : Int) + 1 = ((xa + (i + 1) : Nat) : Int)) := by have := unhide HKK; unfold Hid; omega
                    clear hc
                    go_wp2
                    go_roundw
                    case rel => exact ⟨i + 1, s2 + e1, n2 + 1, by omega, rfl, by go_num, by rw [unhide HKN], HS3, by have := unhide HN2; unfold Hid; omega, by omega, HOV, HGV⟩
                    case measure => simp [intOf]; omega
                  · have hkd : decide ((kk : Int) < (xb : Int)) = false := decide_eq_false (by omega)
                    have hkd2 : decide (kk < xb) = false := decide_eq_false (by omega)
                    have hiC : i = C := by have := unhide HKK; have := unhide HCC; omega
                    have HS3 : Hid (sumR zs wN ya xa C (j + 1) = s2) := by
                      unfold Hid
                      rw [sumR, unhide HSM, unhide HRR, unhide HM5, ← unhide HS2, hiC]
                    have HN3 : Hid ((j + 1) * C = n2) := by unfold Hid; rw [Nat.add_mul, Nat.one_mul, unhide HNN, ← unhide HN2, hiC]
                    have HKN : Hid ((rr : Int) + 1 = ((ya + (j + 1) : Nat) : Int)) := by have := unhide HRR; unfold Hid; omega
                    clear hiC
                    go_wp2
                    go_roundw
                    case rel => exact ⟨j + 1, s2, n2, by omega, rfl, rfl, by rw [unhide HKN], HS3, HN3, hs2, HOV, HGV⟩
                    case measure => simp [intOf]; omega
              · have hkd : decide ((rr : Int) < (yb : Int)) = false := decide_eq_false (by omega)
                have hkd2 : decide (rr < yb) = false := decide_eq_false (by omega)
                have hjR : j = R := by have := unhide HRR; have := unhide HR; omega
                have HZ2 : Hid (meanI sm nn = z) := by unfold Hid; rw [← unhide HSM, ← unhide HNN, hjR]; exact unhide HZ'
                have hnn1 : 1 ≤ nn := by rw [← unhide HNN, hjR]; exact Nat.mul_le_mul hR.1 hC.1
                clear hjR
                go_wp2_with fail
                refine (specMean sm nn z (by omega) (by omega) HZ2 wr).mono ?_
                rintro e wr ⟨rfl, rfl⟩
                go_wp2_with ((at_builtin; refine append_i16 rfl _ _ rfl W _ c (L.take c) rfl (unhide HOV) z rfl hcb (unhide HGV) ?_; intro v' w' ho hg))
                have HO' := hide ho
                rw [unhide HNX] at HO'
                have HG' := hide hg
                clear ho hg
                go_roundw
                case rel => exact ⟨x + 1, c + 1, by omega, by go_num, by unfold Hid; rw [← unhide HC]; omega, HO', HG'⟩
                case measure => simp [intOf]; omega
          · obtain rfl : x = nwN := by omega
            have hxd : decide ((x : Int) < (x : Int)) = false := decide_eq_false (by omega)
            have HC' : Hid ((y + 1) * x = c) := by unfold Hid; rw [← unhide HC, Nat.add_mul, Nat.one_mul]
            go_wp2
            go_roundw
            case rel => exact ⟨y + 1, c, by omega, by go_num, HC', HOV, HGV⟩
            case measure => simp [intOf]; omega
      · obtain rfl : y = nhN := by omega
        have hyd : decide ((y : Int) < (y : Int)) = false := decide_eq_false (by omega)
        have HCL : Hid (c0 = L.length) := by unfold Hid; rw [unhide HLL, ← unhide HC0, Nat.mul_comm]
        rw [unhide HCL, List.take_length] at HOV
        obtain ⟨so, sc, rfl⟩ := own_form (unhide HOV)
        go_wp2
        go_ret
        exact ⟨_, _, rfl, unhide HOV, unhide HGV⟩
end Go.Proofs.Ytkefpjbdkhifhaa

namespace Go.Proofs.Ytkefpjbdkhifhaa
open Go.RowKit

set_option maxRecDepth 20000 in
set_option maxHeartbeats 3200000 in
theorem specGrow (ao : Option Addr) (n cap : Nat) (zs : List Int) (w h nw nh : Int) (W : World) (hr : Rd .i64 W ao n zs) (hn : n ≤ 9223372036854775807) (L : List Int) (HL : Hid (growG zs w h nw nh = L)) :
    Calls Try.prog 20 #[.slice ao n cap, .int .i64 w, .int .i64 h, .int .i64 nw, .int .i64 nh] W fun e W' => ∃ so sc, e = .returned (.slice so L.length sc) ∧ W'.ownsRow W.heap.size 3 1 (.slice so L.length sc) L.length (L.map (Value.int .i64)) ∧ W.grownBy W' none := by
  have HO : Hid ((W.alloc (.cells #[] 3)).ownsRow W.heap.size 3 1 (.slice (some ⟨W.heap.size, 0, none⟩) 0 0) 0 []) := World.ownsRow_lit W #[] 0 (Nat.le_refl _) (by unfold maxLen; omega) rfl
  have HR0 := hide hr
  have HR := hide (hr.grown (World.grownBy_alloc W (.cells #[] 3) none))
  have HN := hide hr.1
  clear hr
  obtain ⟨pb, HP⟩ : ∃ y, Hid (planeB zs w h = y) := ⟨_, rfl⟩
  go_enter Try.func20, Try.ntmps20
  go_wp2_with fail
  refine (specPlaneOk ao n cap zs w h _ (unhide HR) hn pb HP).mono ?_
  rintro e w1 ⟨rfl, g1⟩
  have HGW : Hid (W.grownBy w1 none) := grown_trans (World.grownBy_alloc _ _ _) g1
  have HOWN := hide (own_grown (unhide HO) g1)
  clear g1 HO HR
  cases pb with
  | false =>
    obtain rfl : L = [] := by rw [← unhide HL, growG, unhide HP]; rfl
    go_wp2
    go_ret
    exact ⟨_, _, rfl, unhide HOWN, unhide HGW⟩
  | true =>
    have hpl := plane_of (unhide HP)
    obtain ⟨t1, HT1⟩ : ∃ y, Hid (sidesB nw nh = y) := ⟨_, rfl⟩
    have HLP := hide hpl
    clear hpl
    go_wp2_with fail
    refine (specSides nw nh t1 HT1 w1).mono ?_
    rintro e w1 ⟨rfl, rfl⟩
    by_cases h1 : ¬ t1 = true
    · obtain rfl : t1 = false := by simpa using h1
      obtain rfl : L = [] := by rw [← unhide HL, growG, unhide HT1]; simp
      go_wp2
      go_ret
      exact ⟨_, _, rfl, unhide HOWN, unhide HGW⟩
    obtain rfl : t1 = true := by simpa using h1
    by_cases c1 : nw < w
    · obtain rfl : L = [] := by rw [← unhide HL, growG, decide_eq_false (by omega : ¬ w ≤ nw)]; simp
      have d1 : decide (nw < w) = true := decide_eq_true c1
      go_wp2
      go_ret
      exact ⟨_, _, rfl, unhide HOWN, unhide HGW⟩
    have d1 : decide (nw < w) = false := decide_eq_false c1
    by_cases c2 : nh < h
    · obtain rfl : L = [] := by rw [← unhide HL, growG, decide_eq_false (by omega : ¬ h ≤ nh)]; simp
      have d2 : decide (nh < h) = true := decide_eq_true c2
      go_wp2
      go_ret
      exact ⟨_, _, rfl, unhide HOWN, unhide HGW⟩
    have d2 : decide (nh < h) = false := decide_eq_false c2
    have HT2 : Hid (decide (w ≤ nw) = true) := decide_eq_true (by omega)
    have HT3 : Hid (decide (h ≤ nh) = true) := decide_eq_true (by omega)
    have hpl := unhide HLP
    obtain ⟨b1, b2, b3⟩ := sides_of (unhide HT1)
    clear h1 HLP
    have hbd : nw.toNat * nh.toNat ≤ 131072 := by
      have h3 : ((nw.toNat * nh.toNat : Nat) : Int) = nw * nh := by push_cast; rw [Int.toNat_of_nonneg (by omega), Int.toNat_of_nonneg (by omega)]
      omega
    obtain ⟨wN, rfl⟩ : ∃ k : Nat, w = (k : Int) := ⟨w.toNat, by omega⟩
    obtain ⟨hN, rfl⟩ : ∃ k : Nat, h = (k : Int) := ⟨h.toNat, by omega⟩
    obtain ⟨nwN, rfl⟩ : ∃ k : Nat, nw = (k : Int) := ⟨nw.toNat, by omega⟩
    obtain ⟨nhN, rfl⟩ : ∃ k : Nat, nh = (k : Int) := ⟨nh.toNat, by omega⟩
    have d3 : decide (nwN < wN) = false := decide_eq_false (by omega)
    have d4 : decide (nhN < hN) = false := decide_eq_false (by omega)
    clear c1 c2
    have HLG : Hid (growL zs wN hN nwN nhN = L) := by
      unfold Hid
      rw [← unhide HL, growG, unhide HP, unhide HT1, unhide HT2, unhide HT3]
      rfl
    have hlen : zs.length = wN * hN := by have := hpl.2.2.1; exact_mod_cast this
    have HLL : Hid (L.length = nwN * nhN) := by unfold Hid; rw [← unhide HLG]; exact gridL_len _ _ _
    simp only [Int.toNat_natCast] at hbd
    have HBD := hide hbd
    have hb1 : wN ≤ 1024 ∧ hN ≤ 1024 ∧ nwN ≤ 1024 ∧ nhN ≤ 1024 ∧ 1 ≤ wN ∧ 1 ≤ hN ∧ 1 ≤ nwN ∧ 1 ≤ nhN := by omega
    have HLEN := hide hlen
    have HRW := hide ((unhide HR0).grown (unhide HGW))
    have HRA : Hid (Rd .i64 W ao n zs) := HR0
    clear hpl hlen hbd HP HL HRW
    go_wp2
    go_loopw [11, 12] (fun ov yv wr => ∃ (y c : Nat), y ≤ nhN ∧ yv = .int .i64 y ∧ Hid (y * nwN = c) ∧ Hid (wr.ownsRow W.heap.size 3 1 ov c ((L.take c).map (Value.int .i64))) ∧ Hid (W.grownBy wr none)) (fun _ yv _ => nhN - (intOf yv).toNat)
    case atStart => exact ⟨0, 0, by omega, by go_num, by simp [Hid], HOWN, HGW⟩
    case round =>
      clear HOWN HGW
      obtain ⟨y, c0, hy, rfl, HC0, HOV, HGV⟩ := hrel
      by_cases hyl : y < nhN
      · have hyI : (y : Int) < (nhN : Int) := by omega
        have y1 := i64_in ((y : Int) + 1) (by omega)
        go_wp2
        go_loopw [11, 13] (fun ov xv wr => ∃ (x c : Nat), x ≤ nwN ∧ xv = .int .i64 x ∧ Hid (y * nwN + x = c) ∧ Hid (wr.ownsRow W.heap.size 3 1 ov c ((L.take c).map (Value.int .i64))) ∧ Hid (W.grownBy wr none)) (fun _ xv _ => nwN - (intOf xv).toNat)
        case atStart => exact ⟨0, c0, by omega, by go_num, HC0, HOV, HGV⟩
        case round =>
          clear HOV HGV HC0
          obtain ⟨x, c, hx, rfl, HC, HOV, HGV⟩ := hrel
          by_cases hxl : x < nwN
          · have hxI : (x : Int) < (nwN : Int) := by omega
            have x1 := i64_in ((x : Int) + 1) (by omega)
            have hcl : c < nwN * nhN := by
              rw [← unhide HC]
              have : (y + 1) * nwN ≤ nhN * nwN := Nat.mul_le_mul_right _ hyl
              rw [Nat.add_mul, Nat.one_mul] at this
              rw [Nat.mul_comm nwN nhN]
              omega
            have hcb : c + 1 ≤ 1000000 := by have := unhide HBD; omega
            obtain ⟨a1, HA1⟩ : ∃ a : Nat, Hid (y * hN = a) := ⟨_, rfl⟩
            obtain ⟨a2, HA2⟩ : ∃ a : Nat, Hid (a1 / nhN = a) := ⟨_, rfl⟩
            obtain ⟨a3, HA3⟩ : ∃ a : Nat, Hid (a2 * wN = a) := ⟨_, rfl⟩
            obtain ⟨a4, HA4⟩ : ∃ a : Nat, Hid (x * wN = a) := ⟨_, rfl⟩
            obtain ⟨a5, HA5⟩ : ∃ a : Nat, Hid (a4 / nwN = a) := ⟨_, rfl⟩
            obtain ⟨ix, HIXE⟩ : ∃ i : Nat, Hid (a3 + a5 = i) := ⟨_, rfl⟩
            have l1' : a1 ≤ 1048576 := by rw [← unhide HA1]; exact Nat.mul_le_mul (by omega : y ≤ 1024) (by omega : hN ≤ 1024)
            have l4 : a4 ≤ 1048576 := by rw [← unhide HA4]; exact Nat.mul_le_mul (by omega : x ≤ 1024) (by omega : wN ≤ 1024)
            have l2 : a2 < hN := by
              rw [← unhide HA2, ← unhide HA1]
              exact Nat.div_lt_of_lt_mul (Nat.mul_lt_mul_of_pos_right hyl (by omega))
            have l5 : a5 < wN := by
              rw [← unhide HA5, ← unhide HA4]
              exact Nat.div_lt_of_lt_mul (Nat.mul_lt_mul_of_pos_right hxl (by omega))
            have hya : a2 * wN + wN ≤ hN * wN := by
              have : (a2 + 1) * wN ≤ hN * wN := Nat.mul_le_mul_right _ (by omega)
              rw [Nat.add_mul, Nat.one_mul] at this
              exact this
            have hwh : hN * wN ≤ 1048576 := Nat.mul_le_mul (by omega : hN ≤ 1024) (by omega : wN ≤ 1024)
            rw [unhide HA3] at hya
            have k1 : IntKind.i64.wrap ((y : Int) * (hN : Int)) = (a1 : Int) := by
              have e : (y : Int) * (hN : Int) = (a1 : Int) := by have := unhide HA1; exact_mod_cast this
              rw [e, i64_in _ (by omega)]
            have k2 : (a1 : Int).tdiv (nhN : Int) = (a2 : Int) := by
              rw [Int.tdiv_eq_ediv_of_nonneg (by omega)]
              have := unhide HA2
              exact_mod_cast this
            have k3 : IntKind.i64.wrap ((a2 : Int) * (wN : Int)) = (a3 : Int) := by
              have e : (a2 : Int) * (wN : Int) = (a3 : Int) := by have := unhide HA3; exact_mod_cast this
              rw [e, i64_in _ (by omega)]
            have k4 : IntKind.i64.wrap ((x : Int) * (wN : Int)) = (a4 : Int) := by
              have e : (x : Int) * (wN : Int) = (a4 : Int) := by have := unhide HA4; exact_mod_cast this
              rw [e, i64_in _ (by omega)]
            have k5 : (a4 : Int).tdiv (nwN : Int) = (a5 : Int) := by
              rw [Int.tdiv_eq_ediv_of_nonneg (by omega)]
              have := unhide HA5
              exact_mod_cast this
            have k6 : IntKind.i64.wrap ((a3 : Int) + (a5 : Int)) = (ix : Int) := by
              have := unhide HIXE
              rw [i64_in _ (by omega)]
              omega
            have k7 := i64_in (a2 : Int) (by omega)
            have k8 := i64_in (a5 : Int) (by omega)
            have z1 : ((nhN : Int) == 0) = false := beq_eq_false_iff_ne.2 (by omega)
            have z2 : ((nhN : Int) == -1) = false := beq_eq_false_iff_ne.2 (by omega)
            have z3 : ((nwN : Int) == 0) = false := beq_eq_false_iff_ne.2 (by omega)
            have z4 : ((nwN : Int) == -1) = false := beq_eq_false_iff_ne.2 (by omega)
            have z5 : ¬ nhN = 0 := by omega
            have z6 : ¬ nwN = 0 := by omega
            have HCLT := hide hcl
            have hixl : ix < n := by
              have h1 := unhide HN
              have h2 := unhide HLEN
              have h3 : ix < wN * hN := by have := unhide HIXE; rw [Nat.mul_comm wN hN]; omega
              omega
            obtain ⟨bb, off, HAO, hc⟩ : ∃ bb off, Hid (ao = some ⟨bb, off, none⟩) ∧ W.cell? ⟨bb, off + ix, none⟩ = some (.int .i64 (zs.getD ix 0)) := by
              obtain ⟨bb, off, e, hc⟩ := (unhide HRA).2 ix hixl
              exact ⟨bb, off, e, hc⟩
            have hbb : W.heap.size ≠ bb := by
              have := (unhide HRA).lt (by omega) bb off (unhide HAO)
              omega
            have hcell := (unhide HGV).cell hc (by simp)
            obtain ⟨z, HZ⟩ : ∃ z, Hid (zs.getD ix 0 = z) := ⟨_, rfl⟩
            have HNX : Hid (L.take c ++ [z] = L.take (c + 1)) := by
              unfold Hid
              rw [← unhide HLG]
              have h1 : c / nwN = y := by rw [← unhide HC, Nat.add_comm, Nat.add_mul_div_right _ _ (by omega), Nat.div_eq_of_lt hxl, Nat.zero_add]
              have h2 : c % nwN = x := by rw [← unhide HC, Nat.add_comm, Nat.add_mul_mod_self_right, Nat.mod_eq_of_lt hxl]
              unfold growL
              rw [gridL_take _ _ _ c hcl, h1, h2, ← unhide HZ, unhide HA1, unhide HA2, unhide HA3, unhide HA4, unhide HA5, unhide HIXE]
            rw [unhide HZ] at hcell
            have hixI : (ix : Int) < (n : Int) := by omega
            have HIX : Hid (ix < n) := hixl
            clear hc hcl hixl
            rw [unhide HAO]
            have HFAR : Hid (¬ u11.ownBlock = some bb) := fun e => by have h1 := ((unhide HOV).lt bb e).1; have h2 := (unhide HRA).lt (by have := unhide HIX; omega) bb off (unhide HAO); omega
            go_wp2
            have hcd : wr.drew.cell? ⟨bb, off + ix, none⟩ = some (.int .i64 z) := hcell
            obtain ⟨l0, HK0⟩ : ∃ l, Hid (L.take c = l) := ⟨_, rfl⟩
            obtain ⟨l1, HK1⟩ : ∃ l, Hid (L.take (c + 1) = l) := ⟨_, rfl⟩
            have HN0 : Hid (l0.length = c) := by unfold Hid; rw [← unhide HK0, List.length_take, unhide HLL]; have := unhide HCLT; omega
            have HN1 : Hid (l1.length = c + 1) := by unfold Hid; rw [← unhide HK1, List.length_take, unhide HLL]; have := unhide HCLT; omega
            rw [unhide HK0, unhide HK1] at HNX
            have HOD : Hid (wr.drew.ownsRow W.heap.size 3 1 u11 l0.length (l0.map (Value.int .i64))) := by rw [unhide HN0, ← unhide HK0]; exact unhide HOV
            have HGD : Hid (W.grownBy wr.drew none) := grown_drew (unhide HGV)
            clear HOV HGV hcell
            refine wp_region_noPanic ?_
            refine wp_region_raw (fun W => W.cell? ⟨bb, off + ix, none⟩ = some (.int .i64 z)) [true, true, true, true, true, true, true, true, true, true, true, true, true, true, true, true, true, false, false, false] (by kernel_rfl) (fun _ _ _ _ _ h => h) rfl (by kernel_rfl) hcd ?_
            iterate 17
              refine heldF_take (v := ?_) (Or.inl ⟨by rfl, ?_⟩) ?_
              rotate_left 1
              · intro w' hSw
                try dsimp only at hSw
                have q1 := hSw
                go_simp
                try with_reducible rfl
              simp only [Act.put, List.setIfInBounds_toArray, List.set_cons_zero, List.set_cons_succ]
            refine heldF_skip ?_
            refine heldF_skip ?_
            refine heldF_skip ?_
            refine heldF_nil ?_
            generalize wr.drew = wx at *
            refine anyH_step1 (i := 17) rfl (by kernel_rfl) (fun K hK => ?_)
            go_simp
            have gA := World.grownBy_alloc wx (.cells #[.int .i64 z] 3) none
            refine hK.out _ _ (gA.cell hcd (by simp)) ?_
            clear hK K gA
            try simp only [Act.put, List.setIfInBounds_toArray, List.set_cons_zero, List.set_cons_succ]
            refine anyH_step1 (i := 18) rfl (by kernel_rfl) (fun K hK => ?_)
            refine step_append_i16 (w := wx) (by rfl) _ _ (by rfl) W.heap.size u11 l0 (by rfl) (unhide HOD) z (by rfl) (by rw [unhide HN0]; have := unhide HBD; have := unhide HCLT; omega) (unhide HGD).size l1 (unhide HNX) ?_
            intro v' w' o' g' _
            have HG' : Hid (W.grownBy w' none) := grown_new (unhide HGD) g' (fun x e => ((unhide HOD).lt x e).1)
            have hcd' := g'.cell hcd (fun e => unhide HFAR e.symm)
            refine hK.out _ _ hcd' ?_
            clear hK K
            try simp only [Act.put, List.setIfInBounds_toArray, List.set_cons_zero, List.set_cons_succ]
            refine anyH_step1 (i := 19) rfl (by kernel_rfl) (fun K hK => ?_)
            go_simp
            refine hK.out _ _ hcd' ?_
            clear hK K
            try simp only [Act.put, List.setIfInBounds_toArray, List.set_cons_zero, List.set_cons_succ]
            refine wpAnyH_done (by kernel_rfl) (NoPanic.normal ?_) _
            have HO' : Hid (w'.ownsRow W.heap.size 3 1 v' (c + 1) ((L.take (c + 1)).map (Value.int .i64))) := by rw [unhide HK1, ← unhide HN1]; exact o'
            clear o' g' hcd hcd'
            go_wp2
            go_roundw
            case rel => exact ⟨x + 1, c + 1, by omega, by go_num, by unfold Hid; rw [← unhide HC]; omega, HO', HG'⟩
            case measure => simp [intOf]; omega
          · obtain rfl : x = nwN := by omega
            have hxd : decide ((x : Int) < (x : Int)) = false := decide_eq_false (by omega)
            have HC' : Hid ((y + 1) * x = c) := by unfold Hid; rw [← unhide HC, Nat.add_mul, Nat.one_mul]
            go_wp2
            go_roundw
            case rel => exact ⟨y + 1, c, by omega, by go_num, HC', HOV, HGV⟩
            case measure => simp [intOf]; omega
      · obtain rfl : y = nhN := by omega
        have hyd : decide ((y : Int) < (y : Int)) = false := decide_eq_false (by omega)
        have HCL : Hid (c0 = L.length) := by unfold Hid; rw [unhide HLL, ← unhide HC0, Nat.mul_comm]
        rw [unhide HCL, List.take_length] at HOV
        obtain ⟨so, sc, rfl⟩ := own_form (unhide HOV)
        go_wp2
        go_ret
        exact ⟨_, _, rfl, unhide HOV, unhide HGV⟩
end Go.Proofs.Ytkefpjbdkhifhaa

namespace Go.Proofs.Ytkefpjbdkhifhaa
open Go.RowKit

/-- The cursor, as it lies in memory. -/
def Cu (w : World) (tb : Nat) (ao : Option Addr) (n cap p s : Nat) : Prop := w.heap[tb]? = some (.cells #[.slice ao n cap, .int .i64 p, .int .i64 s] 83 (0, 0))

section
variable {w : World} {tb : Nat} {ao : Option Addr} {n cap p s : Nat}
theorem Cu.c0 (h : Cu w tb ao n cap p s) : w.cell? ⟨tb, 0, none⟩ = some (.slice ao n cap) := by rw [cell_of_row w tb 0 _ _ (0, 0) h]; rfl
theorem Cu.c1 (h : Cu w tb ao n cap p s) : w.cell? ⟨tb, 1, none⟩ = some (.int .i64 p) := by rw [cell_of_row w tb 1 _ _ (0, 0) h]; rfl
theorem Cu.c2 (h : Cu w tb ao n cap p s) : w.cell? ⟨tb, 2, none⟩ = some (.int .i64 s) := by rw [cell_of_row w tb 2 _ _ (0, 0) h]; rfl
theorem Cu.fz (h : Cu w tb ao n cap p s) (j : Nat) : w.frozen? ⟨tb, j, none⟩ = false := frozen_of_row w tb j _ _ h
theorem Cu.lt (h : Cu w tb ao n cap p s) : tb < w.heap.size := by obtain ⟨h, _⟩ := Array.getElem?_eq_some_iff.1 h; exact h
theorem Cu.at (h : Cu w tb ao n cap p s) (q : Nat) : Cu (w.setCell ⟨tb, 1, none⟩ (.int .i64 q)) tb ao n cap q s := heap_setCell_same w tb 1 _ _ _ h
theorem Cu.seed (h : Cu w tb ao n cap p s) (q : Nat) : Cu (w.setCell ⟨tb, 2, none⟩ (.int .i64 q)) tb ao n cap p q := heap_setCell_same w tb 2 _ _ _ h
theorem Cu.grown {w' : World} (h : Cu w tb ao n cap p s) (hg : w.grownBy w' none) : Cu w' tb ao n cap p s := (hg.block tb h.lt (by simp)).trans h
theorem Cu.beside {w' : World} {row : Option Nat} (h : Cu w tb ao n cap p s) (hg : w.grownBy w' row) (hne : row ≠ some tb) : Cu w' tb ao n cap p s := (hg.block tb h.lt (fun e => hne e.symm)).trans h
end
/-- What a pick leaves. -/
def Picked (w : World) (tb : Nat) (ao : Option Addr) (n cap p : Nat) (k : Int) (e : Ending) (w' : World) : Prop :=
  ∃ (x : Int) (p' s' : Nat), e = .returned (.int .i64 x) ∧ 0 ≤ x ∧ x < k ∧ Cu w' tb ao n cap p' s' ∧ p' ≤ p + 2 ∧ s' < 65521 ∧ w.grownBy w' (some tb)

theorem picked_of {w w' : World} {tb : Nat} {ao : Option Addr} {n cap p p' s' : Nat} {k y : Int} {v : Value} (hv : v = .int .i64 (y % k)) (hk : 2 ≤ k) (hc : Cu w' tb ao n cap p' s') (hp : p' ≤ p + 2) (hs : s' < 65521) (hg : w.grownBy w' (some tb)) :
    Picked w tb ao n cap p k (.returned v) w' :=
  ⟨y % k, p', s', by rw [hv], Int.emod_nonneg _ (by omega), Int.emod_lt_of_pos _ (by omega), hc, hp, hs, hg⟩

set_option maxHeartbeats 1600000 in
theorem curPick_in (tb : Nat) (ao : Option Addr) (n cap p s : Nat) (k : Int) (zs : List Int) (w : World) (ht : Cu w tb ao n cap p s) (hr : Rd .u8 w ao n zs) (hne : 0 < n → ∀ b off, ao = some ⟨b, off, none⟩ → b ≠ tb)
    (hb : ∀ i, 0 ≤ zs.getD i 0 ∧ zs.getD i 0 ≤ 255) (hn : n ≤ 1048576) (hs : s < 65521) (hk : 2 ≤ k) (hk2 : k ≤ 256) (hpn : p < n) :
    Calls Try.prog 52 #[.pointer (some ⟨tb, 0, none⟩), .int .i64 k] w (Picked w tb ao n cap p k) := by
  obtain ⟨hl, hc⟩ := hr
  obtain ⟨b, off, rfl, hcb⟩ := hc p hpn
  have hbt : ¬ b = tb := hne (by omega) b off rfl
  have hbb := hb p
  have c0 := ht.c0
  have c1 := ht.c1
  have f1 := ht.fz 1
  clear hc hb hne
  generalize zs.getD p 0 = x at hcb hbb
  obtain ⟨hx0, hx1⟩ := hbb
  have hlt2 : decide (k < 2) = false := by simp; omega
  have hgt : decide (256 < k) = false := by simp; omega
  have hik : (p : Int) < (n : Int) := by omega
  go_enter Try.func52, Try.ntmps52
  go_wp2
  go_quiet (fail)
  go_wp2
  go_quiet (fail)
  go_wp2
  go_quiet (fail)
  go_wp2
  go_ret
  exact picked_of (y := x) rfl hk (Cu.at (w := w.drewN _) ht (p + 1)) (by omega) hs (grown_set' _ _ _ _ _)

set_option maxHeartbeats 1600000 in
theorem curPick_in3 (tb : Nat) (ao : Option Addr) (n cap p s : Nat) (k : Int) (zs : List Int) (w : World) (ht : Cu w tb ao n cap p s) (hr : Rd .u8 w ao n zs) (hne : 0 < n → ∀ b off, ao = some ⟨b, off, none⟩ → b ≠ tb)
    (hb : ∀ i, 0 ≤ zs.getD i 0 ∧ zs.getD i 0 ≤ 255) (hn : n ≤ 1048576) (hs : s < 65521) (hk : 2 ≤ k) (hk2 : 256 < k) (hk3 : k ≤ 2147483648) (hpn : p < n) (hp1 : n ≤ p + 1) :
    Calls Try.prog 52 #[.pointer (some ⟨tb, 0, none⟩), .int .i64 k] w (Picked w tb ao n cap p k) := by
  obtain ⟨hl, hc⟩ := hr
  obtain ⟨b, off, rfl, hcb⟩ := hc p hpn
  have hbt : ¬ b = tb := hne (by omega) b off rfl
  have hbb := hb p
  have c0 := ht.c0
  have c1 := ht.c1
  have f1 := ht.fz 1
  clear hc hb hne
  generalize zs.getD p 0 = x at hcb hbb
  obtain ⟨hx0, hx1⟩ := hbb
  have hlt2 : decide (k < 2) = false := by simp; omega
  have hgt : decide (256 < k) = true := by simp; omega
  have hge : decide ((p : Int) + 1 < (n : Int)) = false := by simp; omega
  have hik : (p : Int) < (n : Int) := by omega
  go_enter Try.func52, Try.ntmps52
  go_wp2
  go_quiet (fail)
  go_wp2
  go_quiet (fail)
  go_wp2
  go_quiet (fail)
  go_wp2
  go_ret
  exact picked_of (y := x) rfl hk (Cu.at (w := w.drewN _) ht (p + 1)) (by omega) hs (grown_set' _ _ _ _ _)

set_option maxHeartbeats 1600000 in
theorem curPick_in2 (tb : Nat) (ao : Option Addr) (n cap p s : Nat) (k : Int) (zs : List Int) (w : World) (ht : Cu w tb ao n cap p s) (hr : Rd .u8 w ao n zs) (hne : 0 < n → ∀ b off, ao = some ⟨b, off, none⟩ → b ≠ tb)
    (hb : ∀ i, 0 ≤ zs.getD i 0 ∧ zs.getD i 0 ≤ 255) (hn : n ≤ 1048576) (hs : s < 65521) (hk : 2 ≤ k) (hk2 : 256 < k) (hk3 : k ≤ 2147483648) (hp1 : p + 1 < n) :
    Calls Try.prog 52 #[.pointer (some ⟨tb, 0, none⟩), .int .i64 k] w (Picked w tb ao n cap p k) := by
  obtain ⟨hl, hc⟩ := hr
  obtain ⟨b, off, rfl, hcb⟩ := hc p (by omega)
  obtain ⟨b', off', hao, hcb'⟩ := hc (p + 1) hp1
  simp at hao
  obtain ⟨rfl, rfl⟩ := hao
  have hbb' := hb (p + 1)
  have hbt : ¬ b = tb := hne (by omega) b off rfl
  have hbb := hb p
  have c0 := ht.c0
  have c1 := ht.c1
  have f1 := ht.fz 1
  clear hc hb hne
  generalize zs.getD (p + 1) 0 = x' at hcb' hbb'
  obtain ⟨hx0', hx1'⟩ := hbb'
  generalize zs.getD p 0 = x at hcb hbb
  obtain ⟨hx0, hx1⟩ := hbb
  have hlt2 : decide (k < 2) = false := by simp; omega
  have hgt : decide (256 < k) = true := by simp; omega
  have hge : decide ((p : Int) + 1 < (n : Int)) = true := by simp; omega
  have hik1 : (p : Int) + 1 < (n : Int) := by omega
  have hik : (p : Int) < (n : Int) := by omega
  go_enter Try.func52, Try.ntmps52
  go_wp2
  go_quiet (fail)
  go_wp2
  go_quiet (fail)
  go_wp2
  go_quiet (fail)
  go_wp2
  go_quiet (fail)
  go_wp2
  go_ret
  exact picked_of (y := 256 * x + x') rfl hk (Cu.at (w := World.drewN (World.setCell (w.drewN _) _ _) _) (Cu.at (w := w.drewN _) ht (p + 1)) (p + 1 + 1)) (by omega) hs (grown_trans (grown_set' _ _ _ _ _) (grown_set' _ _ _ _ _))

set_option maxHeartbeats 1600000 in
theorem curPick_none (tb : Nat) (ao : Option Addr) (cap p s : Nat) (k : Int) (w : World) (ht : Cu w tb ao 0 cap p s) (hp : p ≤ 1000000000000) (hs : s < 65521) (hk : 2 ≤ k) (hk3 : k ≤ 2147483648) :
    Calls Try.prog 52 #[.pointer (some ⟨tb, 0, none⟩), .int .i64 k] w (Picked w tb ao 0 cap p k) := by
  have c0 := ht.c0
  have c1 := ht.c1
  have c2 := ht.c2
  have f1 := ht.fz 1
  have f2 := ht.fz 2
  have hlt2 : decide (k < 2) = false := by simp; omega
  have hpn : decide ((p : Int) < 0) = false := by simp
  go_enter Try.func52, Try.ntmps52
  go_wp2
  go_quiet (fail)
  go_wp2
  go_ret
  have e : ((s : Int) * 1103 + 12345) % 65521 = (((s * 1103 + 12345) % 65521 : Nat) : Int) := by omega
  rw [e]
  exact picked_of (y := (((s * 1103 + 12345) % 65521 : Nat) : Int) / 3) (by rw [← e]; rfl) hk (Cu.at (Cu.seed (w := w.drewN _) ht ((s * 1103 + 12345) % 65521)) (p + 1)) (by omega) (Nat.mod_lt _ (by omega)) (grown_trans (grown_set' _ _ _ _ _) (grown_set _ _ _ _))

set_option maxHeartbeats 1600000 in
theorem curPick_out (tb : Nat) (ao : Option Addr) (n cap p s : Nat) (k : Int) (zs : List Int) (w : World) (ht : Cu w tb ao n cap p s) (hr : Rd .u8 w ao n zs) (hne : 0 < n → ∀ b off, ao = some ⟨b, off, none⟩ → b ≠ tb)
    (hb : ∀ i, 0 ≤ zs.getD i 0 ∧ zs.getD i 0 ≤ 255) (hn : n ≤ 1048576) (hp : p ≤ 1000000000000) (hs : s < 65521) (hk : 2 ≤ k) (hk3 : k ≤ 2147483648) (hn0 : 0 < n) (hpn : n ≤ p) :
    Calls Try.prog 52 #[.pointer (some ⟨tb, 0, none⟩), .int .i64 k] w (Picked w tb ao n cap p k) := by
  obtain ⟨hl, hc⟩ := hr
  have hm : p % n < n := Nat.mod_lt _ hn0
  obtain ⟨b, off, rfl, hcb⟩ := hc (p % n) hm
  have hbt : ¬ b = tb := hne (by omega) b off rfl
  have hbb := hb (p % n)
  have c0 := ht.c0
  have c1 := ht.c1
  have c2 := ht.c2
  have f1 := ht.fz 1
  have f2 := ht.fz 2
  clear hc hb hne
  generalize zs.getD (p % n) 0 = x at hcb hbb
  obtain ⟨hx0, hx1⟩ := hbb
  have hlt2 : decide (k < 2) = false := by simp; omega
  have hge : decide ((p : Int) < (n : Int)) = false := by simp; omega
  have hpos : decide ((0 : Int) < (n : Int)) = true := by simp; omega
  have hmi : ((p : Int) % (n : Int)) < (n : Int) := Int.emod_lt_of_pos _ (by omega)
  have hmi0 : 0 ≤ ((p : Int) % (n : Int)) := Int.emod_nonneg _ (by omega)
  go_enter Try.func52, Try.ntmps52
  go_wp2
  go_quiet (fail)
  go_wp2
  go_quiet (fail)
  go_wp2
  go_ret
  have e : ((s : Int) * 1103 + 12345) % 65521 = (((s * 1103 + 12345) % 65521 : Nat) : Int) := by omega
  rw [e]
  exact picked_of (y := (((s * 1103 + 12345) % 65521 : Nat) : Int) / 3 + x) (by rw [← e]; rfl) hk (Cu.at (w := World.drewN (World.setCell (w.drewN _) _ _) _) (Cu.seed (w := w.drewN _) ht ((s * 1103 + 12345) % 65521)) (p + 1)) (by omega) (Nat.mod_lt _ (by omega)) (grown_trans (grown_set' _ _ _ _ _) (grown_set' _ _ _ _ _))

/-- A pick of two or more. -/
theorem curPick (tb : Nat) (ao : Option Addr) (n cap p s : Nat) (k : Int) (zs : List Int) (w : World) (ht : Cu w tb ao n cap p s) (hr : Rd .u8 w ao n zs) (hne : 0 < n → ∀ b off, ao = some ⟨b, off, none⟩ → b ≠ tb)
    (hb : ∀ i, 0 ≤ zs.getD i 0 ∧ zs.getD i 0 ≤ 255) (hn : n ≤ 1048576) (hp : p ≤ 1000000000000) (hs : s < 65521) (hk : 2 ≤ k) (hk3 : k ≤ 2147483648) :
    Calls Try.prog 52 #[.pointer (some ⟨tb, 0, none⟩), .int .i64 k] w (Picked w tb ao n cap p k) := by
  by_cases hpn : p < n
  · by_cases hk2 : k ≤ 256
    · exact curPick_in tb ao n cap p s k zs w ht hr hne hb hn hs hk hk2 hpn
    · by_cases hp1 : p + 1 < n
      · exact curPick_in2 tb ao n cap p s k zs w ht hr hne hb hn hs hk (by omega) hk3 hp1
      · exact curPick_in3 tb ao n cap p s k zs w ht hr hne hb hn hs hk (by omega) hk3 hpn (by omega)
  · by_cases hn0 : 0 < n
    · exact curPick_out tb ao n cap p s k zs w ht hr hne hb hn hp hs hk hk3 hn0 (by omega)
    · obtain rfl : n = 0 := by omega
      exact curPick_none tb ao cap p s k w ht hp hs hk hk3

/-- All that a call with a cursor wants of it, told in one. -/
structure Cur (w : World) (tb : Nat) (ao : Option Addr) (n cap : Nat) (zs : List Int) (p : Nat) : Prop where
  cu : ∃ s, Cu w tb ao n cap p s ∧ s < 65521
  rd : Rd .u8 w ao n zs
  ne : 0 < n → ∀ b off, ao = some ⟨b, off, none⟩ → b ≠ tb
  byte : ∀ i, 0 ≤ zs.getD i 0 ∧ zs.getD i 0 ≤ 255
  len : n ≤ 1048576

theorem Cur.lt {w : World} {tb : Nat} {ao : Option Addr} {n cap p : Nat} {zs : List Int} (h : Cur w tb ao n cap zs p) : tb < w.heap.size := by obtain ⟨s, h, _⟩ := h.cu; exact h.lt
theorem Cur.grown {w w' : World} {tb : Nat} {ao : Option Addr} {n cap p : Nat} {zs : List Int} (h : Cur w tb ao n cap zs p) (hg : w.grownBy w' none) : Cur w' tb ao n cap zs p :=
  ⟨by obtain ⟨s, h1, h2⟩ := h.cu; exact ⟨s, h1.grown hg, h2⟩, h.rd.grown hg, h.ne, h.byte, h.len⟩
/-- A row that is written, neither the cursor nor its code. -/
theorem Cur.beside {w w' : World} {tb : Nat} {ao : Option Addr} {n cap p : Nat} {zs : List Int} {row : Option Nat} (h : Cur w tb ao n cap zs p) (hg : w.grownBy w' row) (hrow : ∀ g, row = some g → g ≠ tb ∧ (0 < n → ∀ b off, ao = some ⟨b, off, none⟩ → b ≠ g)) : Cur w' tb ao n cap zs p := by
  cases row with
  | none => exact h.grown hg
  | some g =>
    have h1 := hrow g rfl
    exact ⟨by obtain ⟨s, h2, h3⟩ := h.cu; exact ⟨s, h2.beside hg (by simp; exact h1.1), h3⟩, h.rd.beside hg h1.2, h.ne, h.byte, h.len⟩

theorem pick_of (tb : Nat) (ao : Option Addr) (n cap p : Nat) (k : Int) (zs : List Int) (w : World) (h : Cur w tb ao n cap zs p) (hp : p ≤ 1000000000000) (hk : 2 ≤ k) (hk3 : k ≤ 2147483648) :
    Calls Try.prog 52 #[.pointer (some ⟨tb, 0, none⟩), .int .i64 k] w fun e w' => ∃ (x : Int) (p' : Nat), e = .returned (.int .i64 x) ∧ 0 ≤ x ∧ x < k ∧ Cur w' tb ao n cap zs p' ∧ p' ≤ p + 2 ∧ w.grownBy w' (some tb) := by
  obtain ⟨s, h1, h2⟩ := h.cu
  refine (curPick tb ao n cap p s k zs w h1 h.rd h.ne h.byte h.len hp h2 hk hk3).mono ?_
  rintro e w' ⟨x, p', s', he, hx0, hx1, hc, hp', hs', hg⟩
  exact ⟨x, p', he, hx0, hx1, ⟨⟨s', hc, hs'⟩, h.rd.beside hg h.ne, h.ne, h.byte, h.len⟩, hp', hg⟩

theorem pick_small (tb : Nat) (k : Int) (w : World) (hk : k < 2) :
    Calls Try.prog 52 #[.pointer (some ⟨tb, 0, none⟩), .int .i64 k] w fun e w' => e = .returned (.int .i64 0) ∧ w = w' := by
  have hlt2 : decide (k < 2) = true := by simp; omega
  go_enter Try.func52, Try.ntmps52
  go_wp2
  go_ret
  exact ⟨rfl, rfl⟩

theorem open_of (ao : Option Addr) (n cap : Nat) (zs : List Int) (w : World) (hr : Rd .u8 w ao n zs) (hb : ∀ i, 0 ≤ zs.getD i 0 ∧ zs.getD i 0 ≤ 255) (hn : n ≤ 1048576) :
    Calls Try.prog 42 #[.slice ao n cap] w fun e w' => e = .returned (.pointer (some ⟨w.heap.size, 0, none⟩)) ∧ Cur w' w.heap.size ao n cap zs 0 ∧ w.grownBy w' none := by
  have hlt := hr.lt
  have HR := hide hr
  have HB := hide hb
  clear hr hb
  go_enter Try.func42, Try.ntmps42
  go_wp2
  go_ret
  have e : 13 + (n : Int) % 1000 = ((13 + n % 1000 : Nat) : Int) := by omega
  rw [e]
  exact ⟨rfl, ⟨⟨13 + n % 1000, heap_alloc_new w _, by omega⟩, (unhide HR).grown (World.grownBy_alloc _ _ _), fun h b off e => by have := hlt h b off e; omega, unhide HB, hn⟩, World.grownBy_alloc _ _ _⟩

end Go.Proofs.Ytkefpjbdkhifhaa

namespace Go.Proofs.Ytkefpjbdkhifhaa
open Go.RowKit

set_option maxHeartbeats 800000 in
theorem once_of (tb : Nat) (ao : Option Addr) (n cap p : Nat) (k : Int) (zs : List Int) (w : World) (h : Cur w tb ao n cap zs p) (hp : p ≤ 1000000000000) (hk : 2 ≤ k) (hk3 : k ≤ 2147483648) :
    Calls Try.prog 54 #[.pointer (some ⟨tb, 0, none⟩), .int .i64 k] w fun e w' => ∃ (t : Bool) (p' : Nat), e = .returned (.bool t) ∧ Cur w' tb ao n cap zs p' ∧ p' ≤ p + 2 ∧ w.grownBy w' (some tb) := by
  have H := hide h
  clear h
  go_enter Try.func54, Try.ntmps54
  go_wp2_with fail
  refine (pick_of tb ao n cap p k zs w (unhide H) hp hk hk3).mono ?_
  rintro e w1 ⟨x, p', rfl, hx0, hx1, hc, hp', hg⟩
  go_wp2
  go_ret
  exact ⟨_, p', rfl, hc, hp', hg⟩

/-- A pick, whatever it is asked. -/
theorem pick_any (tb : Nat) (ao : Option Addr) (n cap p : Nat) (k : Int) (zs : List Int) (w : World) (h : Cur w tb ao n cap zs p) (hp : p ≤ 1000000000000) (hk : 1 ≤ k) (hk3 : k ≤ 2147483648) :
    Calls Try.prog 52 #[.pointer (some ⟨tb, 0, none⟩), .int .i64 k] w fun e w' => ∃ (x : Int) (p' : Nat), e = .returned (.int .i64 x) ∧ 0 ≤ x ∧ x < k ∧ Cur w' tb ao n cap zs p' ∧ p' ≤ p + 2 ∧ w.grownBy w' (some tb) := by
  by_cases h2 : 2 ≤ k
  · exact pick_of tb ao n cap p k zs w h hp h2 hk3
  · refine (pick_small tb k w (by omega)).mono ?_
    rintro e w' ⟨rfl, rfl⟩
    exact ⟨0, p, rfl, by omega, by omega, h, by omega, World.grownBy.refl _ _⟩

end Go.Proofs.Ytkefpjbdkhifhaa

namespace Go.Proofs.Ytkefpjbdkhifhaa
open Go.RowKit

set_option maxHeartbeats 800000 in
theorem odd_of (tb : Nat) (ao : Option Addr) (n cap p : Nat) (zs : List Int) (w : World) (h : Cur w tb ao n cap zs p) (hp : p ≤ 1000000000) :
    Calls Try.prog 80 #[.pointer (some ⟨tb, 0, none⟩)] w fun e w' => ∃ (y : Int) (p' : Nat), e = .returned (.int .i64 y) ∧ Cur w' tb ao n cap zs p' ∧ p' ≤ p + 2 ∧ w.grownBy w' (some tb) := by
  have H := hide h
  have htb := h.lt
  clear h
  go_enter Try.func80, Try.ntmps80
  go_wp2_with fail
  obtain ⟨cs, hcs, hlen⟩ : ∃ cs : List Int, (#[.int .i64 (-1), .int .i64 0, .int .i64 1, .int .i64 2, .int .i64 255, .int .i64 256, .int .i64 65535, .int .i64 9223372036854775807, .int .i64 (-9223372036854775808), .int .i64 17, .int .i64 8, .int .i64 12] : Array Value) = (cs.map (Value.int .i64)).toArray ∧ cs.length = 12 :=
    ⟨[-1, 0, 1, 2, 255, 256, 65535, 9223372036854775807, -9223372036854775808, 17, 8, 12], rfl, rfl⟩
  rw [hcs]
  clear hcs
  have hc1 := (unhide H).grown (World.grownBy_alloc w (.cells (cs.map (Value.int .i64)).toArray 3) none)
  refine (pick_of tb ao n cap p 12 zs _ hc1 (by omega) (by omega) (by omega)).mono ?_
  rintro e w1 ⟨x, p', rfl, hx0, hx1, hc, hp', hg⟩
  obtain ⟨i, rfl⟩ := Int.eq_ofNat_of_zero_le hx0
  have hblk : w1.heap[w.heap.size]? = some (.cells (cs.map (Value.int .i64)).toArray 3 (0, 0)) :=
    (hg.block w.heap.size (by simp) (by simp; omega)).trans (heap_alloc_new w _)
  have hcell : w1.cell? ⟨w.heap.size, i, none⟩ = some (.int .i64 (cs.getD i 0)) := by
    rw [cell_of_row w1 _ i _ _ (0, 0) hblk]
    simp [show i < cs.length by omega]
  have G := grown_trans (World.grownBy_alloc w (.cells (cs.map (Value.int .i64)).toArray 3) (some tb)) hg
  generalize cs.getD i 0 = y at hcell
  clear hblk hc1 hx0 hlen
  go_wp2
  go_ret
  exact ⟨y, p', rfl, hc, hp', G⟩

end Go.Proofs.Ytkefpjbdkhifhaa

namespace Go.Proofs.Ytkefpjbdkhifhaa
open Go.RowKit

theorem info_i9 : (Try.prog.info? 3).map (fun i => (i.zero, i.size, i.bytes)) = some (some (.int .i64 0), 1, 8) := by kernel_rfl

theorem rd_newsI {w : World} {x : Addr} {m : Nat} {zs : List Int} (h : Rd .i64 w (some x) m zs) : ∀ j u, (zs.map (Value.int .i64))[j]? = some u → w.cell? (x.add j) = some u := by
  intro j u hj
  have hl := h.1
  have hjl : j < m := by
    have := (List.getElem?_eq_some_iff.1 hj).1
    simp at this; omega
  obtain ⟨b, off, e, hc⟩ := h.2 j hjl
  simp only [Option.some.injEq] at e
  subst e
  rw [Addr.add_lit, hc]
  rw [List.getElem?_map] at hj
  have hj2 : j < zs.length := by omega
  simp [hj2] at hj ⊢
  exact hj

theorem append_rdI {w : World} {ops : Array Oper} {rest : List Oper} {o : Oper} {a : Act} {Q : Exit → Act → World → Prop} (hgd : o.guard = none) (s x : Operand)
    (ho : o.op = .call { callee := .builtin .append, args := #[s, x], argTypes := #[24, 24] })
    (base : Nat) (v : Value) (xs : List Int) (hs : a.eval s = v) (hown : w.ownsRow base 3 1 v xs.length (xs.map (Value.int .i64)))
    (ad : Addr) (m c : Nat) (zs : List Int) (hx : a.eval x = .slice (some ad) m c) (hr : Rd .i64 w (some ad) m zs)
    (hb : xs.length + m ≤ 1000000) (hbase : base ≤ w.heap.size) (R : List Int) (hR : xs ++ zs = R)
    (h : ∀ v' w', w'.ownsRow base 3 1 v' R.length (R.map (Value.int .i64)) → w.grownBy w' v.ownBlock → wpList Try.prog ops Q rest (a.put o.dst v') w') :
    wpList Try.prog ops Q (o :: rest) a w := by
  subst hR
  obtain ⟨i0, hi, hz0, hz1, hz2⟩ := info_parts info_i9
  refine wpList_append_own _ hgd s x 24 ho base 3 i0 (.int .i64 0) 1 8 Try.underlying24 hi hz0 hz1 hz2 rfl (by decide) v xs.length _ hs hown ad m c (zs.map (Value.int .i64)) hx (by simp [hr.1]) (rd_newsI hr) ?_ (by unfold maxLen; omega) (by omega) hbase (fun v' w' h1 h2 _ => h v' w' (by rw [List.map_append, List.length_append, hr.1]; exact h1) h2)
  intro u hu
  obtain ⟨y, _, rfl⟩ := List.mem_map.1 hu
  rfl

end Go.Proofs.Ytkefpjbdkhifhaa

namespace Go.Proofs.Ytkefpjbdkhifhaa
open Go.RowKit

/-- A row that is being drawn: whose it is, where the drawer is, and what else has changed. -/
structure Dw (w : World) (tb : Nat) (ao : Option Addr) (n cap : Nat) (zs : List Int) (q : Nat) (W : World) (v : Value) (ys : List Int) : Prop where
  own : W.ownsRow w.heap.size 3 1 v ys.length (ys.map (Value.int .i64))
  cur : Cur W tb ao n cap zs q
  grown : w.grownBy W (some tb)

section
variable {w : World} {tb : Nat} {ao : Option Addr} {n cap : Nat} {zs : List Int} {q : Nat} {W : World} {v : Value} {ys : List Int}
theorem Dw.pick {W' : World} {q' : Nat} (h : Dw w tb ao n cap zs q W v ys) (ht : tb < w.heap.size) (hc : Cur W' tb ao n cap zs q') (hg : W.grownBy W' (some tb)) : Dw w tb ao n cap zs q' W' v ys :=
  ⟨own_beneath h.own hg (fun a b e1 e2 => by have := (h.own.lt a e1).1; simp at e2; omega), hc, grown_trans h.grown hg⟩
theorem Dw.new {W' : World} (h : Dw w tb ao n cap zs q W v ys) (hg : W.grownBy W' none) : Dw w tb ao n cap zs q W' v ys :=
  ⟨own_beneath h.own hg (fun a b _ e2 => by simp at e2), h.cur.grown hg, grown_trans h.grown (grown_any hg)⟩
theorem Dw.row {W' : World} {v' : Value} {ys' : List Int} (h : Dw w tb ao n cap zs q W v ys) (ht : tb < w.heap.size) (hcode : 0 < n → ∀ b off, ao = some ⟨b, off, none⟩ → b < w.heap.size) (hg : W.grownBy W' v.ownBlock) (ho : W'.ownsRow w.heap.size 3 1 v' ys'.length (ys'.map (Value.int .i64))) : Dw w tb ao n cap zs q W' v' ys' :=
  ⟨ho, h.cur.beside hg (fun g e => by have := (h.own.lt g e).1; exact ⟨by omega, fun h0 b off e2 => by have := hcode h0 b off e2; omega⟩),
   ⟨hg.os.trans h.grown.os, hg.tape.trans h.grown.tape, hg.output.trans h.grown.output, Nat.le_trans h.grown.size hg.size, fun k hk hr => (hg.block k (Nat.lt_of_lt_of_le hk h.grown.size) (by intro e; have := (h.own.lt k e.symm).1; omega)).trans (h.grown.block k hk hr)⟩⟩
end

/-- A row of none, behind what has been drawn. -/
theorem Dw.nil {w : World} {tb : Nat} {ao : Option Addr} {n cap : Nat} {zs : List Int} {q : Nat} {W : World} (hc : Cur W tb ao n cap zs q) (hg : w.grownBy W (some tb)) : Dw w tb ao n cap zs q (W.alloc (.cells #[] 3)) (.slice (some ⟨W.heap.size, 0, none⟩) 0 0) [] :=
  ⟨own_base (World.ownsRow_lit W #[] 0 (Nat.le_refl _) (by unfold maxLen; omega) rfl) hg.size, hc.grown (World.grownBy_alloc _ _ _), grown_trans hg (World.grownBy_alloc _ _ _)⟩

theorem append_dw {w : World} {ops : Array Oper} {rest : List Oper} {o : Oper} {a : Act} {Q : Exit → Act → World → Prop} (hgd : o.guard = none) (s x : Operand)
    (ho : o.op = .call { callee := .builtin .append, args := #[s, x], argTypes := #[24, 24] })
    (B : World) (tb : Nat) (ao : Option Addr) (n cap : Nat) (zs : List Int) (q : Nat) (v : Value) (X : List Int) (hs : a.eval s = v) (hd : Dw B tb ao n cap zs q w v X) (p : Int) (hx : a.eval x = .slice (some ⟨w.heap.size, 0, none⟩) 1 1)
    (hb : X.length ≤ 1000000) (ht : tb < B.heap.size) (hcode : 0 < n → ∀ b off, ao = some ⟨b, off, none⟩ → b < B.heap.size) (R : List Int) (hR : X ++ [p] = R)
    (h : ∀ v' w', Dw B tb ao n cap zs q w' v' R → wpList Try.prog ops Q rest (a.put o.dst v') w') :
    wpList Try.prog ops Q (o :: rest) a (w.alloc (.cells #[.int .i64 p] 3)) := by
  subst hR
  obtain ⟨i0, hi, hz0, hz1, hz2⟩ := info_parts info_i9
  have hd2 := hd.new (World.grownBy_alloc w (.cells #[.int .i64 p] 3) none)
  refine wpList_append_own _ hgd s x 24 ho B.heap.size 3 i0 _ 1 8 Try.underlying24 hi hz0 hz1 hz2 rfl (by decide) v X.length _ hs hd2.own ⟨w.heap.size, 0, none⟩ 1 1 [.int .i64 p] hx rfl (World.news_of_block (cs := #[.int .i64 p]) (t := 3) (fr := (0, 0)) (heap_alloc_new w _)) (by intro u hu; simp at hu; subst hu; rfl) (by unfold maxLen; omega) (by omega) (by have := hd.grown.size; simp; omega) ?_
  intro v' w' h1 h2 _
  refine h v' w' (hd2.row ht hcode h2 ?_)
  rw [List.map_append, List.length_append]
  exact h1

end Go.Proofs.Ytkefpjbdkhifhaa

namespace Go.Proofs.Ytkefpjbdkhifhaa
open Go.RowKit

def six16 (a b c d e f : Int) (i : Nat) : Int := [a, b, c, d, e, f].getD i 0
theorem six16_at (t : TypeId) {W : World} {i : Nat} (hi : i < 6) (a b c d e f : Int) : (W.alloc (.cells #[.int .i64 a, .int .i64 b, .int .i64 c, .int .i64 d, .int .i64 e, .int .i64 f] t)).cell? ⟨W.heap.size, i, none⟩ = some (.int .i64 (six16 a b c d e f i)) := by
  rw [cell_of_row _ _ i _ _ (0, 0) (heap_alloc_new W _)]
  rcases i with _ | _ | _ | _ | _ | _ | i <;> first | rfl | omega
def four16 (a b c d : Int) (i : Nat) : Int := [a, b, c, d].getD i 0
theorem four16_at (t : TypeId) {W : World} {i : Nat} (hi : i < 4) (a b c d : Int) : (W.alloc (.cells #[.int .i64 a, .int .i64 b, .int .i64 c, .int .i64 d] t)).cell? ⟨W.heap.size, i, none⟩ = some (.int .i64 (four16 a b c d i)) := by
  rw [cell_of_row _ _ i _ _ (0, 0) (heap_alloc_new W _)]
  rcases i with _ | _ | _ | _ | i <;> first | rfl | omega

section
variable {w : World} {tb : Nat} {ao : Option Addr} {n cap : Nat} {zs : List Int} {q : Nat} {W : World} {ys : List Int} {g c k : Nat}
theorem Dw.at16 {m : Nat} (h : Dw w tb ao n cap zs q W (.slice (some ⟨g, 0, none⟩) m c) ys) (hm : ys.length = m) (hk : k < m) : (∃ v, W.cell? ⟨g, k, none⟩ = some v) ∧ W.frozen? ⟨g, k, none⟩ = false := by
  have h1 := h.own
  rw [hm] at h1
  exact ⟨by rw [h1.cellAt k (by omega)]; exact ⟨_, List.getElem?_eq_getElem (by rw [h1.1]; omega)⟩, h1.frozenAt k⟩
theorem Dw.put16 {m : Nat} (h : Dw w tb ao n cap zs q W (.slice (some ⟨g, 0, none⟩) m c) ys) (ht : tb < w.heap.size) (hcode : 0 < n → ∀ b off, ao = some ⟨b, off, none⟩ → b < w.heap.size) (hm : ys.length = m) (k : Nat) (u : Int) : Dw w tb ao n cap zs q (W.setCell ⟨g, k, none⟩ (.int .i64 u)) (.slice (some ⟨g, 0, none⟩) m c) (ys.set k u) := by
  have h1 := h.own
  rw [hm] at h1
  have st := h1.stored k (.int .i64 u)
  refine h.row ht hcode st.2 ?_
  rw [List.length_set, List.map_set, hm]
  exact st.1
end

set_option maxRecDepth 20000 in
set_option maxHeartbeats 3200000 in
theorem drawPlane16 (tb : Nat) (ao : Option Addr) (n cap p : Nat) (zs : List Int) (wN hN : Nat) (k : Int) (w : World) (h : Cur w tb ao n cap zs p) (hp : p ≤ 800000) (hcode : 0 < n → ∀ b off, ao = some ⟨b, off, none⟩ → b < w.heap.size) (hw : 1 ≤ wN ∧ wN ≤ 32) (hh : 1 ≤ hN ∧ hN ≤ 32) (hk : 2 ≤ k ∧ k ≤ 1000) :
    Calls Try.prog 53 #[.pointer (some ⟨tb, 0, none⟩), .int .i64 (wN : Int), .int .i64 (hN : Int), .int .i64 k] w fun e w' => ∃ (v : Value) (ys : List Int) (q : Nat), e = .returned v ∧ ys.length ≤ 2000 ∧ q ≤ p + 7000 ∧ Dw w tb ao n cap zs q w' v ys := by
  have hlt := h.lt
  have HAL := hide hcode
  have HD0 := hide (Dw.nil (w := w) h (World.grownBy.refl _ _))
  obtain ⟨N, HN⟩ : ∃ N : Nat, Hid (wN * hN = N) := ⟨_, rfl⟩
  have hN1 : 1 ≤ N ∧ N ≤ 1024 := by rw [← unhide HN]; exact ⟨Nat.mul_le_mul hw.1 hh.1, Nat.mul_le_mul hw.2 hh.2⟩
  have k1 : IntKind.i64.wrap ((wN : Int) * (hN : Int)) = (N : Int) := by
    have e : (wN : Int) * (hN : Int) = (N : Int) := by have := unhide HN; exact_mod_cast this
    rw [e, i64_in _ (by omega)]
  clear h hcode
  go_enter Try.func53, Try.ntmps53
  go_wp2_with fail
  refine (pick_of tb ao n cap p 256 zs _ (unhide HD0).cur (by omega) (by omega) (by omega)).mono ?_
  rintro e w1 ⟨x, q1, rfl, hx0, hx1, c1, hq1, g1⟩
  have HD1 := hide ((unhide HD0).pick hlt c1 g1)
  have e0 : IntKind.i64.wrap (x.tdiv 2) = x / 2 := by rw [Int.tdiv_eq_ediv_of_nonneg hx0, i64_in _ (by omega)]
  have e0' : x.tdiv 2 = x / 2 := Int.tdiv_eq_ediv_of_nonneg hx0
  have e0'' := i64_in (x / 2) (by omega)
  clear c1 g1 HD0 e0
  go_wp2
  go_loopw [9, 11] (fun v i wr => ∃ (j q : Nat) (Y : List Int), i = .int .i64 j ∧ j ≤ N ∧ Hid (Y.length = j) ∧ q ≤ p + 2 + 6 * j ∧ Hid (Dw w tb ao n cap zs q wr v Y)) (fun _ i _ => N - (intOf i).toNat)
  case atStart => exact ⟨0, q1, [], by go_num, by omega, rfl, by omega, HD1⟩
  case round =>
    clear HD1
    obtain ⟨j, q, Y, rfl, hj, HY, hq, hD⟩ := hrel
    obtain ⟨so, sc, rfl⟩ := own_form (unhide hD).own
    by_cases hj0 : j < N
    · have hjI : (j : Int) < (N : Int) := by omega
      have e2 := i64_in ((j : Int) + 1) (by omega)
      go_wp2_with fail
      refine (pick_of tb ao n cap q 256 zs wr (unhide hD).cur (by omega) (by omega) (by omega)).mono ?_
      rintro e w2 ⟨y2, q2, rfl, hy20, hy21, c2, hq2, g2⟩
      have HD2 := hide ((unhide hD).pick hlt c2 g2)
      clear c2 g2 hD
      go_wp2_with fail
      refine (pick_of tb ao n cap q2 4096 zs w2 (unhide HD2).cur (by omega) (by omega) (by omega)).mono ?_
      rintro e w3 ⟨y3, q3, rfl, hy30, hy31, c3, hq3, g3⟩
      have HD3 := hide ((unhide HD2).pick hlt c3 g3)
      clear c3 g3 HD2
      have HD4 := hide ((unhide HD3).new (World.grownBy_alloc w3 (.cells #[.int .i64 x, .int .i64 y2, .int .i64 (x / 2), .int .i64 y3] 3) none))
      go_wp2_with fail
      refine (pick_of tb ao n cap q3 4 zs _ (unhide HD4).cur (by omega) (by omega) (by omega)).mono ?_
      rintro e w5 ⟨y5, q5, rfl, hy50, hy51, c5, hq5, g5⟩
      obtain ⟨i, rfl⟩ := Int.eq_ofNat_of_zero_le hy50
      have hs3 := (unhide HD3).cur.lt
      have hu := g5.cell (four16_at 3 (W := w3) (i := i) (by omega) x y2 (x / 2) y3) (by simp; omega)
      generalize four16 x y2 (x / 2) y3 i = u at hu
      have HD5 := hide ((unhide HD4).pick hlt c5 g5)
      have hiI : (i : Int) < 4 := by omega
      obtain ⟨R, HR⟩ : ∃ R, Hid (Y ++ [u] = R) := ⟨_, rfl⟩
      have HRL : Hid (R.length = j + 1) := by unfold Hid; rw [← unhide HR, List.length_append, unhide HY]; rfl
      have HYB : Hid (Y.length ≤ 1000000) := by unfold Hid; rw [unhide HY]; omega
      clear c5 g5 HD3 HD4 hy50
      go_wp2_with (at_builtin; refine append_dw rfl _ _ rfl w tb ao n cap zs q5 (.slice so Y.length sc) Y rfl (unhide HD5) u rfl (unhide HYB) hlt (unhide HAL) R (unhide HR) ?_)
      intro v6 w6 d6
      obtain ⟨so6, sc6, rfl⟩ := own_form d6.own
      have HD6 := hide d6
      clear d6 HD5 hu
      go_wp2
      go_roundw
      case rel => exact ⟨j + 1, q5, R, by go_num, by omega, HRL, by omega, HD6⟩
      case measure => simp [intOf]; omega
    · obtain rfl : j = N := by omega
      have hd : decide ((j : Int) < (j : Int)) = false := decide_eq_false (by omega)
      go_wp2_with fail
      refine (once_of tb ao n cap q k zs wr (unhide hD).cur (by omega) hk.1 (by omega)).mono ?_
      rintro e w2 ⟨t, q2, rfl, c2, hq2, g2⟩
      have HD2 := hide ((unhide hD).pick hlt c2 g2)
      have HYL : Hid (Y.length ≤ 2000) := by unfold Hid; rw [unhide HY]; omega
      clear c2 g2 hD
      cases t with
      | false =>
        go_wp2
        go_ret
        exact ⟨_, Y, q2, rfl, unhide HYL, by omega, unhide HD2⟩
      | true =>
        go_wp2_with fail
        refine (pick_of tb ao n cap q2 2 zs w2 (unhide HD2).cur (by omega) (by omega) (by omega)).mono ?_
        rintro e w3 ⟨y3, q3, rfl, hy30, hy31, c3, hq3, g3⟩
        have HD3 := hide ((unhide HD2).pick hlt c3 g3)
        clear c3 g3 HD2
        rcases (show y3 = 0 ∨ y3 = 1 by omega) with rfl | rfl
        · obtain ⟨g, rfl, hg1, hg2⟩ := own_at (unhide HD3).own (by rw [unhide HY]; omega)
          obtain ⟨yl, HYY⟩ : ∃ l, Hid (Y.length = l) := ⟨_, rfl⟩
          have hyl : 1 ≤ yl ∧ yl ≤ 1024 := by have := unhide HY; have := unhide HYY; omega
          rw [unhide HYY] at HD3
          go_wp2_with fail
          refine (pick_any tb ao n cap q3 (Y.length : Int) zs w3 (unhide HD3).cur (by omega) (by have := unhide HYY; omega) (by have := unhide HYY; omega)).mono ?_
          rintro e w4 ⟨y4, q4, rfl, hy40, hy41, c4, hq4, g4⟩
          obtain ⟨ki, rfl⟩ := Int.eq_ofNat_of_zero_le hy40
          rw [unhide HYY] at hy41
          have HD4 := hide ((unhide HD3).pick hlt c4 g4)
          clear c4 g4 HD3
          go_wp2_with fail
          refine (odd_of tb ao n cap q4 zs w4 (unhide HD4).cur (by omega)).mono ?_
          rintro e w5 ⟨y5, q5, rfl, c5, hq5, g5⟩
          have HD5 := hide ((unhide HD4).pick hlt c5 g5)
          clear c5 g5 HD4
          have HD6 := hide ((unhide HD5).new (World.grownBy_alloc w5 (.cells #[.int .i64 (-1), .int .i64 4095, .int .i64 4096, .int .i64 y5] 3) none))
          go_wp2_with fail
          refine (pick_of tb ao n cap q5 4 zs _ (unhide HD6).cur (by omega) (by omega) (by omega)).mono ?_
          rintro e w7 ⟨y7, q7, rfl, hy70, hy71, c7, hq7, g7⟩
          obtain ⟨i, rfl⟩ := Int.eq_ofNat_of_zero_le hy70
          have hs3 := (unhide HD5).cur.lt
          have hu := g7.cell (four16_at 3 (W := w5) (i := i) (by omega) (-1) 4095 4096 y5) (by simp; omega)
          generalize four16 (-1) 4095 4096 y5 i = u at hu
          have HD7 := hide ((unhide HD6).pick hlt c7 g7)
          have hiI : (i : Int) < 4 := by omega
          have hat := (unhide HD7).at16 (k := ki) (unhide HYY) (by omega)
          obtain ⟨⟨ov, hov⟩, hfz⟩ := hat
          have HD8 := hide ((unhide HD7).put16 hlt (unhide HAL) (unhide HYY) ki u)
          have hkI : (ki : Int) < (yl : Int) := by omega
          have HSL : Hid ((Y.set ki u).length ≤ 2000) := by unfold Hid; rw [List.length_set]; exact unhide HYL
          clear c7 g7 HD5 HD6 HD7 hy70 hy40
          rw [unhide HYY]
          go_wp2
          go_ret
          exact ⟨_, Y.set ki u, q7, rfl, unhide HSL, by omega, unhide HD8⟩
        · obtain ⟨R, HR⟩ : ∃ R : List Int, Hid (Y ++ [(1 : Int)] = R) := ⟨_, hide rfl⟩
          have HRL : Hid (R.length ≤ 2000) := by unfold Hid; rw [← unhide HR, List.length_append, unhide HY]; simp; omega
          have HYB : Hid (Y.length ≤ 1000000) := by unfold Hid; rw [unhide HY]; omega
          go_wp2_with (at_builtin; refine append_dw rfl _ _ rfl w tb ao n cap zs q3 (.slice so Y.length sc) Y rfl (unhide HD3) 1 rfl (unhide HYB) hlt (unhide HAL) R (unhide HR) ?_)
          intro v6 w6 d6
          obtain ⟨so6, sc6, rfl⟩ := own_form d6.own
          have HD6 := hide d6
          clear d6 HD3
          go_wp2
          go_ret
          exact ⟨_, R, q3, rfl, unhide HRL, by omega, unhide HD6⟩

set_option maxRecDepth 20000 in
set_option maxHeartbeats 1600000 in
theorem drawSide16 (tb : Nat) (ao : Option Addr) (n cap p : Nat) (zs : List Int) (wN up : Nat) (w : World) (h : Cur w tb ao n cap zs p) (hp : p ≤ 900000) (hw : 1 ≤ wN ∧ wN ≤ 32) (hu : up = 0 ∨ (2 ≤ up ∧ up ≤ 100)) :
    Calls Try.prog 70 #[.pointer (some ⟨tb, 0, none⟩), .int .i64 (wN : Int), .int .i64 (up : Int)] w fun e w' => ∃ (x : Int) (q : Nat), e = .returned (.int .i64 x) ∧ Cur w' tb ao n cap zs q ∧ q ≤ p + 10 ∧ w.grownBy w' (some tb) := by
  have HC := hide h
  have hlt := h.lt
  clear h
  go_enter Try.func70, Try.ntmps70
  go_wp2_with fail
  refine (pick_any tb ao n cap p (wN : Int) zs w (unhide HC) (by omega) (by omega) (by omega)).mono ?_
  rintro e w1 ⟨x, q1, rfl, hx0, hx1, c1, hq1, g1⟩
  have HC1 := hide c1
  have HG1 := hide g1
  have e0 := i64_in (1 + x) (by omega)
  clear c1 g1 HC
  rcases hu with rfl | hu
  · have hd : decide ((0 : Int) < ((0 : Nat) : Int)) = false := by decide
    go_wp2_with fail
    refine (once_of tb ao n cap q1 20 zs w1 (unhide HC1) (by omega) (by omega) (by omega)).mono ?_
    rintro e w3 ⟨t, q3, rfl, c3, hq3, g3⟩
    have HC3 := hide c3
    have HG3 := hide (grown_trans (unhide HG1) g3)
    clear c3 g3 HC1 HG1
    cases t with
    | false =>
      go_wp2
      go_ret
      exact ⟨_, q3, rfl, unhide HC3, by omega, unhide HG3⟩
    | true =>
      have f1 := i64_in ((wN : Int) + 1) (by omega)
      have f2 := i64_in ((wN : Int) - 1) (by omega)
      go_wp2_with fail
      refine (odd_of tb ao n cap q3 zs w3 (unhide HC3) (by omega)).mono ?_
      rintro e w5 ⟨y5, q5, rfl, c5, hq5, g5⟩
      have HC5 := hide (c5.grown (World.grownBy_alloc w5 (.cells #[.int .i64 0, .int .i64 (-1), .int .i64 ((wN : Int) + 1), .int .i64 ((wN : Int) - 1), .int .i64 1024, .int .i64 y5] 3) none))
      have HG5 := hide (grown_trans (unhide HG3) (grown_trans g5 (grown_any (World.grownBy_alloc w5 (.cells #[.int .i64 0, .int .i64 (-1), .int .i64 ((wN : Int) + 1), .int .i64 ((wN : Int) - 1), .int .i64 1024, .int .i64 y5] 3) none))))
      have hs5 := c5.lt
      clear c5 g5 HC3 HG3
      go_wp2_with fail
      refine (pick_of tb ao n cap q5 6 zs _ (unhide HC5) (by omega) (by omega) (by omega)).mono ?_
      rintro e w7 ⟨y7, q7, rfl, hy70, hy71, c7, hq7, g7⟩
      obtain ⟨i, rfl⟩ := Int.eq_ofNat_of_zero_le hy70
      have hu6 := g7.cell (six16_at 3 (W := w5) (i := i) (by omega) 0 (-1) ((wN : Int) + 1) ((wN : Int) - 1) 1024 y5) (by simp; omega)
      generalize six16 0 (-1) ((wN : Int) + 1) ((wN : Int) - 1) 1024 y5 i = u at hu6
      have HC7 := hide c7
      have HG7 := hide (grown_trans (unhide HG5) g7)
      have hiI : (i : Int) < 6 := by omega
      clear c7 g7 HC5 HG5 hy70
      go_wp2
      go_ret
      exact ⟨_, q7, rfl, unhide HC7, by omega, unhide HG7⟩
  · have hd : decide ((0 : Int) < (up : Int)) = true := by simp; omega
    go_wp2_with fail
    refine (pick_of tb ao n cap q1 (up : Int) zs w1 (unhide HC1) (by omega) (by omega) (by omega)).mono ?_
    rintro e w4 ⟨x4, q4, rfl, hx40, hx41, c4, hq4, g4⟩
    have HC4 := hide c4
    have HG4 := hide (grown_trans (unhide HG1) g4)
    have e4 := i64_in ((wN : Int) + x4) (by omega)
    clear c4 g4 HC1 HG1
    go_wp2_with fail
    refine (once_of tb ao n cap q4 20 zs w4 (unhide HC4) (by omega) (by omega) (by omega)).mono ?_
    rintro e w3 ⟨t, q3, rfl, c3, hq3, g3⟩
    have HC3 := hide c3
    have HG3 := hide (grown_trans (unhide HG4) g3)
    clear c3 g3 HC4 HG4
    cases t with
    | false =>
      go_wp2
      go_ret
      exact ⟨_, q3, rfl, unhide HC3, by omega, unhide HG3⟩
    | true =>
      have f1 := i64_in ((wN : Int) + 1) (by omega)
      have f2 := i64_in ((wN : Int) - 1) (by omega)
      go_wp2_with fail
      refine (odd_of tb ao n cap q3 zs w3 (unhide HC3) (by omega)).mono ?_
      rintro e w5 ⟨y5, q5, rfl, c5, hq5, g5⟩
      have HC5 := hide (c5.grown (World.grownBy_alloc w5 (.cells #[.int .i64 0, .int .i64 (-1), .int .i64 ((wN : Int) + 1), .int .i64 ((wN : Int) - 1), .int .i64 1024, .int .i64 y5] 3) none))
      have HG5 := hide (grown_trans (unhide HG3) (grown_trans g5 (grown_any (World.grownBy_alloc w5 (.cells #[.int .i64 0, .int .i64 (-1), .int .i64 ((wN : Int) + 1), .int .i64 ((wN : Int) - 1), .int .i64 1024, .int .i64 y5] 3) none))))
      have hs5 := c5.lt
      clear c5 g5 HC3 HG3
      go_wp2_with fail
      refine (pick_of tb ao n cap q5 6 zs _ (unhide HC5) (by omega) (by omega) (by omega)).mono ?_
      rintro e w7 ⟨y7, q7, rfl, hy70, hy71, c7, hq7, g7⟩
      obtain ⟨i, rfl⟩ := Int.eq_ofNat_of_zero_le hy70
      have hu6 := g7.cell (six16_at 3 (W := w5) (i := i) (by omega) 0 (-1) ((wN : Int) + 1) ((wN : Int) - 1) 1024 y5) (by simp; omega)
      generalize six16 0 (-1) ((wN : Int) + 1) ((wN : Int) - 1) 1024 y5 i = u at hu6
      have HC7 := hide c7
      have HG7 := hide (grown_trans (unhide HG5) g7)
      have hiI : (i : Int) < 6 := by omega
      clear c7 g7 HC5 HG5 hy70
      go_wp2
      go_ret
      exact ⟨_, q7, rfl, unhide HC7, by omega, unhide HG7⟩

end Go.Proofs.Ytkefpjbdkhifhaa

namespace Go.Proofs.Ytkefpjbdkhifhaa
open Go.RowKit

set_option maxRecDepth 20000 in
set_option maxHeartbeats 1600000 in
theorem draw16 (tb : Nat) (ao : Option Addr) (n cap p : Nat) (zs : List Int) (up : Nat) (w : World) (h : Cur w tb ao n cap zs p) (hp : p ≤ 1000) (hcode : 0 < n → ∀ b off, ao = some ⟨b, off, none⟩ → b < w.heap.size) (hu : up = 0 ∨ (2 ≤ up ∧ up ≤ 100)) :
    Calls Try.prog 43 #[.pointer (some ⟨tb, 0, none⟩), .int .i64 (up : Int)] w fun e w' => ∃ (so : Option Addr) (sc : Nat) (ys : List Int) (wN hN : Nat) (nw nh : Int) (q : Nat), e = .returned (.tuple #[.slice so ys.length sc, .int .i64 (wN : Int), .int .i64 (hN : Int), .int .i64 nw, .int .i64 nh]) ∧ ys.length ≤ 2000 ∧ (1 ≤ wN ∧ wN ≤ 14) ∧ (1 ≤ hN ∧ hN ≤ 14) ∧ Dw w tb ao n cap zs q w' (.slice so ys.length sc) ys := by
  have hlt := h.lt
  have HC := hide h
  have HAL := hide hcode
  clear h hcode
  go_enter Try.func43, Try.ntmps43
  go_wp2_with fail
  refine (pick_of tb ao n cap p 14 zs w (unhide HC) (by omega) (by omega) (by omega)).mono ?_
  rintro e w1 ⟨x1, q1, rfl, hx10, hx11, c1, hq1, g1⟩
  obtain ⟨a, rfl⟩ := Int.eq_ofNat_of_zero_le hx10
  obtain ⟨wN, HWN⟩ : ∃ k : Nat, Hid (a + 1 = k) := ⟨_, rfl⟩
  have e1 : IntKind.i64.wrap (1 + (a : Int)) = (wN : Int) := by have := unhide HWN; rw [i64_in _ (by omega)]; omega
  have hwN : 1 ≤ wN ∧ wN ≤ 14 := by have := unhide HWN; omega
  have HC1 := hide c1
  have HG1 := hide g1
  clear c1 g1 HC hx10
  go_wp2_with fail
  refine (pick_of tb ao n cap q1 14 zs w1 (unhide HC1) (by omega) (by omega) (by omega)).mono ?_
  rintro e w2 ⟨x2, q2, rfl, hx20, hx21, c2, hq2, g2⟩
  obtain ⟨b, rfl⟩ := Int.eq_ofNat_of_zero_le hx20
  obtain ⟨hN, HHN⟩ : ∃ k : Nat, Hid (b + 1 = k) := ⟨_, rfl⟩
  have e2 : IntKind.i64.wrap (1 + (b : Int)) = (hN : Int) := by have := unhide HHN; rw [i64_in _ (by omega)]; omega
  have hhN : 1 ≤ hN ∧ hN ≤ 14 := by have := unhide HHN; omega
  have HC2 := hide c2
  have HG2 := hide (grown_trans (unhide HG1) g2)
  clear c2 g2 HC1 HG1 hx20
  go_wp2_with fail
  refine (drawPlane16 tb ao n cap q2 zs wN hN 14 w2 (unhide HC2) (by omega) (fun h0 b off e => Nat.lt_of_lt_of_le (unhide HAL h0 b off e) (unhide HG2).size) (by omega) (by omega) (by omega)).mono ?_
  rintro e w3 ⟨v3, ys, q3, rfl, hy3, hq3, d3⟩
  obtain ⟨so, sc, rfl⟩ := own_form d3.own
  have HD3 : Hid (Dw w tb ao n cap zs q3 w3 (.slice so ys.length sc) ys) := ⟨own_base d3.own (unhide HG2).size, d3.cur, grown_trans (unhide HG2) d3.grown⟩
  have HY3 := hide hy3
  clear d3 HC2 HG2 hy3
  go_wp2_with fail
  refine (drawSide16 tb ao n cap q3 zs wN up w3 (unhide HD3).cur (by omega) (by omega) hu).mono ?_
  rintro e w4 ⟨nw, q4, rfl, c4, hq4, g4⟩
  have HD4 := hide ((unhide HD3).pick hlt c4 g4)
  clear c4 g4 HD3
  go_wp2_with fail
  refine (drawSide16 tb ao n cap q4 zs hN up w4 (unhide HD4).cur (by omega) (by omega) hu).mono ?_
  rintro e w5 ⟨nh, q5, rfl, c5, hq5, g5⟩
  have HD5 := hide ((unhide HD4).pick hlt c5 g5)
  clear c5 g5 HD4
  go_wp2
  exact bodyPost_ret (v := .tuple #[.slice so ys.length sc, .int .i64 (wN : Int), .int .i64 (hN : Int), .int .i64 nw, .int .i64 nh]) (by simp [results, Try.results43, go_sem]) rfl ⟨so, sc, ys, wN, hN, nw, nh, q5, rfl, unhide HY3, hwN, hhN, unhide HD5⟩

set_option maxRecDepth 20000 in
set_option maxHeartbeats 1600000 in
theorem drawShrink16 (ao : Option Addr) (n cap : Nat) (zs : List Int) (w : World) (hr : Rd .u8 w ao n zs) (hb : ∀ i, 0 ≤ zs.getD i 0 ∧ zs.getD i 0 ≤ 255) (hn : n ≤ 1048576) :
    Calls Try.prog 13 #[.slice ao n cap] w fun e w' => ∃ (so : Option Addr) (sc : Nat) (ys : List Int) (wN hN : Nat) (nw nh : Int), e = .returned (.tuple #[.slice so ys.length sc, .int .i64 (wN : Int), .int .i64 (hN : Int), .int .i64 nw, .int .i64 nh]) ∧ ys.length ≤ 2000 ∧ (1 ≤ wN ∧ wN ≤ 14) ∧ (1 ≤ hN ∧ hN ≤ 14) ∧ Rd .i64 w' so ys.length ys ∧ w.grownBy w' none := by
  have hcl := hr.lt
  have HR := hide hr
  have HB := hide hb
  clear hr hb
  go_enter Try.func13, Try.ntmps13
  go_wp2_with fail
  refine (open_of ao n cap zs w (unhide HR) (unhide HB) hn).mono ?_
  rintro e w1 ⟨rfl, c1, g1⟩
  obtain ⟨tb, HTB⟩ : ∃ tb, Hid (w.heap.size = tb) := ⟨_, rfl⟩
  rw [unhide HTB] at c1 ⊢
  have HCO : Hid (0 < n → ∀ b off, ao = some ⟨b, off, none⟩ → b < w1.heap.size) := fun h0 b off e => Nat.lt_of_lt_of_le (hcl h0 b off e) g1.size
  have HC1 := hide c1
  have HG1 := hide g1
  clear c1 g1 hcl
  go_wp2_with fail
  refine (draw16 tb ao n cap 0 zs 0 w1 (unhide HC1) (by omega) (unhide HCO) (by omega)).mono ?_
  rintro e w2 ⟨so, sc, ys, wN, hN, nw, nh, q2, rfl, hy, hwN, hhN, d2⟩
  have HD2 := hide d2
  have HY := hide hy
  have HGF : Hid (w.grownBy w2 none) := grown_new (unhide HG1) d2.grown (fun g e => by simp at e; have := unhide HTB; omega)
  clear d2 hy HC1
  go_wp2
  exact bodyPost_ret (v := .tuple #[.slice so ys.length sc, .int .i64 (wN : Int), .int .i64 (hN : Int), .int .i64 nw, .int .i64 nh]) (by simp [results, Try.results13, go_sem]) rfl ⟨so, sc, ys, wN, hN, nw, nh, rfl, unhide HY, hwN, hhN, own_rd (unhide HD2).own, unhide HGF⟩

set_option maxRecDepth 20000 in
set_option maxHeartbeats 1600000 in
theorem drawPad16 (ao : Option Addr) (n cap : Nat) (zs : List Int) (w : World) (hr : Rd .u8 w ao n zs) (hb : ∀ i, 0 ≤ zs.getD i 0 ∧ zs.getD i 0 ≤ 255) (hn : n ≤ 1048576) :
    Calls Try.prog 26 #[.slice ao n cap] w fun e w' => ∃ (so : Option Addr) (sc : Nat) (ys : List Int) (wN hN : Nat) (nw nh : Int), e = .returned (.tuple #[.slice so ys.length sc, .int .i64 (wN : Int), .int .i64 (hN : Int), .int .i64 nw, .int .i64 nh]) ∧ ys.length ≤ 2000 ∧ (1 ≤ wN ∧ wN ≤ 14) ∧ (1 ≤ hN ∧ hN ≤ 14) ∧ Rd .i64 w' so ys.length ys ∧ w.grownBy w' none := by
  have hcl := hr.lt
  have HR := hide hr
  have HB := hide hb
  clear hr hb
  go_enter Try.func26, Try.ntmps26
  go_wp2_with fail
  refine (open_of ao n cap zs w (unhide HR) (unhide HB) hn).mono ?_
  rintro e w1 ⟨rfl, c1, g1⟩
  obtain ⟨tb, HTB⟩ : ∃ tb, Hid (w.heap.size = tb) := ⟨_, rfl⟩
  rw [unhide HTB] at c1 ⊢
  have HCO : Hid (0 < n → ∀ b off, ao = some ⟨b, off, none⟩ → b < w1.heap.size) := fun h0 b off e => Nat.lt_of_lt_of_le (hcl h0 b off e) g1.size
  have HC1 := hide c1
  have HG1 := hide g1
  clear c1 g1 hcl
  go_wp2_with fail
  refine (draw16 tb ao n cap 0 zs 20 w1 (unhide HC1) (by omega) (unhide HCO) (by omega)).mono ?_
  rintro e w2 ⟨so, sc, ys, wN, hN, nw, nh, q2, rfl, hy, hwN, hhN, d2⟩
  have HD2 := hide d2
  have HY := hide hy
  have HGF : Hid (w.grownBy w2 none) := grown_new (unhide HG1) d2.grown (fun g e => by simp at e; have := unhide HTB; omega)
  clear d2 hy HC1
  go_wp2
  exact bodyPost_ret (v := .tuple #[.slice so ys.length sc, .int .i64 (wN : Int), .int .i64 (hN : Int), .int .i64 nw, .int .i64 nh]) (by simp [results, Try.results26, go_sem]) rfl ⟨so, sc, ys, wN, hN, nw, nh, rfl, unhide HY, hwN, hhN, own_rd (unhide HD2).own, unhide HGF⟩

set_option maxRecDepth 20000 in
set_option maxHeartbeats 1600000 in
theorem drawCutBlocks (ao : Option Addr) (n cap : Nat) (zs : List Int) (w : World) (hr : Rd .u8 w ao n zs) (hb : ∀ i, 0 ≤ zs.getD i 0 ∧ zs.getD i 0 ≤ 255) (hn : n ≤ 1048576) :
    Calls Try.prog 21 #[.slice ao n cap] w fun e w' => ∃ (so : Option Addr) (sc : Nat) (ys : List Int) (wN hN : Nat), e = .returned (.tuple #[.slice so ys.length sc, .int .i64 (wN : Int), .int .i64 (hN : Int)]) ∧ ys.length ≤ 2000 ∧ (1 ≤ wN ∧ wN ≤ 24) ∧ (1 ≤ hN ∧ hN ≤ 24) ∧ Rd .i64 w' so ys.length ys ∧ w.grownBy w' none := by
  have hcl := hr.lt
  have HR := hide hr
  have HB := hide hb
  clear hr hb
  go_enter Try.func21, Try.ntmps21
  go_wp2_with fail
  refine (open_of ao n cap zs w (unhide HR) (unhide HB) hn).mono ?_
  rintro e w0 ⟨rfl, c0, g0⟩
  obtain ⟨tb, HTB⟩ : ∃ tb, Hid (w.heap.size = tb) := ⟨_, rfl⟩
  rw [unhide HTB] at c0 ⊢
  have hlt := c0.lt
  have HCO : Hid (0 < n → ∀ b off, ao = some ⟨b, off, none⟩ → b < w0.heap.size) := fun h0 b off e => Nat.lt_of_lt_of_le (hcl h0 b off e) g0.size
  have HC0 := hide c0
  have HG0 := hide g0
  clear c0 g0 hcl
  go_wp2_with fail
  refine (pick_of tb ao n cap 0 3 zs w0 (unhide HC0) (by omega) (by omega) (by omega)).mono ?_
  rintro e w1 ⟨x1, q1, rfl, hx10, hx11, c1, hq1, g1⟩
  obtain ⟨a, rfl⟩ := Int.eq_ofNat_of_zero_le hx10
  obtain ⟨wN, HWN⟩ : ∃ k : Nat, Hid (8 * (a + 1) = k) := ⟨_, rfl⟩
  have e0 := i64_in (1 + (a : Int)) (by omega)
  have e1 : IntKind.i64.wrap (8 * (1 + (a : Int))) = (wN : Int) := by have := unhide HWN; rw [i64_in _ (by omega)]; omega
  have hwN : 8 ≤ wN ∧ wN ≤ 24 := by have := unhide HWN; omega
  have HC1 := hide c1
  have HG1 := hide g1
  clear c1 g1 HC0 hx10
  go_wp2_with fail
  refine (pick_of tb ao n cap q1 3 zs w1 (unhide HC1) (by omega) (by omega) (by omega)).mono ?_
  rintro e w2 ⟨x2, q2, rfl, hx20, hx21, c2, hq2, g2⟩
  obtain ⟨b, rfl⟩ := Int.eq_ofNat_of_zero_le hx20
  obtain ⟨hN, HHN⟩ : ∃ k : Nat, Hid (8 * (b + 1) = k) := ⟨_, rfl⟩
  have e2 := i64_in (1 + (b : Int)) (by omega)
  have e3 : IntKind.i64.wrap (8 * (1 + (b : Int))) = (hN : Int) := by have := unhide HHN; rw [i64_in _ (by omega)]; omega
  have hhN : 8 ≤ hN ∧ hN ≤ 24 := by have := unhide HHN; omega
  have HC2 := hide c2
  have HG2 := hide (grown_trans (unhide HG1) g2)
  clear c2 g2 HC1 HG1 hx20
  go_wp2_with fail
  refine (drawPlane16 tb ao n cap q2 zs wN hN 10 w2 (unhide HC2) (by omega) (fun h0 b off e => Nat.lt_of_lt_of_le (unhide HCO h0 b off e) (unhide HG2).size) (by omega) (by omega) (by omega)).mono ?_
  rintro e w3 ⟨v3, ys, q3, rfl, hy3, hq3, d3⟩
  obtain ⟨so, sc, rfl⟩ := own_form d3.own
  have HD3 : Hid (Dw w0 tb ao n cap zs q3 w3 (.slice so ys.length sc) ys) := ⟨own_base d3.own (unhide HG2).size, d3.cur, grown_trans (unhide HG2) d3.grown⟩
  have HY3 := hide hy3
  clear d3 HC2 HG2 hy3
  go_wp2_with fail
  refine (once_of tb ao n cap q3 8 zs w3 (unhide HD3).cur (by omega) (by omega) (by omega)).mono ?_
  rintro e w4 ⟨t, q4, rfl, c4, hq4, g4⟩
  have HD4 := hide ((unhide HD3).pick hlt c4 g4)
  clear c4 g4 HD3
  cases t with
  | false =>
    have HGF : Hid (w.grownBy w4 none) := grown_new (unhide HG0) (unhide HD4).grown (fun g e => by simp at e; have := unhide HTB; omega)
    go_wp2
    exact bodyPost_ret (v := .tuple #[.slice so ys.length sc, .int .i64 (wN : Int), .int .i64 (hN : Int)]) (by simp [results, Try.results21, go_sem]) rfl ⟨so, sc, ys, wN, hN, rfl, unhide HY3, by omega, by omega, own_rd (unhide HD4).own, unhide HGF⟩
  | true =>
    obtain ⟨vN, HVN⟩ : ∃ k : Nat, Hid (wN - 1 = k) := ⟨_, rfl⟩
    have e4 : IntKind.i64.wrap ((wN : Int) - 1) = (vN : Int) := by have := unhide HVN; rw [i64_in _ (by omega)]; omega
    have hvN : 7 ≤ vN ∧ vN ≤ 23 := by have := unhide HVN; omega
    have HC4 := hide (unhide HD4).cur
    have HG4 := hide (unhide HD4).grown
    clear HD4
    go_wp2_with fail
    refine (drawPlane16 tb ao n cap q4 zs vN hN 10 w4 (unhide HC4) (by omega) (fun h0 b off e => Nat.lt_of_lt_of_le (unhide HCO h0 b off e) (unhide HG4).size) (by omega) (by omega) (by omega)).mono ?_
    rintro e w5 ⟨v5, y5, q5, rfl, hy5, hq5, d5⟩
    obtain ⟨so5, sc5, rfl⟩ := own_form d5.own
    have HD5 := hide d5
    have HY5 := hide hy5
    have HGF : Hid (w.grownBy w5 none) := grown_new (unhide HG0) (grown_trans (unhide HG4) d5.grown) (fun g e => by simp at e; have := unhide HTB; omega)
    clear d5 hy5
    go_wp2
    exact bodyPost_ret (v := .tuple #[.slice so5 y5.length sc5, .int .i64 (vN : Int), .int .i64 (hN : Int)]) (by simp [results, Try.results21, go_sem]) rfl ⟨so5, sc5, y5, vN, hN, rfl, unhide HY5, by omega, by omega, own_rd (unhide HD5).own, unhide HGF⟩

end Go.Proofs.Ytkefpjbdkhifhaa

namespace Go.Proofs.Ytkefpjbdkhifhaa
open Go.RowKit

theorem lawBig (ao : Option Addr) (n cap : Nat) (t : Bool) (w : World) (h : Hid (decide ((1048576 : Int) < (n : Int)) = t)) :
    Calls Try.prog 12 #[.slice ao n cap] w fun e w' => e = .returned (.bool t) ∧ w = w' := by
  go_enter Try.func12, Try.ntmps12
  go_wp2
  go_ret
  exact ⟨ret_bool (by rw [← unhide h]), rfl⟩

set_option maxHeartbeats 800000 in
theorem lawPick (ao : Option Addr) (n cap a : Nat) (k : Int) (zs : List Int) (w : World) (hr : Rd .u8 w ao n zs) (hb : ∀ i, 0 ≤ zs.getD i 0 ∧ zs.getD i 0 ≤ 255) (hn : n ≤ 1048576) (ha : a ≤ 1000000) (hk : 2 ≤ k) (hk3 : k ≤ 2147483648) :
    Calls Try.prog 18 #[.slice ao n cap, .int .i64 a, .int .i64 k] w fun e w' => (∃ x : Int, e = .returned (.int .i64 x) ∧ 0 ≤ x ∧ x < k) ∧ w = w' := by
  obtain ⟨hl, hc⟩ := hr
  by_cases hn0 : n = 0
  · subst hn0
    go_enter Try.func18, Try.ntmps18
    go_wp2
    go_ret
    exact ⟨⟨0, rfl, by omega, by omega⟩, rfl⟩
  · have h0 : ((n : Int) == 0) = false := by simp; omega
    have h2 : decide (k < 2) = false := by simp; omega
    go_enter Try.func18, Try.ntmps18
    go_wp2
    go_loop [7, 8] (fun v i => ∃ (x : Int) (j : Nat), j ≤ 3 ∧ i = .int .i64 j ∧ v = .int .i64 x ∧ 0 ≤ x ∧ x ≤ 253215 ∧ (j ≤ 2 → x ≤ 8160) ∧ (j ≤ 1 → x ≤ 255) ∧ (j ≤ 0 → x ≤ 0)) (fun _ i => 3 - (intOf i).toNat)
    case atStart => exact ⟨0, 0, by omega, rfl, rfl, by omega, by omega, by omega, by omega, by omega⟩
    case round =>
      obtain ⟨x, j, hj, rfl, rfl, hx0, hx1, hx2, hx3, hx4⟩ := hrel
      by_cases hlt : j < 3
      · have hm : (a + j) % n < n := Nat.mod_lt _ (by omega)
        obtain ⟨b, off, rfl, hcb⟩ := hc ((a + j) % n) hm
        have hbb := hb ((a + j) % n)
        generalize zs.getD ((a + j) % n) 0 = y at hcb hbb
        obtain ⟨hy0, hy1⟩ := hbb
        have hmi : (((a : Int) + (j : Int)) % (n : Int)) < (n : Int) := Int.emod_lt_of_pos _ (by omega)
        have hmi0 : 0 ≤ (((a : Int) + (j : Int)) % (n : Int)) := Int.emod_nonneg _ (by omega)
        have H2 := hide hx2
        have H3 := hide hx3
        have H4 := hide hx4
        have hx8 : x ≤ 8160 := hx2 (by omega)
        clear hc hb hx2 hx3 hx4
        go_wp2
        go_round
        case rel => exact ⟨31 * x + y, j + 1, by omega, by go_num, rfl, by omega, by omega, by have := unhide H3; omega, by have := unhide H4; omega, by omega⟩
        case measure => simp [intOf]; omega
      · go_wp2
        go_ret
        exact ⟨⟨(x + (a : Int)) % k, rfl, Int.emod_nonneg _ (by omega), Int.emod_lt_of_pos _ (by omega)⟩, rfl⟩

/-- What a new row of cells holds. -/
theorem cells_new (w : World) (cs : List Value) (t : TypeId) : ∀ j u, cs[j]? = some u → (w.alloc (.cells cs.toArray t)).cell? ((⟨w.heap.size, 0, none⟩ : Addr).add j) = some u := by
  intro j u h
  rw [Addr.add_lit, Nat.zero_add, cell_of_row _ w.heap.size j _ _ (0, 0) (heap_alloc_new w _)]
  simpa using h

end Go.Proofs.Ytkefpjbdkhifhaa

namespace Go.Proofs.Ytkefpjbdkhifhaa
open Go.RowKit

set_option maxHeartbeats 400000 in
theorem sameIntsQ (ao bo : Option Addr) (n cap cap' : Nat) (zs : List Int) (w : World) (hx : Rd .i64 w ao n zs) (hy : Rd .i64 w bo n zs) (hn : n ≤ 4194304) :
    Calls Try.prog 15 #[.slice ao n cap, .slice bo n cap'] w fun e w' => e = .returned (.bool true) ∧ ∃ q, w' = w.drewN q := by
  obtain ⟨hl, hc⟩ := hx
  obtain ⟨_, hd⟩ := hy
  have hne : ((n : Int) != n) = false := by simp
  go_enter Try.func15, Try.ntmps15
  go_wp2
  go_loopw [5] (fun i wr => ∃ k q : Nat, k ≤ n ∧ i = .int .i64 k ∧ wr = w.drewN q) (fun i _ => n - (intOf i).toNat)
  case atStart => exact ⟨0, 0, Nat.zero_le _, rfl, rfl⟩
  case round =>
    obtain ⟨k, q, hk, rfl, rfl⟩ := hrel
    by_cases hlt : k < n
    · obtain ⟨b, off, rfl, hcb⟩ := hc k hlt
      obtain ⟨b', off', rfl, hcd⟩ := hd k hlt
      generalize zs.getD k 0 = x at hcb hcd
      have hik : (k : Int) < (n : Int) := by omega
      clear hc hd
      go_wp2
      go_quiet (fail)
      go_wp2
      go_roundw
      case rel => exact ⟨k + 1, _, by omega, by go_num, rfl⟩
      case measure => simp [intOf]; omega
    · go_wp2
      go_ret
      exact ⟨rfl, _, rfl⟩
theorem sameInts (ao bo : Option Addr) (n cap cap' : Nat) (zs : List Int) (w : World) (hx : Rd .i64 w ao n zs) (hy : Rd .i64 w bo n zs) (hn : n ≤ 4194304) :
    Calls Try.prog 15 #[.slice ao n cap, .slice bo n cap'] w fun e w' => e = .returned (.bool true) ∧ w.grownBy w' none := by
  refine (sameIntsQ ao bo n cap cap' zs w hx hy hn).mono ?_
  rintro e w' ⟨rfl, q, rfl⟩
  exact ⟨rfl, grown_drewN (World.grownBy.refl _ _) _⟩

end Go.Proofs.Ytkefpjbdkhifhaa

namespace Go.Proofs.Ytkefpjbdkhifhaa
open Go.RowKit

set_option maxRecDepth 100000 in
set_option maxHeartbeats 6400000 in
theorem lawMeans (ao : Option Addr) (n cap : Nat) (zs : List Int) (w : World) (hr : Rd .u8 w ao n zs) (hb : ∀ i, 0 ≤ zs.getD i 0 ∧ zs.getD i 0 ≤ 255) :
    Calls Try.prog 3 #[.slice ao n cap] w fun e w' => e = .returned (.bool true) ∧ Below w.heap.size w w' := by
  have HR := hide hr
  have HB := hide hb
  clear hr hb
  obtain ⟨bg, HBG⟩ : ∃ t, Hid (decide ((1048576 : Int) < (n : Int)) = t) := ⟨_, rfl⟩
  go_enter Try.func3, Try.ntmps3
  go_wp2_with fail
  refine (lawBig ao n cap bg w HBG).mono ?_
  rintro e w ⟨rfl, rfl⟩
  cases bg with
  | true =>
    go_wp2
    go_ret
    exact ⟨rfl, Below.refl _ _⟩
  | false =>
  have hn : n ≤ 1048576 := by have := of_decide_eq_false (unhide HBG); omega
  go_wp2_with fail
  refine (drawShrink16 ao n cap zs w (unhide HR) (unhide HB) hn).mono ?_
  rintro e w1 ⟨so, sc, ys, wN, hN, nw, nh, rfl, hy, hwN, hhN, r1, g1⟩
  obtain ⟨yl, HYL⟩ : ∃ k, Hid (ys.length = k) := ⟨_, rfl⟩
  rw [unhide HYL] at r1 hy ⊢
  have RY := hide r1
  have G1 := hide g1
  clear r1 g1
  obtain ⟨X, HX⟩ : ∃ X, Hid (shrinkG ys (wN : Int) (hN : Int) nw nh = X) := ⟨_, rfl⟩
  have HXF : Hid (X.length ≤ 131072) := by rw [← unhide HX]; exact shrink_few _ _ _ _ _
  go_wp2_with fail
  refine (implShrink so yl sc ys (wN : Int) (hN : Int) nw nh w1 (unhide RY) (by omega) X HX).mono ?_
  rintro e w2 ⟨xo, xc, rfl, o2, g2⟩
  obtain ⟨xl, HXL⟩ : ∃ k, Hid (X.length = k) := ⟨_, rfl⟩
  have RX2 := own_rd o2
  rw [unhide HXL] at RX2 HXF ⊢
  have RX := hide RX2
  have hxl : xl ≤ 131072 := unhide HXF
  have G2 := hide (grown_trans (unhide G1) g2)
  have RY2 := hide ((unhide RY).grown g2)
  clear o2 g2 RX2
  go_wp2_with fail
  refine (specShrink so yl sc ys (wN : Int) (hN : Int) nw nh w2 (unhide RY2) (by omega) X HX).mono ?_
  rintro e w3 ⟨zo, zc, rfl, o3, g3⟩
  have RZ2 := own_rd o3
  rw [unhide HXL] at RZ2 ⊢
  have RZ := hide RZ2
  have G3 := hide (grown_trans (unhide G2) g3)
  have RX3 := hide ((unhide RX).grown g3)
  have RY3 := hide ((unhide RY2).grown g3)
  clear o3 g3 RZ2
  go_wp2_with fail
  refine (sameInts xo zo xl xc zc X w3 (unhide RX3) (unhide RZ) (by omega)).mono ?_
  rintro e w4 ⟨rfl, g4⟩
  have G4 := hide (grown_trans (unhide G3) g4)
  have RX4 := hide ((unhide RX3).grown g4)
  have RY4 := hide ((unhide RY3).grown g4)
  clear g4 RZ RX3 RY3 RX RY RY2
  obtain ⟨pb, HP⟩ : ∃ y, Hid (planeB ys (wN : Int) (hN : Int) = y) := ⟨_, rfl⟩
  go_wp2_with fail
  refine (specPlaneOk so yl sc ys (wN : Int) (hN : Int) w4 (unhide RY4) (by omega) pb HP).mono ?_
  rintro e w5 ⟨rfl, g5⟩
  have G5 := hide (grown_trans (unhide G4) g5)
  have RX5 := hide ((unhide RX4).grown g5)
  have RY5 := hide ((unhide RY4).grown g5)
  clear g5 RX4 RY4
  cases pb with
  | false =>
    obtain rfl : xl = 0 := by
      rw [← unhide HXL, ← unhide HX, shrinkG, unhide HP]
      rfl
    go_wp2
    go_ret
    exact ⟨rfl, grown_below (unhide G5)⟩
  | true =>
  have hpl := plane_of (unhide HP)
  have hyl : 1 ≤ yl := by
    have h1 := hpl.2.2.1
    rw [unhide HYL] at h1
    have h2 : 1 * 1 ≤ wN * hN := Nat.mul_le_mul hwN.1 hhN.1
    rw [← Int.natCast_mul] at h1
    omega
  clear hpl
  obtain ⟨bb, off, rfl, hc0⟩ := (unhide RY5).2 0 hyl
  have HCE : Hid (∀ W, w5.grownBy W none → ∀ i, i < yl → W.cell? ⟨bb, off + i, none⟩ = some (.int .i64 (ys.getD i 0))) := fun W gW i hi => by
    obtain ⟨b', o', e, hc⟩ := (unhide RY5).2 i hi
    simp only [Option.some.injEq, Addr.mk.injEq, and_true] at e
    rw [e.1, e.2]
    exact gW.cell hc (by simp)
  obtain ⟨y0, HY0⟩ : ∃ z, Hid (ys.getD 0 0 = z) := ⟨_, rfl⟩
  rw [unhide HY0] at hc0
  have i0 : (0 : Int) < (yl : Int) := by omega
  simp only [Nat.add_zero] at hc0
  go_wp2
  go_quiet (fail)
  go_wp2
  go_loopw [9, 10, 11] (fun l h i wr => ∃ (k : Nat) (lo hi : Int), k ≤ yl ∧ l = .int .i64 lo ∧ h = .int .i64 hi ∧ i = .int .i64 k ∧ Hid (∀ j, j < k → lo ≤ ys.getD j 0 ∧ ys.getD j 0 ≤ hi) ∧ Hid (w5.grownBy wr none)) (fun _ _ i _ => yl - (intOf i).toNat)
  case atStart => exact ⟨0, y0, y0, by omega, rfl, rfl, by go_num, fun j hj => absurd hj (by omega), grown_drewN (World.grownBy.refl _ _) _⟩
  case round =>
    obtain ⟨k, lo, hi, hk, rfl, rfl, rfl, HK, HG⟩ := hrel
    by_cases hlt : k < yl
    · have hkI : (k : Int) < (yl : Int) := by omega
      have hcell := unhide HCE wr (unhide HG) k hlt
      obtain ⟨z, HZ⟩ : ∃ z, Hid (ys.getD k 0 = z) := ⟨_, rfl⟩
      rw [unhide HZ] at hcell
      have e9 := i64_in ((k : Int) + 1) (by omega)
      have HST : Hid (∀ l h, l ≤ lo → hi ≤ h → l ≤ z → z ≤ h → ∀ j, j < k + 1 → l ≤ ys.getD j 0 ∧ ys.getD j 0 ≤ h) := fun l h h1 h2 h3 h4 j hj => by
        by_cases e : j = k
        · subst e; rw [unhide HZ]; exact ⟨h3, h4⟩
        · have := unhide HK j (by omega); omega
      by_cases c1 : z < lo
      · by_cases c2 : hi < z
        · go_wp2
          go_roundw
          case rel => exact ⟨k + 1, z, z, by omega, rfl, rfl, by go_num, unhide HST z z (by omega) (by omega) (by omega) (by omega), HG⟩
          case measure => simp [intOf]; omega
        · go_wp2
          go_roundw
          case rel => exact ⟨k + 1, z, hi, by omega, rfl, rfl, by go_num, unhide HST z hi (by omega) (by omega) (by omega) (by omega), HG⟩
          case measure => simp [intOf]; omega
      · by_cases c2 : hi < z
        · go_wp2
          go_roundw
          case rel => exact ⟨k + 1, lo, z, by omega, rfl, rfl, by go_num, unhide HST lo z (by omega) (by omega) (by omega) (by omega), HG⟩
          case measure => simp [intOf]; omega
        · go_wp2
          go_roundw
          case rel => exact ⟨k + 1, lo, hi, by omega, rfl, rfl, by go_num, unhide HST lo hi (by omega) (by omega) (by omega) (by omega), HG⟩
          case measure => simp [intOf]; omega
    · obtain rfl : yl = k := by omega
      have HIN : Hid (∀ j, j < xl → lo ≤ X.getD j 0 ∧ X.getD j 0 ≤ hi) := fun j hj => by
        have hv : ∀ v ∈ ys, lo ≤ v ∧ v ≤ hi := fun v hv => by
          obtain ⟨i, hi', rfl⟩ := List.getElem_of_mem hv
          have h := unhide HK i (by rw [← unhide HYL]; exact hi')
          have e : ys.getD i 0 = ys[i] := by simp [hi']
          rw [e] at h
          exact h
        have hx := shrinkG_in (w := (wN : Int)) (h := (hN : Int)) (nw := nw) (nh := nh) hv
        rw [unhide HX] at hx
        have hj2 : j < X.length := by rw [unhide HXL]; exact hj
        have e : X.getD j 0 = X[j] := by simp [hj2]
        rw [e]
        exact hx _ (List.getElem_mem hj2)
      clear HK HCE hc0 i0 hlt
      go_wp2
      go_loopw [12] (fun i wr => ∃ k : Nat, k ≤ xl ∧ i = .int .i64 k ∧ Hid (w5.grownBy wr none)) (fun i _ => xl - (intOf i).toNat)
      case atStart => exact ⟨0, by omega, by go_num, HG⟩
      case round =>
        obtain ⟨k, hk, rfl, HG⟩ := hrel
        by_cases hlt : k < xl
        · have hkI : (k : Int) < (xl : Int) := by omega
          obtain ⟨xb, xf, rfl, hc⟩ := (unhide RX5).2 k hlt
          have hcell := (unhide HG).cell hc (by simp)
          obtain ⟨z, HZ⟩ : ∃ z, Hid (X.getD k 0 = z) := ⟨_, rfl⟩
          rw [unhide HZ] at hcell
          have hz := unhide HIN k hlt
          rw [unhide HZ] at hz
          have c1 : ¬ z < lo := by omega
          have c2 : ¬ hi < z := by omega
          have e9 := i64_in ((k : Int) + 1) (by omega)
          clear hc hz
          go_wp2
          go_roundw
          case rel => exact ⟨k + 1, by omega, by go_num, HG⟩
          case measure => simp [intOf]; omega
        · obtain rfl : xl = k := by omega
          have RXX := RX5
          clear hlt HIN
          have HRC := hide ((unhide HR).grown (unhide G5) |>.grown (unhide HG))
          have RYC := hide ((unhide RY5).grown (unhide HG))
          have GC := hide (grown_trans (unhide G5) (unhide HG))
          clear HG
          go_wp2_with fail
          refine (lawPick ao n cap 3 3 zs wr (unhide HRC) (unhide HB) hn (by omega) (by omega) (by omega)).mono ?_
          rintro e wr ⟨⟨x1, rfl, hx0, hx3⟩, rfl⟩
          obtain ⟨a, ea⟩ : ∃ a : Nat, 1 + x1 = (a : Int) := ⟨(1 + x1).toNat, by omega⟩
          have ha : 1 ≤ a ∧ a ≤ 3 := by omega
          have ea1 : IntKind.i64.wrap (1 + x1) = (a : Int) := by rw [ea, i64_in _ (by omega)]
          clear ea hx0 hx3
          go_wp2_with fail
          refine (lawPick ao n cap 4 3 zs wr (unhide HRC) (unhide HB) hn (by omega) (by omega) (by omega)).mono ?_
          rintro e wr ⟨⟨x2, rfl, hx0, hx3⟩, rfl⟩
          obtain ⟨b, eb⟩ : ∃ b : Nat, 1 + x2 = (b : Int) := ⟨(1 + x2).toNat, by omega⟩
          have hb : 1 ≤ b ∧ b ≤ 3 := by omega
          have eb1 : IntKind.i64.wrap (1 + x2) = (b : Int) := by rw [eb, i64_in _ (by omega)]
          clear eb hx0 hx3
          obtain ⟨p, HPN⟩ : ∃ p, Hid (a * wN = p) := ⟨_, rfl⟩
          obtain ⟨q, HQN⟩ : ∃ q, Hid (b * hN = q) := ⟨_, rfl⟩
          have hp : p ≤ 42 := by rw [← unhide HPN]; exact Nat.mul_le_mul ha.2 hwN.2
          have hq : q ≤ 42 := by rw [← unhide HQN]; exact Nat.mul_le_mul hb.2 hhN.2
          have ep : IntKind.i64.wrap ((a : Int) * (wN : Int)) = (p : Int) := by rw [← Int.natCast_mul, unhide HPN, i64_in _ (by omega)]
          have eq : IntKind.i64.wrap ((b : Int) * (hN : Int)) = (q : Int) := by rw [← Int.natCast_mul, unhide HQN, i64_in _ (by omega)]
          obtain ⟨Y, HY⟩ : ∃ Y, Hid (growG ys (wN : Int) (hN : Int) (p : Int) (q : Int) = Y) := ⟨_, rfl⟩
          have HYF : Hid (Y.length ≤ 131072) := by rw [← unhide HY]; exact grow_few _ _ _ _ _
          go_wp2_with fail
          refine (implGrow _ yl sc ys (wN : Int) (hN : Int) (p : Int) (q : Int) wr (unhide RYC) (by omega) Y HY).mono ?_
          rintro e w6 ⟨yo, yc, rfl, o6, g6⟩
          obtain ⟨ml, HML⟩ : ∃ k, Hid (Y.length = k) := ⟨_, rfl⟩
          have RM2 := own_rd o6
          rw [unhide HML] at RM2 HYF ⊢
          have RM := hide RM2
          have hml : ml ≤ 131072 := unhide HYF
          have G6 := hide (grown_trans (unhide GC) g6)
          have RY6 := hide ((unhide RYC).grown g6)
          clear o6 g6 RM2
          go_wp2_with fail
          refine (specGrow _ yl sc ys (wN : Int) (hN : Int) (p : Int) (q : Int) w6 (unhide RY6) (by omega) Y HY).mono ?_
          rintro e w7 ⟨uo, uc, rfl, o7, g7⟩
          have RU2 := own_rd o7
          rw [unhide HML] at RU2 ⊢
          have RU := hide RU2
          have G7 := hide (grown_trans (unhide G6) g7)
          have RM7 := hide ((unhide RM).grown g7)
          have RY7 := hide ((unhide RY6).grown g7)
          clear o7 g7 RU2
          go_wp2_with fail
          refine (sameInts yo uo ml yc uc Y w7 (unhide RM7) (unhide RU) (by omega)).mono ?_
          rintro e w8 ⟨rfl, g8⟩
          have G8 := hide (grown_trans (unhide G7) g8)
          have RM8 := hide ((unhide RM7).grown g8)
          have RY8 := hide ((unhide RY7).grown g8)
          clear g8 RU RM7 RY7
          by_cases hm0 : ml = 0
          · subst hm0
            go_wp2
            go_ret
            exact ⟨rfl, grown_below (unhide G8)⟩
          · have em : ((ml : Int) == 0) = false := by simp; omega
            have em2 : ¬ (ml : Int) = 0 := by omega
            have HSB : Hid (shrinkG Y (p : Int) (q : Int) (wN : Int) (hN : Int) = ys) := by
              have h1 := means_back (L := ys) (wN := wN) (hN := hN) ha.1 hb.1 (by
                rw [unhide HPN, unhide HQN, unhide HY]
                intro e
                exact hm0 (by rw [← unhide HML, e]; rfl))
              rw [unhide HPN, unhide HQN, unhide HY] at h1
              exact h1
            go_wp2_with fail
            refine (implShrink yo ml yc Y (p : Int) (q : Int) (wN : Int) (hN : Int) w8 (unhide RM8) (by omega) ys HSB).mono ?_
            rintro e w9 ⟨vo, vc, rfl, o9, g9⟩
            have RV2 := own_rd o9
            rw [unhide HYL] at RV2 ⊢
            have RV := hide RV2
            have G9 := hide (grown_trans (unhide G8) g9)
            have RY9 := hide ((unhide RY8).grown g9)
            clear o9 g9 RV2
            go_wp2_with fail
            refine (sameInts vo _ yl vc sc ys w9 (unhide RV) (unhide RY9) (by omega)).mono ?_
            rintro e w10 ⟨rfl, g10⟩
            have G10 := hide (grown_trans (unhide G9) g10)
            go_wp2
            go_ret
            exact ⟨rfl, grown_below (unhide G10)⟩

end Go.Proofs.Ytkefpjbdkhifhaa
