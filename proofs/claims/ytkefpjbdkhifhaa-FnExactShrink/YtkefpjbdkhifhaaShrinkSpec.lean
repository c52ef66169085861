/-
  Shrink, in the specification (written by gen_shrink.py).
-/
import Derived.Test.YtkefpjbdkhifhaaSampSpec
import Derived.Test.YtkefpjbdkhifhaaSampLaid
import Derived.Test.YtkefpjbdkhifhaaMeanSpec
import Derived.Test.YtkefpjbdkhifhaaTonePure
namespace Go.Proofs.Ytkefpjbdkhifhaa
open Go.RowKit

theorem specUp16 (n d u : Nat) (hn : 1 ≤ n ∧ n ≤ 4000000) (hd : 1 ≤ d ∧ d ≤ 4000000) (hu : Hid ((n + d - 1) / d = u)) (w : World) :
    Calls Try.prog 48 #[.int .i64 (n : Int), .int .i64 (d : Int)] w fun e w' => e = .returned (.int .i64 (u : Int)) ∧ w = w' := by
  have hd0 : ((d : Int) == 0) = false := beq_eq_false_iff_ne.2 (by omega)
  have hm1 : ((d : Int) == -1) = false := beq_eq_false_iff_ne.2 (by omega)
  have z0 : ¬ d = 0 := by omega
  have k1 := i64_in ((n : Int) + (d : Int)) (by omega)
  have k2 := i64_in ((n : Int) + (d : Int) - 1) (by omega)
  have ht : ((n : Int) + (d : Int) - 1).tdiv (d : Int) = (u : Int) := by
    rw [Int.tdiv_eq_ediv_of_nonneg (by omega), ← unhide hu]
    push_cast
    congr 1
    omega
  have hb : u ≤ n + d := by rw [← unhide hu]; exact Nat.le_trans (Nat.div_le_self _ _) (by omega)
  have k3 := i64_in (u : Int) (by omega)
  go_enter Try.func48, Try.ntmps48
  go_wp2
  go_ret
  exact ⟨rfl, rfl⟩

set_option maxRecDepth 100000 in
set_option maxHeartbeats 12800000 in
theorem specShrink (ao : Option Addr) (n cap : Nat) (zs : List Int) (w h nw nh : Int) (W : World) (hr : Rd .i64 W ao n zs) (hn : n ≤ 9223372036854775807) (L : List Int) (HL : Hid (shrinkG zs w h nw nh = L)) :
    Calls Try.prog 16 #[.slice ao n cap, .int .i64 w, .int .i64 h, .int .i64 nw, .int .i64 nh] W fun e W' => ∃ so sc, e = .returned (.slice so L.length sc) ∧ W'.ownsRow W.heap.size 3 1 (.slice so L.length sc) L.length (L.map (Value.int .i64)) ∧ W.grownBy W' none := by
  have HO : Hid ((W.alloc (.cells #[] 3)).ownsRow W.heap.size 3 1 (.slice (some ⟨W.heap.size, 0, none⟩) 0 0) 0 []) := World.ownsRow_lit W #[] 0 (Nat.le_refl _) (by unfold maxLen; omega) rfl
  have HR0 := hide hr
  have HR := hide (hr.grown (World.grownBy_alloc W (.cells #[] 3) none))
  have HN := hide hr.1
  clear hr
  obtain ⟨pb, HP⟩ : ∃ y, Hid (planeB zs w h = y) := ⟨_, rfl⟩
  go_enter Try.func16, Try.ntmps16
  go_wp2_with fail
  refine (specPlaneOk ao n cap zs w h _ (unhide HR) hn pb HP).mono ?_
  rintro e w1 ⟨rfl, g1⟩
  have HGW : Hid (W.grownBy w1 none) := grown_trans (World.grownBy_alloc _ _ _) g1
  have HOWN := hide (own_grown (unhide HO) g1)
  clear g1 HO HR
  cases pb with
  | false =>
    obtain rfl : L = [] := by rw [← unhide HL, shrinkG, unhide HP]; rfl
    go_wp2
    go_ret
    exact ⟨_, _, rfl, unhide HOWN, unhide HGW⟩
  | true =>
    have hpl := plane_of (unhide HP)
    obtain ⟨t1, HT1⟩ : ∃ y, Hid (decide (1 ≤ nw ∧ nw ≤ w) = y) := ⟨_, rfl⟩
    obtain ⟨t2, HT2⟩ : ∃ y, Hid (decide (1 ≤ nh ∧ nh ≤ h) = y) := ⟨_, rfl⟩
    have HLP := hide hpl
    clear hpl
    go_wp2_with fail
    refine (between nw 1 w t1 HT1 w1).mono ?_
    rintro e w1 ⟨rfl, rfl⟩
    by_cases h1 : ¬ t1 = true
    · obtain rfl : t1 = false := by simpa using h1
      obtain rfl : L = [] := by rw [← unhide HL, shrinkG, unhide HT1]; simp
      go_wp2
      go_ret
      exact ⟨_, _, rfl, unhide HOWN, unhide HGW⟩
    obtain rfl : t1 = true := by simpa using h1
    go_wp2_with fail
    refine (between nh 1 h t2 HT2 w1).mono ?_
    rintro e w1 ⟨rfl, rfl⟩
    by_cases h2 : ¬ t2 = true
    · obtain rfl : t2 = false := by simpa using h2
      obtain rfl : L = [] := by rw [← unhide HL, shrinkG, unhide HT2]; simp
      go_wp2
      go_ret
      exact ⟨_, _, rfl, unhide HOWN, unhide HGW⟩
    obtain rfl : t2 = true := by simpa using h2
    have hpl := unhide HLP
    have b1 := of_decide_eq_true (unhide HT1)
    have b2 := of_decide_eq_true (unhide HT2)
    clear h1 h2 HLP
    have hbd : nw.toNat * nh.toNat ≤ 131072 := by
      have h1 : nw * nh ≤ w * h := Int.mul_le_mul b1.2 b2.2 (by omega) (by omega)
      have h2 := hpl.2.2.2.1
      have h3 : ((nw.toNat * nh.toNat : Nat) : Int) = nw * nh := by push_cast; rw [Int.toNat_of_nonneg (by omega), Int.toNat_of_nonneg (by omega)]
      omega
    obtain ⟨wN, rfl⟩ : ∃ k : Nat, w = (k : Int) := ⟨w.toNat, by omega⟩
    obtain ⟨hN, rfl⟩ : ∃ k : Nat, h = (k : Int) := ⟨h.toNat, by omega⟩
    obtain ⟨nwN, rfl⟩ : ∃ k : Nat, nw = (k : Int) := ⟨nw.toNat, by omega⟩
    obtain ⟨nhN, rfl⟩ : ∃ k : Nat, nh = (k : Int) := ⟨nh.toNat, by omega⟩
    have HLG : Hid (shrinkL zs wN hN nwN nhN = L) := by
      unfold Hid
      rw [← unhide HL, shrinkG, unhide HP, unhide HT1, unhide HT2]
      rfl
    have hlen : zs.length = wN * hN := by have := hpl.2.2.1; exact_mod_cast this
    have HLL : Hid (L.length = nwN * nhN) := by unfold Hid; rw [← unhide HLG]; exact gridL_len _ _ _
    simp only [Int.toNat_natCast] at hbd
    have HBD := hide hbd
    have hb1 : wN ≤ 1024 ∧ hN ≤ 1024 ∧ nwN ≤ 1024 ∧ nhN ≤ 1024 ∧ 1 ≤ wN ∧ 1 ≤ hN ∧ 1 ≤ nwN ∧ 1 ≤ nhN := by omega
    have HLEN := hide hlen
    have HRW := hide ((unhide HR0).grown (unhide HGW))
    have HRA : Hid (Rd .i64 W ao n zs) := HR0
    have HT0 : Hid (∀ i, 0 ≤ zs.getD i 0 ∧ zs.getD i 0 ≤ 4095) := fun i => by
      by_cases hi : i < zs.length
      · have e : zs.getD i 0 = zs[i] := by simp [hi]
        rw [e]
        exact hpl.2.2.2.2 _ (List.getElem_mem hi)
      · have e : zs.getD i 0 = 0 := by rw [List.getD_eq_getElem?_getD, List.getElem?_eq_none (by omega)]; rfl
        rw [e]
        omega
    have hpos : 0 < n := by
      have h1 := unhide HN
      have h2 : 0 < wN * hN := Nat.mul_pos (by omega) (by omega)
      omega
    obtain ⟨bb, off, rfl, _⟩ := (unhide HRA).2 0 hpos
    clear hpl hlen hbd HP HL HRW hpos
    go_wp2
    go_loopw [11, 12] (fun ov yv wr => ∃ (y c : Nat), y ≤ nhN ∧ yv = .int .i64 y ∧ Hid (y * nwN = c) ∧ Hid (wr.ownsRow W.heap.size 3 1 ov c ((L.take c).map (Value.int .i64))) ∧ Hid (W.grownBy wr none)) (fun _ yv _ => nhN - (intOf yv).toNat)
    case atStart => exact ⟨0, 0, by omega, by go_num, by simp [Hid], HOWN, HGW⟩
    case round =>
      clear HOWN HGW
      obtain ⟨y, c0, hy, rfl, HC0, HOV, HGV⟩ := hrel
      by_cases hyl : y < nhN
      · have hyI : (y : Int) < (nhN : Int) := by omega
        have y1 := i64_in ((y : Int) + 1) (by omega)
        go_wp2
        go_loopw [11, 13] (fun ov xv wr => ∃ (x c : Nat), x ≤ nwN ∧ xv = .int .i64 x ∧ Hid (y * nwN + x = c) ∧ Hid (wr.ownsRow W.heap.size 3 1 ov c ((L.take c).map (Value.int .i64))) ∧ Hid (W.grownBy wr none)) (fun _ xv _ => nwN - (intOf xv).toNat)
        case atStart => exact ⟨0, c0, by omega, by go_num, HC0, HOV, HGV⟩
        case round =>
          clear HOV HGV HC0
          obtain ⟨x, c, hx, rfl, HC, HOV, HGV⟩ := hrel
          by_cases hxl : x < nwN
          · have hxI : (x : Int) < (nwN : Int) := by omega
            have x1 := i64_in ((x : Int) + 1) (by omega)
            have hcl : c < nwN * nhN := by
              rw [← unhide HC]
              have : (y + 1) * nwN ≤ nhN * nwN := Nat.mul_le_mul_right _ hyl
              rw [Nat.add_mul, Nat.one_mul] at this
              rw [Nat.mul_comm nwN nhN]
              omega
            have hcb : c + 1 ≤ 1000000 := by have := unhide HBD; omega
            obtain ⟨z, HZ⟩ : ∃ z, Hid (shrinkF zs wN hN nwN nhN y x = z) := ⟨_, rfl⟩
            have HNX : Hid (L.take c ++ [z] = L.take (c + 1)) := by
              unfold Hid
              rw [← unhide HLG]
              have h1 : c / nwN = y := by rw [← unhide HC, Nat.add_comm, Nat.add_mul_div_right _ _ (by omega), Nat.div_eq_of_lt hxl, Nat.zero_add]
              have h2 : c % nwN = x := by rw [← unhide HC, Nat.add_comm, Nat.add_mul_mod_self_right, Nat.mod_eq_of_lt hxl]
              unfold shrinkL
              rw [gridL_take _ _ _ c hcl, h1, h2, unhide HZ]
            obtain ⟨ya, HYA⟩ : ∃ k, Hid (fromN hN nhN y = k) := ⟨_, rfl⟩
            obtain ⟨yb, HYB⟩ : ∃ k, Hid (toN hN nhN y = k) := ⟨_, rfl⟩
            obtain ⟨xa, HXA⟩ : ∃ k, Hid (fromN wN nwN x = k) := ⟨_, rfl⟩
            obtain ⟨xb, HXB⟩ : ∃ k, Hid (toN wN nwN x = k) := ⟨_, rfl⟩
            have hy1 : ya < yb := by rw [← unhide HYA, ← unhide HYB]; exact from_to (by omega) (by omega)
            have hy2 : yb ≤ hN := by rw [← unhide HYB]; exact to_le hyl
            have hx1 : xa < xb := by rw [← unhide HXA, ← unhide HXB]; exact from_to (by omega) (by omega)
            have hx2 : xb ≤ wN := by rw [← unhide HXB]; exact to_le hxl
            obtain ⟨R, HR⟩ : ∃ k, Hid (yb - ya = k) := ⟨_, rfl⟩
            obtain ⟨C, HCC⟩ : ∃ k, Hid (xb - xa = k) := ⟨_, rfl⟩
            have hR : 1 ≤ R ∧ R ≤ 1024 := by have := unhide HR; omega
            have hC : 1 ≤ C ∧ C ≤ 1024 := by have := unhide HCC; omega
            have HZ' : Hid (meanI (sumR zs wN ya xa C R) (R * C) = z) := by
              have h := unhide HZ
              unfold shrinkF at h
              rw [unhide HYA, unhide HYB, unhide HXA, unhide HXB, unhide HR, unhide HCC] at h
              exact h
            obtain ⟨m1, HM1⟩ : ∃ k : Nat, Hid (y * hN = k) := ⟨_, rfl⟩
            obtain ⟨m2, HM2⟩ : ∃ k : Nat, Hid ((y + 1) * hN = k) := ⟨_, rfl⟩
            obtain ⟨m3, HM3⟩ : ∃ k : Nat, Hid (x * wN = k) := ⟨_, rfl⟩
            obtain ⟨m4, HM4⟩ : ∃ k : Nat, Hid ((x + 1) * wN = k) := ⟨_, rfl⟩
            have lm1 : m1 ≤ 1048576 := by rw [← unhide HM1]; exact Nat.mul_le_mul (by omega : y ≤ 1024) (by omega : hN ≤ 1024)
            have lm2 : 1 ≤ m2 ∧ m2 ≤ 1048576 := by rw [← unhide HM2]; exact ⟨Nat.mul_le_mul (by omega : 1 ≤ y + 1) (by omega : 1 ≤ hN), Nat.mul_le_mul (by omega : y + 1 ≤ 1024) (by omega : hN ≤ 1024)⟩
            have lm3 : m3 ≤ 1048576 := by rw [← unhide HM3]; exact Nat.mul_le_mul (by omega : x ≤ 1024) (by omega : wN ≤ 1024)
            have lm4 : 1 ≤ m4 ∧ m4 ≤ 1048576 := by rw [← unhide HM4]; exact ⟨Nat.mul_le_mul (by omega : 1 ≤ x + 1) (by omega : 1 ≤ wN), Nat.mul_le_mul (by omega : x + 1 ≤ 1024) (by omega : wN ≤ 1024)⟩
            have k1 : IntKind.i64.wrap ((y : Int) * (hN : Int)) = (m1 : Int) := by
              have e : (y : Int) * (hN : Int) = (m1 : Int) := by have := unhide HM1; exact_mod_cast this
              rw [e, i64_in _ (by omega)]
            have k2 : IntKind.i64.wrap (((y : Int) + 1) * (hN : Int)) = (m2 : Int) := by
              have e : ((y : Int) + 1) * (hN : Int) = (m2 : Int) := by have := unhide HM2; exact_mod_cast this
              rw [e, i64_in _ (by omega)]
            have k3 : IntKind.i64.wrap ((x : Int) * (wN : Int)) = (m3 : Int) := by
              have e : (x : Int) * (wN : Int) = (m3 : Int) := by have := unhide HM3; exact_mod_cast this
              rw [e, i64_in _ (by omega)]
            have k4 : IntKind.i64.wrap (((x : Int) + 1) * (wN : Int)) = (m4 : Int) := by
              have e : ((x : Int) + 1) * (wN : Int) = (m4 : Int) := by have := unhide HM4; exact_mod_cast this
              rw [e, i64_in _ (by omega)]
            have k5 : (m1 : Int).tdiv (nhN : Int) = (ya : Int) := by
              rw [Int.tdiv_eq_ediv_of_nonneg (by omega)]
              have : m1 / nhN = ya := by rw [← unhide HM1]; exact unhide HYA
              exact_mod_cast this
            have k6 : (m3 : Int).tdiv (nwN : Int) = (xa : Int) := by
              rw [Int.tdiv_eq_ediv_of_nonneg (by omega)]
              have : m3 / nwN = xa := by rw [← unhide HM3]; exact unhide HXA
              exact_mod_cast this
            have HU2 : Hid ((m2 + nhN - 1) / nhN = yb) := by unfold Hid; rw [← unhide HM2]; exact unhide HYB
            have HU4 : Hid ((m4 + nwN - 1) / nwN = xb) := by unfold Hid; rw [← unhide HM4]; exact unhide HXB
            have k7 := i64_in (ya : Int) (by omega)
            have k8 := i64_in (xa : Int) (by omega)
            have z1 : ((nhN : Int) == 0) = false := beq_eq_false_iff_ne.2 (by omega)
            have z2 : ((nhN : Int) == -1) = false := beq_eq_false_iff_ne.2 (by omega)
            have z3 : ((nwN : Int) == 0) = false := beq_eq_false_iff_ne.2 (by omega)
            have z4 : ((nwN : Int) == -1) = false := beq_eq_false_iff_ne.2 (by omega)
            have z5 : ¬ nhN = 0 := by omega
            have z6 : ¬ nwN = 0 := by omega

            have HCLX := hide hcl
            clear hcl lm1 lm3
            go_wp2
            go_loopw [14, 15, 16] (fun sv nv rv wr => ∃ (j : Nat) (sm : Int) (nn : Nat), j ≤ R ∧ sv = .int .i64 sm ∧ nv = .int .i64 nn ∧ rv = .int .i64 ((ya + j : Nat) : Int) ∧ Hid (sumR zs wN ya xa C j = sm) ∧ Hid (j * C = nn) ∧ (0 ≤ sm ∧ sm ≤ 4095 * nn) ∧ Hid (wr.ownsRow W.heap.size 3 1 u11 c ((L.take c).map (Value.int .i64))) ∧ Hid (W.grownBy wr none)) (fun _ _ rv _ => yb - (intOf rv).toNat)
            case atStart => exact ⟨0, 0, 0, by omega, rfl, rfl, by simp, rfl, by simp [Hid], by omega, HOV, HGV⟩
            case round =>
              clear HOV HGV
              obtain ⟨j, sm, nn, hj, rfl, rfl, rfl, HSM, HNN, hsm, HOV, HGV⟩ := hrel
              obtain ⟨rr, HRR⟩ : ∃ k : Nat, Hid (ya + j = k) := ⟨_, rfl⟩
              rw [unhide HRR]
              have hnn : nn ≤ 1048576 := by rw [← unhide HNN]; exact Nat.mul_le_mul (by omega : j ≤ 1024) hC.2
              go_wp2_with fail
              refine (specUp16 m2 nhN yb (by omega) (by omega) HU2 wr).mono ?_
              rintro e wr ⟨rfl, rfl⟩
              by_cases hjl : rr < yb
              · have hrI : (rr : Int) < (yb : Int) := by omega
                have r1 := i64_in ((rr : Int) + 1) (by omega)
                have hjR : j < R := by have := unhide HRR; have := unhide HR; omega
                obtain ⟨m5, HM5⟩ : ∃ k : Nat, Hid (rr * wN = k) := ⟨_, rfl⟩
                have hre := row_end (w := wN) (show rr < hN by omega)
                rw [unhide HM5, Nat.mul_comm hN wN] at hre
                have hwh : wN * hN ≤ 1048576 := Nat.mul_le_mul (by omega : wN ≤ 1024) (by omega : hN ≤ 1024)
                have k9 : IntKind.i64.wrap ((rr : Int) * (wN : Int)) = (m5 : Int) := by
                  have e : (rr : Int) * (wN : Int) = (m5 : Int) := by have := unhide HM5; exact_mod_cast this
                  rw [e, i64_in _ (by omega)]
                go_wp2
                go_loopw [14, 15, 17] (fun sv nv kv wr => ∃ (i : Nat) (s2 : Int) (n2 : Nat), i ≤ C ∧ sv = .int .i64 s2 ∧ nv = .int .i64 n2 ∧ kv = .int .i64 ((xa + i : Nat) : Int) ∧ Hid (sm + sumK zs m5 xa i = s2) ∧ Hid (nn + i = n2) ∧ (0 ≤ s2 ∧ s2 ≤ 4095 * n2) ∧ Hid (wr.ownsRow W.heap.size 3 1 u11 c ((L.take c).map (Value.int .i64))) ∧ Hid (W.grownBy wr none)) (fun _ _ kv _ => xb - (intOf kv).toNat)
                case atStart => exact ⟨0, sm, nn, by omega, rfl, rfl, by simp, by simp [Hid, sumK], by simp [Hid], hsm, HOV, HGV⟩
                case round =>
                  clear HOV HGV
                  obtain ⟨i, s2, n2, hi, rfl, rfl, rfl, HS2, HN2, hs2, HOV, HGV⟩ := hrel
                  obtain ⟨kk, HKK⟩ : ∃ k : Nat, Hid (xa + i = k) := ⟨_, rfl⟩
                  rw [unhide HKK]
                  have hn2 : n2 ≤ 1049600 := by have := unhide HN2; omega
                  go_wp2_with fail
                  refine (specUp16 m4 nwN xb (by omega) (by omega) HU4 wr).mono ?_
                  rintro e wr ⟨rfl, rfl⟩
                  by_cases hil : kk < xb
                  · have hkI : (kk : Int) < (xb : Int) := by omega
                    have q1 := i64_in ((kk : Int) + 1) (by omega)
                    have hiC : i < C := by have := unhide HKK; have := unhide HCC; omega
                    obtain ⟨ix, HIXE⟩ : ∃ k : Nat, Hid (m5 + kk = k) := ⟨_, rfl⟩
                    have q2 : IntKind.i64.wrap ((m5 : Int) + (kk : Int)) = (ix : Int) := by
                      have := unhide HIXE
                      rw [i64_in _ (by omega)]
                      omega
                    have hixl : ix < n := by
                      have h1 := unhide HN
                      have h2 := unhide HLEN
                      have h3 := unhide HIXE
                      omega
                    have hc : W.cell? ⟨bb, off + ix, none⟩ = some (.int .i64 (zs.getD ix 0)) := by
                      obtain ⟨b', o', e, hc⟩ := (unhide HRA).2 ix hixl
                      simp only [Option.some.injEq, Addr.mk.injEq, and_true] at e
                      rw [e.1, e.2]
                      exact hc
                    have hcell := (unhide HGV).cell hc (by simp)
                    obtain ⟨e1, HE1⟩ : ∃ z, Hid (zs.getD ix 0 = z) := ⟨_, rfl⟩
                    rw [unhide HE1] at hcell
                    have he := unhide HT0 ix
                    rw [unhide HE1] at he
                    have q3 := i64_in (s2 + e1) (by omega)
                    have q4 := i64_in ((n2 : Int) + 1) (by omega)
                    have hixI : (ix : Int) < (n : Int) := by omega
                    have HS3 : Hid (sm + sumK zs m5 xa (i + 1) = s2 + e1) := by
                      unfold Hid
                      rw [sumK, unhide HKK, unhide HIXE, unhide HE1, ← unhide HS2]
                      omega
                    have HKN : Hid ((kk : Int) + 1 = ((xa + (i + 1) : Nat) : Int)) := by have := unhide HKK; unfold Hid; omega
                    clear hc
                    go_wp2
                    go_roundw
                    case rel => exact ⟨i + 1, s2 + e1, n2 + 1, by omega, rfl, by go_num, by rw [unhide HKN], HS3, by have := unhide HN2; unfold Hid; omega, by omega, HOV, HGV⟩
                    case measure => simp [intOf]; omega
                  · have hkd : decide ((kk : Int) < (xb : Int)) = false := decide_eq_false (by omega)
                    have hkd2 : decide (kk < xb) = false := decide_eq_false (by omega)
                    have hiC : i = C := by have := unhide HKK; have := unhide HCC; omega
                    have HS3 : Hid (sumR zs wN ya xa C (j + 1) = s2) := by
                      unfold Hid
                      rw [sumR, unhide HSM, unhide HRR, unhide HM5, ← unhide HS2, hiC]
                    have HN3 : Hid ((j + 1) * C = n2) := by unfold Hid; rw [Nat.add_mul, Nat.one_mul, unhide HNN, ← unhide HN2, hiC]
                    have HKN : Hid ((rr : Int) + 1 = ((ya + (j + 1) : Nat) : Int)) := by have := unhide HRR; unfold Hid; omega
                    clear hiC
                    go_wp2
                    go_roundw
                    case rel => exact ⟨j + 1, s2, n2, by omega, rfl, rfl, by rw [unhide HKN], HS3, HN3, hs2, HOV, HGV⟩
                    case measure => simp [intOf]; omega
              · have hkd : decide ((rr : Int) < (yb : Int)) = false := decide_eq_false (by omega)
                have hkd2 : decide (rr < yb) = false := decide_eq_false (by omega)
                have hjR : j = R := by have := unhide HRR; have := unhide HR; omega
                have HZ2 : Hid (meanI sm nn = z) := by unfold Hid; rw [← unhide HSM, ← unhide HNN, hjR]; exact unhide HZ'
                have hnn1 : 1 ≤ nn := by rw [← unhide HNN, hjR]; exact Nat.mul_le_mul hR.1 hC.1
                clear hjR
                go_wp2_with fail
                refine (specMean sm nn z (by omega) (by omega) HZ2 wr).mono ?_
                rintro e wr ⟨rfl, rfl⟩
                go_wp2_with ((at_builtin; refine append_i16 rfl _ _ rfl W _ c (L.take c) rfl (unhide HOV) z rfl hcb (unhide HGV) ?_; intro v' w' ho hg))
                have HO' := hide ho
                rw [unhide HNX] at HO'
                have HG' := hide hg
                clear ho hg
                go_roundw
                case rel => exact ⟨x + 1, c + 1, by omega, by go_num, by unfold Hid; rw [← unhide HC]; omega, HO', HG'⟩
                case measure => simp [intOf]; omega
          · obtain rfl : x = nwN := by omega
            have hxd : decide ((x : Int) < (x : Int)) = false := decide_eq_false (by omega)
            have HC' : Hid ((y + 1) * x = c) := by unfold Hid; rw [← unhide HC, Nat.add_mul, Nat.one_mul]
            go_wp2
            go_roundw
            case rel => exact ⟨y + 1, c, by omega, by go_num, HC', HOV, HGV⟩
            case measure => simp [intOf]; omega
      · obtain rfl : y = nhN := by omega
        have hyd : decide ((y : Int) < (y : Int)) = false := decide_eq_false (by omega)
        have HCL : Hid (c0 = L.length) := by unfold Hid; rw [unhide HLL, ← unhide HC0, Nat.mul_comm]
        rw [unhide HCL, List.take_length] at HOV
        obtain ⟨so, sc, rfl⟩ := own_form (unhide HOV)
        go_wp2
        go_ret
        exact ⟨_, _, rfl, unhide HOV, unhide HGV⟩
end Go.Proofs.Ytkefpjbdkhifhaa
