/-
  JoinBlocks, in the specification.
-/
import Derived.Test.YtkefpjbdkhifhaaSampSpec
import Derived.Test.YtkefpjbdkhifhaaSampLaid
import Derived.Test.YtkefpjbdkhifhaaTonePure
import Derived.Test.YtkefpjbdkhifhaaDeepR2
import Derived.Test.YtkefpjbdkhifhaaLevSpec
namespace Go.Proofs.Ytkefpjbdkhifhaa
open Go.RowKit

def joinG (B : List (List Int)) (w h : Int) : List Int := if sidesB w h && decide (w % 8 = 0) && decide (h % 8 = 0) && decide ((B.length : Int) = w * h / 64) && B.all (levB 0 4095) then joinL B w.toNat h.toNat else []
theorem join_sides {w h : Int} (hs : sidesB w h = true) (h1 : w % 8 = 0) (h2 : h % 8 = 0) : ∃ bw bh : Nat, w = ((8 * bw : Nat) : Int) ∧ h = ((8 * bh : Nat) : Int) ∧ (1 ≤ bw ∧ bw ≤ 128) ∧ (1 ≤ bh ∧ bh ≤ 128) ∧ w * h / 64 = ((bh * bw : Nat) : Int) := by
  obtain ⟨a1, a2, a3⟩ := sides_of hs
  refine ⟨(w / 8).toNat, (h / 8).toNat, by omega, by omega, by omega, by omega, ?_⟩
  obtain ⟨x, rfl⟩ : ∃ x, w = 8 * x := ⟨w / 8, by omega⟩
  obtain ⟨y, rfl⟩ : ∃ y, h = 8 * y := ⟨h / 8, by omega⟩
  have e : 8 * x * (8 * y) = 64 * (y * x) := by
    have : (64 : Int) = 8 * 8 := by decide
    rw [this]
    ac_rfl
  rw [e, Int.mul_ediv_cancel_left _ (by decide)]
  rw [Int.mul_ediv_cancel_left _ (by decide), Int.mul_ediv_cancel_left _ (by decide)]
  push_cast
  rw [Int.toNat_of_nonneg (by omega), Int.toNat_of_nonneg (by omega)]
theorem Rd2.at {w : World} {bb off n cap : Nat} {B : List (List Int)} (h : Rd2 w (.slice (some ⟨bb, off, none⟩) n cap) B) (i : Nat) (hi : i < B.length) : ∃ uo uc, w.cell? ⟨bb, off + i, none⟩ = some (.slice uo (B.getD i []).length uc) ∧ Rd .i64 w uo (B.getD i []).length (B.getD i []) := by
  obtain ⟨ao, cp, e, hh⟩ := h
  obtain ⟨b, o, u, e1, hc, uo, uc, rfl, hr⟩ := hh i hi
  simp only [Value.slice.injEq] at e
  rw [← e.1] at e1
  simp only [Option.some.injEq, Addr.mk.injEq, and_true] at e1
  have eB : B.getD i [] = B[i] := by simp [hi]
  rw [eB, e1.1, e1.2]
  exact ⟨uo, uc, hc, hr⟩

set_option maxRecDepth 20000 in
set_option maxHeartbeats 6400000 in
theorem specJoinBlocks (ao : Option Addr) (n cap : Nat) (B : List (List Int)) (w h : Int) (W : World) (hr : Rd2 W (.slice ao n cap) B) (hn : n ≤ 9223372036854775807) (L : List Int) (HL : Hid (joinG B w h = L)) :
    Calls Try.prog 40 #[.slice ao n cap, .int .i64 w, .int .i64 h] W fun e W' => ∃ so sc, e = .returned (.slice so L.length sc) ∧ W'.ownsRow W.heap.size 3 1 (.slice so L.length sc) L.length (L.map (Value.int .i64)) ∧ W.grownBy W' none := by
  have hnB : B.length = n := by
    obtain ⟨_, _, e, _⟩ := hr
    simp only [Value.slice.injEq] at e
    exact e.2.1.symm
  have HNB := hide hnB
  have HR := hide hr
  clear hr hnB
  have HO0 : Hid (∀ w1 : World, W.grownBy w1 none → (w1.alloc (.cells #[] 3)).ownsRow W.heap.size 3 1 (.slice (some ⟨w1.heap.size, 0, none⟩) 0 0) 0 []) := fun w1 g => own_base (World.ownsRow_lit w1 #[] 0 (Nat.le_refl _) (by unfold maxLen; omega) rfl) g.size
  obtain ⟨sb, HS⟩ : ∃ y, Hid (sidesB w h = y) := ⟨_, rfl⟩
  go_enter Try.func40, Try.ntmps40
  go_wp2_with fail
  refine (specSides w h sb HS W).mono ?_
  rintro e W ⟨rfl, rfl⟩
  have HOW := hide (unhide HO0 W (World.grownBy.refl _ _))
  cases sb with
  | false =>
    obtain rfl : L = [] := by rw [← unhide HL, joinG, unhide HS]; rfl
    go_wp2
    go_ret
    exact ⟨_, _, rfl, unhide HOW, World.grownBy_alloc _ _ _⟩
  | true =>
    obtain ⟨a1, a2, a3⟩ := sides_of (unhide HS)
    have e1 : w.tmod 8 = w % 8 := Int.tmod_eq_emod_of_nonneg (by omega)
    have e2 : h.tmod 8 = h % 8 := Int.tmod_eq_emod_of_nonneg (by omega)
    have v1 := i64_in (w % 8) (by omega)
    have v2 := i64_in (h % 8) (by omega)
    by_cases h1 : ¬ w % 8 = 0
    · obtain rfl : L = [] := by rw [← unhide HL, joinG, decide_eq_false h1]; simp
      have d1 : (w % 8 != 0) = true := by simpa using h1
      go_wp2
      go_ret
      exact ⟨_, _, rfl, unhide HOW, World.grownBy_alloc _ _ _⟩
    have h1' : w % 8 = 0 := by omega
    have d1 : (w % 8 != 0) = false := by simp [h1']
    by_cases h2 : ¬ h % 8 = 0
    · obtain rfl : L = [] := by rw [← unhide HL, joinG, decide_eq_false h2]; simp
      have d2 : (h % 8 != 0) = true := by simpa using h2
      clear h1 h1'
      go_wp2
      go_ret
      exact ⟨_, _, rfl, unhide HOW, World.grownBy_alloc _ _ _⟩
    have h2' : h % 8 = 0 := by omega
    have d2 : (h % 8 != 0) = false := by simp [h2']
    obtain ⟨bw, bh, E1, E2, b1, b2, E3⟩ := join_sides (unhide HS) h1' h2'
    obtain ⟨wN, HWN⟩ : ∃ k : Nat, Hid (8 * bw = k) := ⟨_, rfl⟩
    obtain ⟨hN, HHN⟩ : ∃ k : Nat, Hid (8 * bh = k) := ⟨_, rfl⟩
    rw [unhide HWN] at E1
    rw [unhide HHN] at E2
    subst E1
    subst E2
    have hmm := mul_sides a1 a2
    obtain ⟨p, HPR⟩ : ∃ p, Hid ((wN : Int) * (hN : Int) = p) := ⟨_, rfl⟩
    rw [unhide HPR] at a3 hmm E3
    have k1 : IntKind.i64.wrap ((wN : Int) * (hN : Int)) = p := by rw [unhide HPR, i64_in _ (by omega)]
    have k2 : p.tdiv 64 = ((bh * bw : Nat) : Int) := by rw [Int.tdiv_eq_ediv_of_nonneg (by omega)]; exact E3
    obtain ⟨nb, HNN⟩ : ∃ k : Nat, Hid (bh * bw = k) := ⟨_, rfl⟩
    have hnb : nb ≤ 16384 := by rw [← unhide HNN]; exact Nat.mul_le_mul b2.2 b1.2
    have hnb1 : 1 ≤ nb := by rw [← unhide HNN]; exact Nat.mul_le_mul b2.1 b1.1
    rw [unhide HNN] at k2 E3
    obtain ⟨qq, HQQ⟩ : ∃ x : Int, Hid ((nb : Int) = x) := ⟨_, rfl⟩
    rw [unhide HQQ] at k2
    have k3 := i64_in qq (by have := unhide HQQ; omega)
    have HE3 := hide E3
    have D1 := hide h1'
    have D2 := hide h2'
    clear h1 h2 h1' h2' E3
    by_cases hl : ¬ n = nb
    · obtain rfl : L = [] := by
        rw [← unhide HL, joinG, unhide HPR, unhide HE3, unhide HNB, decide_eq_false (by omega : ¬ (n : Int) = (nb : Int))]
        simp
      have d3 : ((n : Int) != qq) = true := by have := unhide HQQ; simp; omega
      clear hl
      go_wp2
      go_ret
      exact ⟨_, _, rfl, unhide HOW, World.grownBy_alloc _ _ _⟩
    obtain rfl : n = nb := by omega
    have d3 : ((n : Int) != qq) = false := by have := unhide HQQ; simp; omega
    have HLB : Hid (joinG B (wN : Int) (hN : Int) = if B.all (levB 0 4095) then joinL B wN hN else []) := by
      unfold Hid
      rw [joinG, unhide HS, decide_eq_true (unhide D1), decide_eq_true (unhide D2), unhide HPR, unhide HE3, unhide HNB, Int.toNat_natCast, Int.toNat_natCast, decide_eq_true (rfl : (n : Int) = (n : Int))]
      simp only [Bool.true_and]
    obtain ⟨bb, off, rfl⟩ : ∃ bb off, ao = some ⟨bb, off, none⟩ := by
      obtain ⟨ao', cp, e, hh⟩ := unhide HR
      obtain ⟨b, o, u, e1, _⟩ := hh 0 (by rw [unhide HNB]; omega)
      simp only [Value.slice.injEq] at e
      exact ⟨b, o, by rw [e.1, e1]⟩
    clear hl a1 a2 a3 hmm HPR HOW
    go_wp2
    go_loopw [7] (fun iv wr => ∃ k : Nat, k ≤ n ∧ iv = .int .i64 k ∧ Hid (∀ j, j < k → levB 0 4095 (B.getD j []) = true) ∧ Hid (W.grownBy wr none)) (fun iv _ => n - (intOf iv).toNat)
    case atStart => exact ⟨0, by omega, by go_num, fun j hj => absurd hj (by omega), World.grownBy.refl _ _⟩
    case round =>
      obtain ⟨k, hk, rfl, HK, HG⟩ := hrel
      by_cases hlt : k < n
      · have hkI : (k : Int) < (n : Int) := by omega
        have e9 := i64_in ((k : Int) + 1) (by omega)
        obtain ⟨Bk, HBK⟩ : ∃ b, Hid (B.getD k [] = b) := ⟨_, rfl⟩
        obtain ⟨uo, uc, hc, hrk⟩ := Rd2.at (unhide HR) k (by rw [unhide HNB]; exact hlt)
        rw [unhide HBK] at hc hrk
        have hcell := (unhide HG).cell hc (by simp)
        obtain ⟨t, HT⟩ : ∃ t, Hid (levB 0 4095 Bk = t) := ⟨_, rfl⟩
        obtain ⟨bl, HBL⟩ : ∃ k, Hid (Bk.length = k) := ⟨_, rfl⟩
        rw [unhide HBL] at hcell hrk
        have HRK := hide (hrk.grown (unhide HG))
        clear hc hrk
        go_wp2_with fail
        refine (specLev uo bl uc Bk 0 4095 wr (unhide HRK) t HT).mono ?_
        rintro e w2 ⟨rfl, g2⟩
        have HG2 := hide (grown_trans (unhide HG) g2)
        cases t with
        | true =>
          have HK' : Hid (∀ j, j < k + 1 → levB 0 4095 (B.getD j []) = true) := fun j hj => by
            by_cases e : j = k
            · subst e; rw [unhide HBK]; exact unhide HT
            · exact unhide HK j (by omega)
          clear g2
          go_wp2
          go_roundw
          case rel => exact ⟨k + 1, by omega, by go_num, HK', HG2⟩
          case measure => simp [intOf]; omega
        | false =>
          obtain rfl : L = [] := by
            rw [← unhide HL, unhide HLB, if_neg]
            intro e
            have hk' : k < B.length := by rw [unhide HNB]; exact hlt
            have := List.all_eq_true.1 e B[k] (List.getElem_mem hk')
            rw [show B[k] = Bk by rw [← unhide HBK]; simp [hk'], unhide HT] at this
            cases this
          have HOX := hide (unhide HO0 w2 (unhide HG2))
          clear g2
          go_wp2
          go_ret
          exact ⟨_, _, rfl, unhide HOX, grown_alloc (unhide HG2) _⟩
      · obtain rfl : n = k := by omega
        have hkd : decide ((n : Int) < (n : Int)) = false := decide_eq_false (by omega)
        have HLG : Hid (joinL B wN hN = L) := by
          unfold Hid
          rw [← unhide HL, unhide HLB, if_pos]
          rw [List.all_eq_true]
          intro x hx
          obtain ⟨i, hi, rfl⟩ := List.mem_iff_getElem.1 hx
          have := unhide HK i (by rw [← unhide HNB]; exact hi)
          rw [show B.getD i [] = B[i] by simp [hi]] at this
          exact this
        have H64 : Hid (∀ j, j < n → (B.getD j []).length = 64) := fun j hj => (lev_at (unhide HK j hj)).1
        have HLL : Hid (L.length = wN * hN) := by unfold Hid; rw [← unhide HLG]; exact gridL_len _ _ _
        have hb1 : wN ≤ 1024 ∧ hN ≤ 1024 ∧ 8 ≤ wN ∧ 8 ≤ hN := by have := unhide HWN; have := unhide HHN; omega
        have HBD : Hid (wN * hN ≤ 1000000 * 2) := by
          have : wN * hN ≤ 1024 * 1024 := Nat.mul_le_mul hb1.1 hb1.2.1
          unfold Hid; omega
        have f1 : (wN : Int).tdiv 8 = (bw : Int) := by rw [Int.tdiv_eq_ediv_of_nonneg (by omega)]; have := unhide HWN; omega
        have f3 := i64_in (bw : Int) (by omega)
        have HOV := hide (unhide HO0 wr (unhide HG))
        have HGV := hide (grown_alloc (unhide HG) (.cells #[] 3))
        have HSM : Hid (wN * hN ≤ 131072) := by
          obtain ⟨_, _, h3⟩ := sides_of (unhide HS)
          rw [← Int.natCast_mul] at h3
          unfold Hid; omega
        clear HK HG
        go_wp2
        go_loopw [8, 9] (fun ov yv wr => ∃ (y c : Nat), y ≤ hN ∧ yv = .int .i64 y ∧ Hid (y * wN = c) ∧ Hid (wr.ownsRow W.heap.size 3 1 ov c ((L.take c).map (Value.int .i64))) ∧ Hid (W.grownBy wr none)) (fun _ yv _ => hN - (intOf yv).toNat)
        case atStart => exact ⟨0, 0, by omega, by go_num, by simp [Hid], HOV, HGV⟩
        case round =>
          clear HOV HGV
          obtain ⟨y, c0, hy, rfl, HC0, HOV, HGV⟩ := hrel
          by_cases hyl : y < hN
          · have hyI : (y : Int) < (hN : Int) := by omega
            have y1 := i64_in ((y : Int) + 1) (by omega)
            go_wp2
            go_loopw [8, 10] (fun ov xv wr => ∃ (x c : Nat), x ≤ wN ∧ xv = .int .i64 x ∧ Hid (y * wN + x = c) ∧ Hid (wr.ownsRow W.heap.size 3 1 ov c ((L.take c).map (Value.int .i64))) ∧ Hid (W.grownBy wr none)) (fun _ xv _ => wN - (intOf xv).toNat)
            case atStart => exact ⟨0, c0, by omega, by go_num, HC0, HOV, HGV⟩
            case round =>
              clear HOV HGV HC0
              obtain ⟨x, c, hx, rfl, HC, HOV, HGV⟩ := hrel
              by_cases hxl : x < wN
              · have hxI : (x : Int) < (wN : Int) := by omega
                have x1 := i64_in ((x : Int) + 1) (by omega)
                have hcl : c < wN * hN := by
                  rw [← unhide HC]
                  have := row_end (w := wN) hyl
                  rw [Nat.mul_comm wN hN]
                  omega
                have hcb : c + 1 ≤ 1000000 := by have := unhide HSM; omega
                obtain ⟨yd, HYD⟩ : ∃ k : Nat, Hid (y / 8 = k) := ⟨_, rfl⟩
                obtain ⟨ym, HYM⟩ : ∃ k : Nat, Hid (y % 8 = k) := ⟨_, rfl⟩
                obtain ⟨xd, HXD⟩ : ∃ k : Nat, Hid (x / 8 = k) := ⟨_, rfl⟩
                obtain ⟨xm, HXM⟩ : ∃ k : Nat, Hid (x % 8 = k) := ⟨_, rfl⟩
                have q1 : (y : Int).tdiv 8 = (yd : Int) := by rw [Int.tdiv_eq_ediv_of_nonneg (by omega)]; have := unhide HYD; omega
                have q2 : (y : Int).tmod 8 = (ym : Int) := by rw [Int.tmod_eq_emod_of_nonneg (by omega)]; have := unhide HYM; omega
                have q3 : (x : Int).tdiv 8 = (xd : Int) := by rw [Int.tdiv_eq_ediv_of_nonneg (by omega)]; have := unhide HXD; omega
                have q4 : (x : Int).tmod 8 = (xm : Int) := by rw [Int.tmod_eq_emod_of_nonneg (by omega)]; have := unhide HXM; omega
                have l1 : yd < bh := by have := unhide HYD; have := unhide HHN; omega
                have l2 : ym < 8 := by have := unhide HYM; omega
                have l3 : xd < bw := by have := unhide HXD; have := unhide HWN; omega
                have l4 : xm < 8 := by have := unhide HXM; omega
                have u1 := i64_in (yd : Int) (by omega)
                have u2 := i64_in (ym : Int) (by omega)
                have u3 := i64_in (xd : Int) (by omega)
                have u4 := i64_in (xm : Int) (by omega)
                obtain ⟨m1, HM1⟩ : ∃ k : Nat, Hid (yd * bw = k) := ⟨_, rfl⟩
                have hre := row_end (w := bw) l1
                rw [unhide HM1, unhide HNN] at hre
                have q5 : IntKind.i64.wrap ((yd : Int) * (bw : Int)) = (m1 : Int) := by
                  have e : (yd : Int) * (bw : Int) = (m1 : Int) := by have := unhide HM1; exact_mod_cast this
                  rw [e, i64_in _ (by omega)]
                obtain ⟨bi, HBI⟩ : ∃ k : Nat, Hid (m1 + xd = k) := ⟨_, rfl⟩
                have q6 : IntKind.i64.wrap ((m1 : Int) + (xd : Int)) = (bi : Int) := by
                  have := unhide HBI
                  rw [i64_in _ (by omega)]
                  omega
                have hbi : bi < n := by have := unhide HBI; omega
                have hbiI : (bi : Int) < (n : Int) := by omega
                have q7 := i64_in ((ym : Int) * 8) (by omega)
                obtain ⟨ii, HII⟩ : ∃ k : Nat, Hid (ym * 8 + xm = k) := ⟨_, rfl⟩
                have q8 : IntKind.i64.wrap ((ym : Int) * 8 + (xm : Int)) = (ii : Int) := by
                  have := unhide HII
                  rw [i64_in _ (by omega)]
                  omega
                have hii : ii < 64 := by have := unhide HII; omega
                obtain ⟨Bk, HBK⟩ : ∃ b, Hid (B.getD bi [] = b) := ⟨_, rfl⟩
                obtain ⟨uo, uc, hc, hrk⟩ := Rd2.at (unhide HR) bi (by rw [unhide HNB]; exact hbi)
                rw [unhide H64 bi hbi, unhide HBK] at hrk
                rw [unhide H64 bi hbi] at hc
                have hcell := (unhide HGV).cell hc (by simp)
                obtain ⟨b2', o2', rfl, hc2⟩ := hrk.2 ii hii
                have hcell2 := (unhide HGV).cell hc2 (by simp)
                obtain ⟨z, HZ⟩ : ∃ z, Hid (Bk.getD ii 0 = z) := ⟨_, rfl⟩
                rw [unhide HZ] at hcell2
                have hiiI : (ii : Int) < 64 := by omega
                have HNX : Hid (L.take c ++ [z] = L.take (c + 1)) := by
                  unfold Hid
                  rw [← unhide HLG]
                  have h1 : c / wN = y := by rw [← unhide HC, Nat.add_comm, Nat.add_mul_div_right _ _ (by omega), Nat.div_eq_of_lt hxl, Nat.zero_add]
                  have h2 : c % wN = x := by rw [← unhide HC, Nat.add_comm, Nat.add_mul_mod_self_right, Nat.mod_eq_of_lt hxl]
                  have h3 : wN / 8 = bw := by have := unhide HWN; omega
                  unfold joinL
                  rw [gridL_take _ _ _ c hcl, h1, h2, h3, unhide HYD, unhide HYM, unhide HXD, unhide HXM, unhide HM1, unhide HBI, unhide HII, unhide HBK, unhide HZ]
                clear hc hc2 hcl hre hrk
                go_wp2_with ((at_builtin; refine append_i16 rfl _ _ rfl W _ c (L.take c) rfl (unhide HOV) z rfl hcb (unhide HGV) ?_; intro v' w' ho hg))
                have HO' := hide ho
                rw [unhide HNX] at HO'
                have HG' := hide hg
                clear ho hg
                go_roundw
                case rel => exact ⟨x + 1, c + 1, by omega, by go_num, by unfold Hid; rw [← unhide HC]; omega, HO', HG'⟩
                case measure => simp [intOf]; omega
              · obtain rfl : wN = x := by omega
                have hxd : decide ((wN : Int) < (wN : Int)) = false := decide_eq_false (by omega)
                have HC' : Hid ((y + 1) * wN = c) := by unfold Hid; rw [← unhide HC, Nat.add_mul, Nat.one_mul]
                go_wp2
                go_roundw
                case rel => exact ⟨y + 1, c, by omega, by go_num, HC', HOV, HGV⟩
                case measure => simp [intOf]; omega
          · obtain rfl : hN = y := by omega
            have hyd : decide ((hN : Int) < (hN : Int)) = false := decide_eq_false (by omega)
            have HCL : Hid (c0 = L.length) := by unfold Hid; rw [unhide HLL, ← unhide HC0, Nat.mul_comm]
            rw [unhide HCL, List.take_length] at HOV
            obtain ⟨so, sc, rfl⟩ := own_form (unhide HOV)
            go_wp2
            go_ret
            exact ⟨_, _, rfl, unhide HOV, unhide HGV⟩

end Go.Proofs.Ytkefpjbdkhifhaa
