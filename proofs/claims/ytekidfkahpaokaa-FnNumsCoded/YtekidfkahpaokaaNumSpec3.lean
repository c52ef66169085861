/-
  Numbers that are read, in the specification.
-/
import Derived.Test.YtekidfkahpaokaaNumSpec2
namespace Go.Proofs.Ytekidfkahpaokaa
open Go.RowKit

/-- The reader, and where it is. -/
structure Ir (B W : World) (xb rb : Nat) (w : World) (v bs : Value) (r : Rs) (lim : Nat) : Prop where
  ex : ∃ P : List Nat, Iw B W xb rb w v bs P r.de ∧ P.length = 400 ∧ r.like = (fun y => P.getD y 2048)
  ok : okPs r.like
  okd : OkD r.de
  le : r.de.at_ ≤ lim
theorem Ir.lift {B W w : World} {xb rb : Nat} {v bs : Value} {r : Rs} {lim lim' : Nat} (h : Ir B W xb rb w v bs r lim) (hl : lim ≤ lim') : Ir B W xb rb w v bs r lim' := ⟨h.ex, h.ok, h.okd, Nat.le_trans h.le hl⟩

theorem specBitR {B W w : World} {xb rb : Nat} {v : Value} {r : Rs} {lim : Nat} (ao : Option Addr) (n cap : Nat) (bz : List Int) (h : Ir B W xb rb w v (.slice ao n cap) r lim) (hr : Rd .u8 B ao n bz) (hb : ∀ i, 0 ≤ bz.getD i 0 ∧ bz.getD i 0 ≤ 255) (c : Nat) (hc : c < 400) (hl : lim ≤ 2900000) :
    Calls Try.prog 72 #[.pointer (some ⟨rb, 0, none⟩), .int .i64 c] w fun e w' => e = .returned (.int .i64 ((bitR r c : Nat) : Int)) ∧ Ir B W xb rb w' v (.slice ao n cap) (nextR (byteS bz) r c) (lim + 1) := by
  obtain ⟨P, h1, h2, h3⟩ := h.ex
  have hlk : r.like c = P.getD c 2048 := by rw [h3]
  have hp : okP (P.getD c 2048) := by rw [← hlk]; exact h.ok c
  have hc4 : c < P.length := by omega
  refine (specBitC ao n cap bz h1 hr hb h.okd c hc4 hp (by have := h.le; omega)).mono ?_
  rintro e w' ⟨rfl, hw⟩
  have q := bitD_ok (byteS_le hb) h.okd hp
  refine ⟨by unfold bitR; rw [hlk], ⟨P.set c (learnN (P.getD c 2048) (bitD r.de (P.getD c 2048))), ?_, by rw [List.length_set]; exact h2, ?_⟩, ?_, ?_, ?_⟩
  · unfold nextR
    dsimp only
    rw [hlk]
    exact hw
  · unfold nextR bitR
    dsimp only
    rw [like_set hc4, hlk, h3]
  · exact okPs_learn h.ok c _
  · unfold nextR
    dsimp only
    rw [hlk]
    exact q.1
  · unfold nextR
    dsimp only
    rw [hlk]
    have := q.2; have := h.le; omega

set_option maxRecDepth 20000 in
set_option maxHeartbeats 3200000 in
theorem specNum {B W w : World} {xb rb : Nat} {v : Value} {r : Rs} {lim : Nat} (ao : Option Addr) (n cap : Nat) (bz : List Int) (h : Ir B W xb rb w v (.slice ao n cap) r lim) (hr : Rd .u8 B ao n bz) (hb : ∀ i, 0 ≤ bz.getD i 0 ∧ bz.getD i 0 ≤ 255) (base : Nat) (hbs : base ≤ 380) (hl : lim ≤ 2800000) :
    Calls Try.prog 50 #[.pointer (some ⟨rb, 0, none⟩), .int .i64 base] w fun e w' => e = .returned (.int .i64 (numR (byteS bz) base r).1) ∧ Ir B W xb rb w' v (.slice ao n cap) (numR (byteS bz) base r).2 (lim + 40) := by
  have HBIT : Hid (∀ (W' : World) (r' : Rs) (lim' c : Nat), Ir B W xb rb W' v (.slice ao n cap) r' lim' → c < 400 → lim' ≤ 2900000 → Calls Try.prog 72 #[.pointer (some ⟨rb, 0, none⟩), .int .i64 c] W' fun e w' => e = .returned (.int .i64 ((bitR r' c : Nat) : Int)) ∧ Ir B W xb rb w' v (.slice ao n cap) (nextR (byteS bz) r' c) (lim' + 1)) := fun W' r' lim' c h' hc hl' => specBitR ao n cap bz h' hr hb c hc hl'
  have H := hide h
  clear h hr hb
  obtain ⟨BS, HBS⟩ : ∃ BS, Hid (byteS bz = BS) := ⟨_, rfl⟩
  rw [unhide HBS] at HBIT ⊢
  clear HBS
  have e1 := i64_in ((base : Int) + 1) (by omega)
  have e18 := i64_in ((base : Int) + 18) (by omega)
  have c1 : ((base + 1 : Nat) : Int) = (base : Int) + 1 := by omega
  have c18 : ((base + 18 : Nat) : Int) = (base : Int) + 18 := by omega
  have HB1 := hide (unhide HBIT w r lim base (unhide H) (by omega) (by omega))
  have hb1 := bitR_le r base
  have HR2 : Hid (numR BS base r = if bitR r base = 1 then (0, nextR BS r base) else (if bitR (nextR BS r base) (base + 1) = 1 then -((absR BS base (nextR BS (nextR BS r base) (base + 1))).1 : Int) else ((absR BS base (nextR BS (nextR BS r base) (base + 1))).1 : Int), (absR BS base (nextR BS (nextR BS r base) (base + 1))).2)) := rfl
  obtain ⟨b1, HBB⟩ : ∃ b1, Hid (bitR r base = b1) := ⟨_, rfl⟩
  rw [unhide HBB] at HB1 hb1 HR2
  rcases (show b1 = 1 ∨ b1 = 0 by omega) with rfl | rfl
  · have e : numR BS base r = (0, nextR BS r base) := by rw [unhide HR2, if_pos rfl]
    rw [e]
    clear e HR2
    go_enter Try.func50, Try.ntmps50
    go_wp2_with fail
    refine (unhide HB1).mono ?_
    rintro e w1 ⟨rfl, hw1⟩
    have HF := hide (hw1.lift (show lim + 1 ≤ lim + 40 by omega))
    clear hw1 HB1
    go_wp2
    go_ret
    exact ⟨rfl, unhide HF⟩
  · have hR3 := unhide HR2
    rw [if_neg (by decide)] at hR3
    have HR3 := hide hR3
    clear hR3 HR2
    obtain ⟨z, HZ⟩ : ∃ z, Hid ((numR BS base r).1 = z) := ⟨_, rfl⟩
    obtain ⟨r9, HR9⟩ : ∃ r9, Hid ((numR BS base r).2 = r9) := ⟨_, rfl⟩
    rw [unhide HZ, unhide HR9]
    go_enter Try.func50, Try.ntmps50
    go_wp2_with fail
    refine (unhide HB1).mono ?_
    rintro e w1 ⟨rfl, hw1⟩
    have HB2 := unhide HBIT w1 (nextR BS r base) (lim + 1) (base + 1) hw1 (by omega) (by omega)
    rw [c1] at HB2
    have HB2 := hide HB2
    clear hw1 HB1
    have hb2 := bitR_le (nextR BS r base) (base + 1)
    obtain ⟨sg, HSG⟩ : ∃ sg, Hid (bitR (nextR BS r base) (base + 1) = sg) := ⟨_, rfl⟩
    obtain ⟨r2, HRR⟩ : ∃ r2, Hid (nextR BS (nextR BS r base) (base + 1) = r2) := ⟨_, rfl⟩
    rw [unhide HSG, unhide HRR] at HB2 HR3
    rw [unhide HSG] at hb2
    go_wp2_with fail
    refine (unhide HB2).mono ?_
    rintro e w2 ⟨rfl, hw2⟩
    have HW2 := hide hw2
    obtain ⟨U, HU⟩ : ∃ U, Hid (upR BS base 14 1 r2 = U) := ⟨_, rfl⟩
    have HAB : Hid (absR BS base r2 = lowR BS base (U.1 - 1) 1 U.2) := by unfold Hid absR; rw [unhide HU]
    rw [unhide HAB] at HR3
    clear hw2 HB2 HAB
    obtain ⟨wo, rfl⟩ : ∃ wo, wo = w2 := ⟨w2, rfl⟩
    go_wp2
    go_loopw [6] (fun kv wr => ∃ (k : Nat) (r' : Rs), 1 ≤ k ∧ k ≤ 15 ∧ kv = .int .i64 k ∧ Hid (Ir B W xb rb wr v (.slice ao n cap) r' (lim + 1 + k)) ∧ Hid (upR BS base (15 - k) k r' = U)) (fun kv _ => 15 - (intOf kv).toNat)
    case atStart => exact ⟨1, r2, Nat.le_refl _, by omega, rfl, HW2, HU⟩
    case round =>
      clear HW2 HU HRR HSG HBB H
      obtain ⟨k, r', hk1, hk2, rfl, hw, hU⟩ := hrel
      by_cases hlt : k < 15
      · have hd : decide ((k : Int) < 15) = true := decide_eq_true (by omega)
        have e3 := i64_in ((base : Int) + 1 + (k : Int)) (by omega)
        have HBK := unhide HBIT wr r' (lim + 1 + k) (base + 1 + k) (unhide hw) (by omega) (by omega)
        have ck : ((base + 1 + k : Nat) : Int) = (base : Int) + 1 + (k : Int) := by omega
        rw [ck] at HBK
        have HBK := hide HBK
        have hbk := bitR_le r' (base + 1 + k)
        have hUU := unhide hU
        rw [show 15 - k = (15 - (k + 1)) + 1 by omega, upR] at hUU
        obtain ⟨bt, HBT⟩ : ∃ bt, Hid (bitR r' (base + 1 + k) = bt) := ⟨_, rfl⟩
        obtain ⟨r3, HR3'⟩ : ∃ r3, Hid (nextR BS r' (base + 1 + k) = r3) := ⟨_, rfl⟩
        rw [unhide HBT, unhide HR3'] at HBK hUU
        rw [unhide HBT] at hbk
        rcases (show bt = 1 ∨ bt = 0 by omega) with rfl | rfl
        · rw [if_pos rfl] at hUU
          have HUN := hide hUU
          clear hUU hU hw
          go_wp2_with fail
          refine (unhide HBK).mono ?_
          rintro e w3 ⟨rfl, hw3⟩
          have HW3 : Hid (Ir B W xb rb w3 v (.slice ao n cap) r3 (lim + 1 + (k + 1))) := hw3.lift (by omega)
          clear hw3 HBK
          go_wp2
          go_roundw
          case rel => exact ⟨k + 1, r3, by omega, by omega, by go_num, HW3, HUN⟩
          case measure => simp [intOf]; omega
        · rw [if_neg (by decide)] at hUU
          have HUE : Hid (U = (k, r3)) := hUU.symm
          clear hUU hU hw
          go_wp2_with fail
          refine (unhide HBK).mono ?_
          rintro e w3 ⟨rfl, hw3⟩
          have HW3 : Hid (Ir B W xb rb w3 v (.slice ao n cap) r3 (lim + 17)) := hw3.lift (by omega)
          clear hw3 HBK
          obtain ⟨wp, rfl⟩ : ∃ wp, wp = w3 := ⟨w3, rfl⟩
          go_wp2
          go_loopw [7, 8] (fun nv iv wr => ∃ (i nn : Nat) (r' : Rs), 1 ≤ i ∧ i ≤ k ∧ nv = .int .i64 nn ∧ iv = .int .i64 i ∧ nn < 2 ^ i ∧ Hid (Ir B W xb rb wr v (.slice ao n cap) r' (lim + 17 + i)) ∧ Hid (lowR BS base (k - i) nn r' = lowR BS base (k - 1) 1 r3)) (fun _ iv _ => k - (intOf iv).toNat)
          case atStart => exact ⟨1, 1, r3, Nat.le_refl _, by omega, rfl, rfl, by decide, (unhide HW3).lift (by omega), rfl⟩
          case round =>
            clear HW3
            obtain ⟨i, nn, r', hi1, hik, rfl, rfl, hnn, hw, hlow⟩ := hrel
            have hpw : (2 : Nat) ^ i ≤ 2 ^ 15 := Nat.pow_le_pow_right (by decide) (by omega)
            have hp15 : (2 : Nat) ^ 15 = 32768 := by decide
            by_cases hlt2 : i < k
            · have hd2 : decide ((i : Int) < (k : Int)) = true := decide_eq_true (by omega)
              have HBK := unhide HBIT wr r' (lim + 17 + i) (base + 18) (unhide hw) (by omega) (by omega)
              rw [c18] at HBK
              have HBK := hide HBK
              have hbk := bitR_le r' (base + 18)
              have hLL := unhide hlow
              rw [show k - i = (k - (i + 1)) + 1 by omega, lowR] at hLL
              obtain ⟨bt, HBT⟩ : ∃ bt, Hid (bitR r' (base + 18) = bt) := ⟨_, rfl⟩
              obtain ⟨r4, HR4⟩ : ∃ r4, Hid (nextR BS r' (base + 18) = r4) := ⟨_, rfl⟩
              rw [unhide HBT, unhide HR4] at HBK hLL
              rw [unhide HBT] at hbk
              have HLN := hide hLL
              have e5 := i64_in (2 * (nn : Int)) (by omega)
              have e6 := i64_in (2 * (nn : Int) + (bt : Int)) (by omega)
              have HNN : Hid (2 * nn + bt < 2 ^ (i + 1)) := by unfold Hid; rw [Nat.pow_succ]; omega
              clear hLL hlow hw hnn hpw
              go_wp2_with fail
              refine (unhide HBK).mono ?_
              rintro e w4 ⟨rfl, hw4⟩
              have HW4 : Hid (Ir B W xb rb w4 v (.slice ao n cap) r4 (lim + 17 + (i + 1))) := hw4.lift (by omega)
              clear hw4 HBK
              go_wp2
              go_roundw
              case rel => exact ⟨i + 1, 2 * nn + bt, r4, by omega, by omega, by go_num, by go_num, unhide HNN, HW4, HLN⟩
              case measure => simp [intOf]; omega
            · obtain rfl : i = k := by omega
              have hd2 : decide ((i : Int) < (i : Int)) = false := by simp
              have hLL := unhide hlow
              rw [Nat.sub_self, lowR] at hLL
              have HRES : Hid (numR BS base r = (if sg = 1 then -(nn : Int) else (nn : Int), r')) := by
                unfold Hid
                rw [unhide HR3, unhide HUE, ← hLL]
              have HZ1 : Hid (z = if sg = 1 then -(nn : Int) else (nn : Int)) := by unfold Hid; rw [← unhide HZ, unhide HRES]
              have HF : Hid (Ir B W xb rb wr v (.slice ao n cap) r9 (lim + 40)) := by
                unfold Hid
                rw [← unhide HR9, unhide HRES]
                exact (unhide hw).lift (show lim + 17 + i ≤ lim + 40 by omega)
              clear hLL hlow hw HRES HR3 HUE HZ HR9
              rcases (show sg = 1 ∨ sg = 0 by omega) with rfl | rfl
              · have e7 := i64_in (-(nn : Int)) (by omega)
                go_wp2
                go_ret
                exact ⟨by rw [unhide HZ1]; rfl, unhide HF⟩
              · go_wp2
                go_ret
                exact ⟨by rw [unhide HZ1]; rfl, unhide HF⟩
      · have hd : decide ((k : Int) < 15) = false := decide_eq_false (by omega)
        have hUU := unhide hU
        rw [show 15 - k = 0 by omega, upR] at hUU
        obtain ⟨r3, HR3'⟩ : ∃ r3, r3 = r' := ⟨r', rfl⟩
        subst HR3'
        have HUE : Hid (U = (k, r3)) := hUU.symm
        have HW3 : Hid (Ir B W xb rb wr v (.slice ao n cap) r3 (lim + 17)) := (unhide hw).lift (by omega)
        clear hUU hU hw
        obtain ⟨wp, rfl⟩ : ∃ wp, wp = wr := ⟨wr, rfl⟩
        go_wp2
        go_loopw [7, 8] (fun nv iv wr => ∃ (i nn : Nat) (r' : Rs), 1 ≤ i ∧ i ≤ k ∧ nv = .int .i64 nn ∧ iv = .int .i64 i ∧ nn < 2 ^ i ∧ Hid (Ir B W xb rb wr v (.slice ao n cap) r' (lim + 17 + i)) ∧ Hid (lowR BS base (k - i) nn r' = lowR BS base (k - 1) 1 r3)) (fun _ iv _ => k - (intOf iv).toNat)
        case atStart => exact ⟨1, 1, r3, Nat.le_refl _, by omega, rfl, rfl, by decide, (unhide HW3).lift (by omega), rfl⟩
        case round =>
          clear HW3
          obtain ⟨i, nn, r', hi1, hik, rfl, rfl, hnn, hw, hlow⟩ := hrel
          have hpw : (2 : Nat) ^ i ≤ 2 ^ 15 := Nat.pow_le_pow_right (by decide) (by omega)
          have hp15 : (2 : Nat) ^ 15 = 32768 := by decide
          by_cases hlt2 : i < k
          · have hd2 : decide ((i : Int) < (k : Int)) = true := decide_eq_true (by omega)
            have HBK := unhide HBIT wr r' (lim + 17 + i) (base + 18) (unhide hw) (by omega) (by omega)
            rw [c18] at HBK
            have HBK := hide HBK
            have hbk := bitR_le r' (base + 18)
            have hLL := unhide hlow
            rw [show k - i = (k - (i + 1)) + 1 by omega, lowR] at hLL
            obtain ⟨bt, HBT⟩ : ∃ bt, Hid (bitR r' (base + 18) = bt) := ⟨_, rfl⟩
            obtain ⟨r4, HR4⟩ : ∃ r4, Hid (nextR BS r' (base + 18) = r4) := ⟨_, rfl⟩
            rw [unhide HBT, unhide HR4] at HBK hLL
            rw [unhide HBT] at hbk
            have HLN := hide hLL
            have e5 := i64_in (2 * (nn : Int)) (by omega)
            have e6 := i64_in (2 * (nn : Int) + (bt : Int)) (by omega)
            have HNN : Hid (2 * nn + bt < 2 ^ (i + 1)) := by unfold Hid; rw [Nat.pow_succ]; omega
            clear hLL hlow hw hnn hpw
            go_wp2_with fail
            refine (unhide HBK).mono ?_
            rintro e w4 ⟨rfl, hw4⟩
            have HW4 : Hid (Ir B W xb rb w4 v (.slice ao n cap) r4 (lim + 17 + (i + 1))) := hw4.lift (by omega)
            clear hw4 HBK
            go_wp2
            go_roundw
            case rel => exact ⟨i + 1, 2 * nn + bt, r4, by omega, by omega, by go_num, by go_num, unhide HNN, HW4, HLN⟩
            case measure => simp [intOf]; omega
          · obtain rfl : i = k := by omega
            have hd2 : decide ((i : Int) < (i : Int)) = false := by simp
            have hLL := unhide hlow
            rw [Nat.sub_self, lowR] at hLL
            have HRES : Hid (numR BS base r = (if sg = 1 then -(nn : Int) else (nn : Int), r')) := by
              unfold Hid
              rw [unhide HR3, unhide HUE, ← hLL]
            have HZ1 : Hid (z = if sg = 1 then -(nn : Int) else (nn : Int)) := by unfold Hid; rw [← unhide HZ, unhide HRES]
            have HF : Hid (Ir B W xb rb wr v (.slice ao n cap) r9 (lim + 40)) := by
              unfold Hid
              rw [← unhide HR9, unhide HRES]
              exact (unhide hw).lift (show lim + 17 + i ≤ lim + 40 by omega)
            clear hLL hlow hw HRES HR3 HUE HZ HR9
            rcases (show sg = 1 ∨ sg = 0 by omega) with rfl | rfl
            · have e7 := i64_in (-(nn : Int)) (by omega)
              go_wp2
              go_ret
              exact ⟨by rw [unhide HZ1]; rfl, unhide HF⟩
            · go_wp2
              go_ret
              exact ⟨by rw [unhide HZ1]; rfl, unhide HF⟩

theorem readN_len {bz : List Int} {base : Nat} : ∀ (m : Nat) (r : Rs), (numsR (byteS bz) base m r).length = m
  | 0, _ => rfl
  | m + 1, r => by rw [numsR, List.length_cons, readN_len m]

end Go.Proofs.Ytekidfkahpaokaa
