/-
  Codes in the specification.
-/
import Derived.Test.YtcbaiagkdphkeaaCodeSpec
import Derived.Test.YtcbaiagkdphkeaaCodesPure
import Derived.Test.YtcbaiagkdphkeaaFieldRows
namespace Go.Proofs.Ytcbaiagkdphkeaa
open Go.RowKit

theorem flat_set : ∀ (L : List (Int × Int)) (k : Nat) (a b : Int), k < L.length → ((flat L).set (k * 2) (.int .i64 a)).set (k * 2 + 1) (.int .i64 b) = flat (L.set k (a, b))
  | p :: L, 0, a, b, _ => by simp [flat]
  | p :: L, k + 1, a, b, h => by
    have ih := flat_set L k a b (by simpa using h)
    have e0 : (k + 1) * 2 = k * 2 + 1 + 1 := by omega
    have e1 : (k + 1) * 2 + 1 = k * 2 + 1 + 1 + 1 := by omega
    rw [e1, e0, flat_cons, List.set_cons_succ, List.set_cons_succ, List.set_cons_succ, List.set_cons_succ, List.set_cons_succ, ih] <;> simp [flat]
theorem flat_zero : ∀ n : Nat, flat (List.replicate n ((0 : Int), (0 : Int))) = List.replicate (n * 2) (.int .i64 0)
  | 0 => rfl
  | n + 1 => by
    have e : (n + 1) * 2 = n * 2 + 1 + 1 := by omega
    rw [List.replicate_succ, flat_cons, flat_zero n, e, List.replicate_succ, List.replicate_succ]
/-- The codes that have been told behind so many lens and symbols. -/
def codT (xs : List Int) (l s t : Nat) : Int × Int := if 0 < xs.getD t 0 ∧ (xs.getD t 0 < (l : Int) ∨ (xs.getD t 0 = (l : Int) ∧ t < s)) then codeG xs t else (0, 0)
def codL (xs : List Int) (l s : Nat) : List (Int × Int) := (List.range xs.length).map (codT xs l s)
theorem codL_len (xs : List Int) (l s : Nat) : (codL xs l s).length = xs.length := by simp [codL]
theorem codL_start (xs : List Int) : codL xs 1 0 = List.replicate xs.length (0, 0) := by
  apply List.ext_getElem?
  intro t
  by_cases h : t < xs.length
  · have e : codT xs 1 0 t = (0, 0) := by unfold codT; rw [if_neg (by omega)]
    simp [codL, h, e]
  · simp [codL, h]
theorem codL_next (xs : List Int) (l : Nat) : codL xs l xs.length = codL xs (l + 1) 0 := by
  unfold codL
  apply List.map_congr_left
  intro t ht
  have ht' := List.mem_range.1 ht
  unfold codT
  by_cases h : 0 < xs.getD t 0 ∧ (xs.getD t 0 < (l : Int) ∨ (xs.getD t 0 = (l : Int) ∧ t < xs.length))
  · rw [if_pos h, if_pos (by omega)]
  · rw [if_neg h, if_neg (by omega)]
theorem codL_skip (xs : List Int) (l s : Nat) (h : xs.getD s 0 ≠ (l : Int)) : codL xs l s = codL xs l (s + 1) := by
  unfold codL
  apply List.map_congr_left
  intro t _
  unfold codT
  by_cases e : t = s
  · subst e
    by_cases h1 : 0 < xs.getD t 0 ∧ (xs.getD t 0 < (l : Int) ∨ (xs.getD t 0 = (l : Int) ∧ t < t))
    · rw [if_pos h1, if_pos (by omega)]
    · rw [if_neg h1, if_neg (by omega)]
  · by_cases h1 : 0 < xs.getD t 0 ∧ (xs.getD t 0 < (l : Int) ∨ (xs.getD t 0 = (l : Int) ∧ t < s))
    · rw [if_pos h1, if_pos (by omega)]
    · rw [if_neg h1, if_neg (by omega)]
theorem codL_set (xs : List Int) (l s : Nat) (hs : s < xs.length) (hl : 1 ≤ l) (h : xs.getD s 0 = (l : Int)) : (codL xs l s).set s ((l : Int), ((firstC xs l + cntL (xs.take s) l : Nat) : Int)) = codL xs l (s + 1) := by
  apply List.ext_getElem?
  intro t
  rw [List.getElem?_set, codL_len]
  by_cases ht : t < xs.length
  · have e1 : (codL xs l s)[t]? = some (codT xs l s t) := by simp [codL, ht]
    have e2 : (codL xs l (s + 1))[t]? = some (codT xs l (s + 1) t) := by simp [codL, ht]
    rw [e1, e2]
    by_cases e : s = t
    · subst e
      rw [if_pos rfl, if_pos hs]
      unfold codT codeG
      rw [if_pos (by omega), if_neg (by omega), h]
      rfl
    · rw [if_neg e]
      unfold codT
      by_cases h1 : 0 < xs.getD t 0 ∧ (xs.getD t 0 < (l : Int) ∨ (xs.getD t 0 = (l : Int) ∧ t < s))
      · rw [if_pos h1, if_pos (by omega)]
      · rw [if_neg h1, if_neg (by omega)]
  · rw [if_neg (by omega), List.getElem?_eq_none (by rw [codL_len]; omega), List.getElem?_eq_none (by rw [codL_len]; omega)]
theorem codL_end {xs : List Int} (h : lensB xs = true) : codL xs 17 0 = codesG xs := by
  unfold codesG codL
  rw [if_pos h]
  apply List.map_congr_left
  intro t ht
  have hb := (lens_parts h).2.1 t (List.mem_range.1 ht)
  unfold codT
  by_cases h0 : 0 < xs.getD t 0
  · rw [if_pos ⟨h0, .inl (by omega)⟩]
  · rw [if_neg (fun h1 => h0 h1.1)]
    unfold codeG
    rw [if_pos (by omega)]

set_option maxRecDepth 20000 in
set_option maxHeartbeats 3200000 in
theorem specCodesOf (ao : Option Addr) (n cap : Nat) (xs : List Int) (w : World) (hr : Rd .i64 w ao n xs) :
    Calls Try.prog 12 #[.slice ao n cap] w fun e w' => ∃ v, e = .returned v ∧ w'.ownsRow w.heap.size 30 2 v (codesG xs).length (flat (codesG xs)) ∧ w.grownBy w' none := by
  have hl := hr.1
  have HR := hide hr
  clear hr
  obtain ⟨b, HB⟩ : ∃ b, Hid (lensB xs = b) := ⟨_, rfl⟩
  cases b with
  | false =>
    have e : codesG xs = [] := by rw [codesG, unhide HB]; rfl
    rw [e]
    have HO0 : Hid ((w.alloc (.cells #[] 30)).ownsRow w.heap.size 30 2 (.slice (some ⟨w.heap.size, 0, none⟩) 0 0) 0 []) := World.ownsRow_lit w #[] 0 (Nat.le_refl _) (by unfold maxLen; omega) rfl
    have HG0 : Hid (w.grownBy (w.alloc (.cells #[] 30)) none) := World.grownBy_alloc _ _ _
    go_enter Try.func12, Try.ntmps12
    go_wp2_with fail
    refine (specLensOk ao n cap xs w (unhide HR) false HB).mono ?_
    rintro e w1 ⟨rfl, rfl⟩
    go_wp2
    go_ret
    exact ⟨_, rfl, unhide HO0, unhide HG0⟩
  | true =>
    have hn : n ≤ 256 := by have := (lens_parts (unhide HB)).1; omega
    have HEND := hide (codL_end (unhide HB))
    have HFIT := hide (codes_fit (unhide HB))
    obtain ⟨R, HRR⟩ : ∃ R, Hid (codesG xs = R) := ⟨_, rfl⟩
    have HRL : Hid (R.length = n) := by unfold Hid; rw [← unhide HRR, codes_len (unhide HB), hl]
    rw [unhide HRR] at HEND
    rw [unhide HRR]
    obtain ⟨i0, hi, hz0, hz1, hz2⟩ := info_parts Try.info30
    have HL := hide hl
    clear hl
    go_enter Try.func12, Try.ntmps12
    go_wp2_with fail
    refine (specLensOk ao n cap xs w (unhide HR) true HB).mono ?_
    rintro e w1 ⟨rfl, rfl⟩
    go_wp2_with (at_make; refine wpList_make_full _ rfl _ _ 26 rfl w1.heap.size 30 i0 (.agg #[.int .i64 0, .int .i64 0]) 2 Try.underlying26 hi hz0 hz1 .i64 .i64 _ _ n rfl rfl rfl rfl (by rw [hz2]; omega) (by unfold maxLen; omega) (Nat.le_refl _) ?_)
    intro w2 hown hgrow
    have HO2 : Hid (w2.ownsRow w1.heap.size 30 2 (.slice (some ⟨w1.heap.size, 0, none⟩) n n) n (flat (codL xs 1 0))) := by
      unfold Hid
      rw [codL_start, unhide HL]
      rw [flat_zero, ← madeFields]
      exact hown
    have HG2 := hide hgrow
    have HRW := hide ((unhide HR).grown hgrow)
    have hs2 : w1.heap.size < w2.heap.size := (hown.lt _ rfl).2
    clear hown hgrow hi hz0 hz1 hz2
    go_wp2
    go_loopw [4, 5] (fun nx lv wr => ∃ (L N : Nat), 1 ≤ L ∧ L ≤ 17 ∧ N ≤ 65536 ∧ lv = .int .i64 L ∧ nx = .int .i64 N ∧ Hid (2 * N = firstC xs L) ∧ Hid (wr.ownsRow w1.heap.size 30 2 (.slice (some ⟨w1.heap.size, 0, none⟩) n n) n (flat (codL xs L 0))) ∧ Hid (w1.grownBy wr none)) (fun _ lv _ => 17 - (intOf lv).toNat)
    case atStart => exact ⟨1, 0, Nat.le_refl _, by omega, by omega, rfl, rfl, rfl, HO2, HG2⟩
    case round =>
      clear HO2 HG2
      obtain ⟨L, N, hL1, hL, hN, rfl, rfl, hF, ho, hg⟩ := hrel
      obtain ⟨wo, rfl⟩ : ∃ wo, wo = wr := ⟨wr, rfl⟩
      by_cases hLt : L ≤ 16
      · have hd1 : decide ((L : Int) ≤ 16) = true := decide_eq_true (by omega)
        have e2 := i64_in (2 * (N : Int)) (by omega)
        have e3 := i64_in ((L : Int) + 1) (by omega)
        have hfit := unhide HFIT L hL1 hLt
        have hpw : 2 ^ L ≤ 65536 := by
          have : 2 ^ L ≤ 2 ^ 16 := Nat.pow_le_pow_right (by omega) hLt
          omega
        have HN2 : Hid (∀ S, S ≤ n → firstC xs L + cntL (xs.take S) L ≤ 65536) := fun S hS => by
          have h1 := cntL_mono xs L (n - S) S (by rw [unhide HL]; omega)
          have e : S + (n - S) = xs.length := by rw [unhide HL]; omega
          rw [e, List.take_length] at h1
          omega
        have HNE : Hid (2 * (firstC xs L + cntL xs L) = firstC xs (L + 1)) := by
          unfold Hid
          show _ = 2 * (firstC xs L + (if L = 0 then 0 else cntL xs L))
          rw [if_neg (by omega)]
        have HF0 : Hid (2 * N = firstC xs L + cntL (xs.take 0) L) := by unfold Hid; rw [unhide hF]; rfl
        obtain ⟨N2, hN2⟩ : ∃ N2, 2 * N = N2 := ⟨_, rfl⟩
        have hN2I : 2 * (N : Int) = (N2 : Int) := by omega
        rw [hN2] at HF0
        clear hF hfit hpw
        go_wp2
        go_loopw [4, 6] (fun nx sv wv => ∃ (S Q : Nat), S ≤ n ∧ Q ≤ 65536 ∧ sv = .int .i64 S ∧ nx = .int .i64 Q ∧ Hid (Q = firstC xs L + cntL (xs.take S) L) ∧ Hid (wv.ownsRow w1.heap.size 30 2 (.slice (some ⟨w1.heap.size, 0, none⟩) n n) n (flat (codL xs L S))) ∧ Hid (w1.grownBy wv none)) (fun _ sv _ => n - (intOf sv).toNat)
        case atStart => exact ⟨0, N2, Nat.zero_le _, by rw [unhide HF0]; exact unhide HN2 0 (Nat.zero_le _), rfl, by first | rfl | (rw [hN2I]), HF0, ho, hg⟩
        case round =>
          clear ho hg HF0
          obtain ⟨S, Q, hS, hQ, rfl, rfl, hQF, hos, hgs⟩ := hrel
          by_cases hSn : S < n
          · have hd2 : decide ((S : Int) < (n : Int)) = true := decide_eq_true (by omega)
            obtain ⟨fb, fo, rfl, hcx⟩ := ((unhide HR).grown (unhide hgs)).2 S hSn
            have hct := cntL_take xs L S (by rw [unhide HL]; exact hSn)
            have hnb := unhide HN2 (S + 1) (by omega)
            have hset := fun h => codL_set xs L S (by rw [unhide HL]; exact hSn) hL1 h
            have hskip := codL_skip xs L S
            have e4 := i64_in ((S : Int) + 1) (by omega)
            have e5 := i64_in ((Q : Int) + 1) (by omega)
            have hSI : (S : Int) < (n : Int) := by omega
            generalize xs.getD S 0 = x at *
            by_cases hx : x = (L : Int)
            · have hxL : (x == (L : Int)) = true := by rw [hx]; simp
              rw [if_pos hx] at hct
              have hst1 := hset hx
              rw [← unhide hQF] at hst1
              have HQ2 : Hid (Q + 1 = firstC xs L + cntL (xs.take (S + 1)) L) := by unfold Hid; rw [hct, unhide hQF]; omega
              have hQ1 : Q + 1 ≤ 65536 := by rw [unhide HQ2]; exact hnb
              have hfs := flat_set (codL xs L S) S (L : Int) (Q : Int) (by rw [codL_len, unhide HL]; exact hSn)
              rw [hst1] at hfs
              have f0 := (unhide hos).frozenAt (S * 2)
              have f1 := (unhide hos).frozenAt (S * 2 + 1)
              have hold : ∀ j, j < n * 2 → ∃ u, wr.cell? ⟨w1.heap.size, j, none⟩ = some u := fun j hj => by rw [(unhide hos).cellAt j hj]; exact ⟨_, List.getElem?_eq_getElem (by rw [(unhide hos).1]; omega)⟩
              obtain ⟨v0, hv0⟩ := hold (S * 2) (by omega)
              obtain ⟨v1, hv1⟩ := hold (S * 2 + 1) (by omega)
              have s0 := (unhide hos).stored (S * 2) (.int .i64 (L : Int))
              have s1 := s0.1.stored (S * 2 + 1) (.int .i64 (Q : Int))
              have HG := hide (grown_new (unhide hgs) (grown_trans s0.2 s1.2) (by intro g e; simp at e; omega))
              have HST := hide s1.1
              rw [hfs] at HST
              clear s0 s1 hos hgs hold hfs hst1 hset hskip hct hQF hnb hx
              go_wp2
              go_roundw
              case rel => exact ⟨S + 1, Q + 1, by omega, hQ1, by go_num, by go_num, HQ2, HST, HG⟩
              case measure => simp [intOf]; omega
            · have hxL : (x == (L : Int)) = false := beq_false_of_ne hx
              rw [if_neg hx] at hct
              have HQ2 : Hid (Q = firstC xs L + cntL (xs.take (S + 1)) L) := by have h1 := unhide hQF; unfold Hid; omega
              have hsk := hskip hx
              have HST := hos
              rw [hsk] at HST
              clear hset hskip hct hQF hnb hsk hos
              go_wp2
              go_roundw
              case rel => exact ⟨S + 1, Q, by omega, hQ, by go_num, rfl, HQ2, HST, hgs⟩
              case measure => simp [intOf]; omega
          · obtain rfl : S = n := by omega
            have hQ3 := unhide hQF
            rw [← unhide HL, List.take_length] at hQ3
            have HQ3 : Hid (2 * Q = firstC xs (L + 1)) := by unfold Hid; rw [hQ3]; exact unhide HNE
            have hnx := codL_next xs L
            rw [unhide HL] at hnx
            have HOX := hos
            rw [hnx] at HOX
            clear hnx hos hQF hQ3
            go_wp2
            go_roundw
            case rel => exact ⟨L + 1, Q, by omega, by omega, hQ, by go_num, rfl, HQ3, HOX, hgs⟩
            case measure => simp [intOf]; omega
      · have hLe : L = 17 := by omega
        have hd1 : decide ((L : Int) ≤ 16) = false := decide_eq_false (by omega)
        have HOX := ho
        rw [hLe, unhide HEND] at HOX
        clear ho hLe
        go_wp2
        go_ret
        exact ⟨_, rfl, by rw [unhide HRL]; exact unhide HOX, unhide hg⟩

end Go.Proofs.Ytcbaiagkdphkeaa
