/-
  Texts of codes in the program.
-/
import Derived.Test.YtcbaiagkdphkeaaTextSpec
import Derived.Test.YtcbaiagkdphkeaaCodesImpl
import Derived.Test.YtcbaiagkdphkeaaPackBits
namespace Go.Proofs.Ytcbaiagkdphkeaa
open Go.RowKit

/-- A symbol that has one of these codes. -/
def okS (C : List (Int × Int)) (s : Int) : Bool := decide (0 ≤ s ∧ s ≤ (C.length : Int) - 1) && decide ((C.getD s.toNat (0, 0)).1 ≠ 0)
def fieldsC (C : List (Int × Int)) (ss : List Int) : List (Int × Int) := ss.map fun s => C.getD s.toNat (0, 0)
theorem packed_nil : packed [] = [] := by decide
theorem text_codes (xs ss : List Int) : textG xs ss = if ss.length ≤ 60000 ∧ ss.all (okS (codesG xs)) = true then packed (fieldsC (codesG xs) ss) else [] := by
  cases hb : lensB xs with
  | false =>
    have e : textG xs ss = [] := by rw [textG, textB, hb]; rfl
    have hC : codesG xs = [] := by rw [codesG, hb]; rfl
    rw [e, hC]
    split
    · rename_i h
      cases ss with
      | nil => exact packed_nil.symm
      | cons s ss =>
        have h1 := List.all_eq_true.1 h.2 s (by simp)
        unfold okS at h1
        rw [decide_eq_false (by simp; omega)] at h1
        simp at h1
    · rfl
  | true =>
    have hl := codes_len hb
    have hok : ∀ s, okS (codesG xs) s = symB xs s := fun s => by
      unfold okS symB
      rw [hl]
      by_cases h : 0 ≤ s ∧ s ≤ (xs.length : Int) - 1
      · have hs : s.toNat < xs.length := by omega
        rw [codes_at hb s.toNat hs, code_len]
      · rw [decide_eq_false h]; rfl
    have hok2 : ss.all (okS (codesG xs)) = ss.all (symB xs) := by congr 1; funext s; exact hok s
    unfold textG textB
    rw [hb, hok2, Bool.true_and]
    by_cases h1 : ss.length ≤ 60000
    · cases h2 : ss.all (symB xs) with
      | false => rw [if_neg (by simp), if_neg (by simp)]
      | true =>
        rw [decide_eq_true h1, Bool.true_and, if_pos rfl, if_pos ⟨h1, rfl⟩]
        congr 1
        unfold fieldsT fieldsC
        apply List.map_congr_left
        intro s hs
        have h3 := List.all_eq_true.1 h2 s hs
        unfold symB at h3
        rw [Bool.and_eq_true] at h3
        have h4 := of_decide_eq_true h3.1
        exact (codes_at hb s.toNat (by omega)).symm
    · rw [decide_eq_false h1, if_neg (by simp), if_neg (fun h => h1 h.1)]
theorem fieldsC_take {C : List (Int × Int)} {ss : List Int} {k : Nat} (h : k < ss.length) : fieldsC C (ss.take (k + 1)) = fieldsC C (ss.take k) ++ [C.getD (ss.getD k 0).toNat (0, 0)] := by
  unfold fieldsC
  rw [List.take_succ_eq_append_getElem h, List.map_append]
  simp [h]

set_option maxRecDepth 20000 in
set_option maxHeartbeats 3200000 in
theorem implCodeText (ao : Option Addr) (n cap : Nat) (xs : List Int) (so : Option Addr) (m sc : Nat) (ss : List Int) (w : World) (hr : Rd .i64 w ao n xs) (hs : Rd .i64 w so m ss) (hn : n ≤ 1048576) (hm0 : m ≤ 1048576) :
    Calls Try.prog 24 #[.slice ao n cap, .slice so m sc] w fun e w' => ∃ v, e = .returned v ∧ w'.ownsRow w.heap.size 5 1 v (textG xs ss).length ((textG xs ss).map (Value.int .u8)) ∧ w.grownBy w' none := by
  have hl2 := hs.1
  have HR := hide hr
  have HS := hide hs
  clear hr hs
  have htc := text_codes xs ss
  obtain ⟨C, HC⟩ : ∃ C, Hid (codesG xs = C) := ⟨_, rfl⟩
  obtain ⟨T, HT⟩ : ∃ T, Hid (textG xs ss = T) := ⟨_, rfl⟩
  rw [unhide HC, unhide HT] at htc
  rw [unhide HT]
  have HTC := hide htc
  have HL2 := hide hl2
  clear htc
  by_cases hm : m ≤ 60000
  · have hmd : decide ((60000 : Int) < (m : Int)) = false := decide_eq_false (by omega)
    obtain ⟨i0, hi, hz0, hz1, hz2⟩ := info_parts Try.info30
    have hCl : C.length ≤ 256 := by
      rw [← unhide HC]
      cases hb : lensB xs with
      | false => rw [codesG, hb]; simp
      | true => rw [codes_len hb]; exact (lens_parts hb).1
    have HCL := hide hCl
    clear hl2 hCl
    go_enter Try.func24, Try.ntmps24
    go_wp2_with fail
    refine (implCodesOf ao n cap xs w (unhide HR) hn).mono ?_
    rw [unhide HC]
    rintro e w1 ⟨v, rfl, o1, g1⟩
    obtain ⟨co, cc, rfl⟩ := own_form o1
    have HRC : Hid (RdF w1 co C.length C) := own_rdF o1
    have HG1 := hide g1
    have HS1 := hide ((unhide HS).grown g1)
    clear o1 g1
    obtain ⟨N, HN⟩ : ∃ N, Hid (C.length = N) := ⟨_, rfl⟩
    rw [unhide HN] at HRC ⊢
    have hN : N ≤ 256 := by rw [← unhide HN]; exact unhide HCL
    go_wp2_with (at_make; refine wpList_make_own _ rfl _ _ 26 rfl w1.heap.size 30 i0 (.agg #[.int .i64 0, .int .i64 0]) 2 Try.underlying26 hi hz0 hz1 .i64 .i64 _ m rfl rfl (by omega) (by rw [hz2]; omega) (by unfold maxLen; omega) (Nat.le_refl _) ?_)
    intro w2 hown hgrow
    have HO3 : Hid (w2.ownsRow w1.heap.size 30 2 (.slice (some ⟨w1.heap.size, 0, none⟩) 0 m) ([] : List (Int × Int)).length (flat [])) := hown
    have HG3 := hide hgrow
    clear hown hgrow hi hz0 hz1 hz2
    go_wp2
    go_loopw [6, 19] (fun v i wr => ∃ (k : Nat) (F : List (Int × Int)), k ≤ m ∧ i = .int .i64 k ∧ Hid (wr.ownsRow w1.heap.size 30 2 v F.length (flat F)) ∧ Hid (F = fieldsC C (ss.take k)) ∧ Hid ((ss.take k).all (okS C) = true) ∧ Hid (w1.grownBy wr none)) (fun _ i _ => m - (intOf i).toNat)
    case atStart => exact ⟨0, [], Nat.zero_le _, rfl, HO3, rfl, rfl, HG3⟩
    case round =>
      clear HO3 HG3
      obtain ⟨k, F, hk, rfl, ho, hF, hA, hg⟩ := hrel
      have hFl : F.length ≤ 60000 := by rw [unhide hF, fieldsC, List.length_map, List.length_take]; omega
      obtain ⟨fo, fc, rfl⟩ := own_form (unhide ho)
      by_cases hkm : k < m
      · obtain ⟨sb, sf, rfl, hcs⟩ := ((unhide HS1).grown (unhide hg)).2 k hkm
        have hks : k < ss.length := by rw [unhide HL2]; exact hkm
        have hal := all_takeS (f := okS C) (xs := ss) (k := k) hks
        have hft := fieldsC_take (C := C) (ss := ss) (k := k) hks
        have hnot : okS C (ss.getD k 0) = false → T = [] := fun h => by
          rw [unhide HTC]
          have : ss.all (okS C) = false := by
            cases hx : ss.all (okS C) with
            | false => rfl
            | true =>
              have e : ss.getD k 0 = ss[k] := by simp [hks]
              rw [e, List.all_eq_true.1 hx _ (List.getElem_mem hks)] at h
              exact h
          rw [this, if_neg (by simp)]
        generalize ss.getD k 0 = s at *
        have e1 := i64_in ((N : Int) - 1) (by omega)
        have e2 := i64_in ((k : Int) + 1) (by omega)
        have hkI : (k : Int) < (m : Int) := by omega
        by_cases hin : 0 ≤ s ∧ s ≤ (N : Int) - 1
        · have HD : Hid (decide (0 ≤ s ∧ s ≤ (N : Int) - 1) = true) := decide_eq_true hin
          obtain ⟨t, rfl⟩ := Int.eq_ofNat_of_zero_le hin.1
          have htn : t < N := by omega
          obtain ⟨cb, cf, hcoe, cc0, cc1⟩ := ((unhide HRC).grown (unhide hg)).2 t htn
          have hsy : okS C (t : Int) = decide ((C.getD t (0, 0)).1 ≠ 0) := by
            unfold okS
            rw [unhide HN, decide_eq_true hin, Int.toNat_natCast]; rfl
          rw [Int.toNat_natCast] at hft
          rw [← unhide hF] at hft
          generalize C.getD t (0, 0) = cd at *
          obtain ⟨p, q⟩ := cd
          dsimp only at cc0 cc1 hsy
          have htI : (t : Int) < (N : Int) := by omega
          subst hcoe
          by_cases hx : p = 0
          · subst hx
            have hT := hnot (by rw [hsy]; simp)
            subst hT
            have HF := hide (grown_trans (unhide HG1) (unhide hg))
            clear hnot hal hft hsy
            go_wp2_with fail
            refine (inRange8 (t : Int) 0 _ true HD _).mono ?_
            rintro e w5 ⟨rfl, rfl⟩
            go_wp2
            go_ret
            exact ⟨_, rfl, ⟨rfl, .inl ⟨rfl, rfl⟩⟩, unhide HF⟩
          · have hx0 : (p == 0) = false := beq_false_of_ne hx
            have HA2 : Hid ((ss.take (k + 1)).all (okS C) = true) := by
              unfold Hid; rw [hal, unhide hA, hsy, decide_eq_true hx]; rfl
            obtain ⟨F2, HF2⟩ : ∃ F2, Hid (F ++ [(p, q)] = F2) := ⟨_, rfl⟩
            have HF3 : Hid (F2 = fieldsC C (ss.take (k + 1))) := by unfold Hid; rw [hft, unhide HF2]
            clear hnot hal hft hsy hx hA hF
            go_wp2_with fail
            refine (inRange8 (t : Int) 0 _ true HD _).mono ?_
            rintro e w5 ⟨rfl, rfl⟩
            go_wp2_with (at_builtin; refine append_fd rfl _ _ rfl w1 (.slice fo F.length fc) F rfl (unhide ho) p q rfl (by omega) (unhide hg) F2 (unhide HF2) ?_)
            intro v7 w7 o7 g7 _
            obtain ⟨so7, sc7, rfl⟩ := own_form o7
            have HO7 := hide o7
            have HG7 := hide g7
            clear o7 g7 ho hg
            go_wp2
            go_roundw
            case rel => exact ⟨k + 1, F2, by omega, by go_num, HO7, HF3, HA2, HG7⟩
            case measure => simp [intOf]; omega
        · have HD : Hid (decide (0 ≤ s ∧ s ≤ (N : Int) - 1) = false) := decide_eq_false hin
          have hT := hnot (by unfold okS; rw [unhide HN, decide_eq_false hin]; rfl)
          subst hT
          have HF := hide (grown_trans (unhide HG1) (unhide hg))
          clear hnot hal hft
          go_wp2_with fail
          refine (inRange8 s 0 _ false HD _).mono ?_
          rintro e w5 ⟨rfl, rfl⟩
          go_wp2
          go_ret
          exact ⟨_, rfl, ⟨rfl, .inl ⟨rfl, rfl⟩⟩, unhide HF⟩
      · obtain rfl : k = m := by omega
        have hall : ss.all (okS C) = true := by
          have h := unhide hA
          rw [← unhide HL2, List.take_length] at h
          exact h
        have hFF : F = fieldsC C ss := by
          have h := unhide hF
          rw [← unhide HL2, List.take_length] at h
          exact h
        have HPT : Hid (packed F = T) := by unfold Hid; rw [hFF, unhide HTC, if_pos ⟨by rw [unhide HL2]; exact hm, hall⟩]
        have HRF : Hid (RdF wr fo F.length F) := own_rdF (unhide ho)
        clear hall hFF hF hA
        go_wp2_with fail
        refine (implPackBits fo F.length fc F wr (unhide HRF) (by omega)).mono ?_
        rw [unhide HPT]
        rintro e w8 ⟨bo8, c8, rfl, o8, g8⟩
        have HO8 := hide (own_base o8 (base' := w.heap.size) (by have h1 := (unhide HG1).size; have h2 := (unhide hg).size; omega))
        have HG8 := hide (grown_trans (unhide HG1) (grown_trans (unhide hg) g8))
        clear o8 g8
        go_wp2
        go_ret
        exact ⟨_, rfl, unhide HO8, unhide HG8⟩
  · have hmd : decide ((60000 : Int) < (m : Int)) = true := decide_eq_true (by omega)
    have hT : T = [] := by rw [unhide HTC, if_neg (fun h => hm (by rw [← hl2]; exact h.1))]
    subst hT
    go_enter Try.func24, Try.ntmps24
    go_wp2
    go_ret
    exact ⟨_, rfl, ⟨rfl, .inl ⟨rfl, rfl⟩⟩, World.grownBy.refl _ _⟩

end Go.Proofs.Ytcbaiagkdphkeaa
