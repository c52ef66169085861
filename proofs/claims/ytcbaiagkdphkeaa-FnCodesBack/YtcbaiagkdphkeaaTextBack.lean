/-
  Symbols are read back from the text that the specification makes of them.
-/
import Derived.Test.YtcbaiagkdphkeaaTextSpec
import Derived.Test.YtcbaiagkdphkeaaReadPure
namespace Go.Proofs.Ytcbaiagkdphkeaa
open Go.RowKit

theorem symB_parts {xs : List Int} {s : Int} (h : symB xs s = true) : ∃ t : Nat, s = (t : Int) ∧ t < xs.length ∧ xs.getD t 0 ≠ 0 := by
  unfold symB at h
  rw [Bool.and_eq_true] at h
  have h1 := of_decide_eq_true h.1
  have h2 := of_decide_eq_true h.2
  obtain ⟨t, rfl⟩ := Int.eq_ofNat_of_zero_le h1.1
  rw [Int.toNat_natCast] at h2
  exact ⟨t, rfl, by omega, h2⟩

theorem fieldB_code {xs : List Int} (h : lensB xs = true) {t : Nat} (ht : t < xs.length) : fieldB (codeG xs t) = true := by
  have h1 := (lens_parts h).2.1 t ht
  have h2 := code_fits h ht
  have h3 := code_len xs t
  unfold fieldB
  exact decide_eq_true ⟨by rw [h3]; exact h1, h2⟩

theorem lens_fieldsT {xs : List Int} (h : lensB xs = true) : ∀ ss : List Int, ss.all (symB xs) = true → 0 ≤ lens (fieldsT xs ss) ∧ lens (fieldsT xs ss) ≤ 16 * (ss.length : Int)
  | [], _ => by simp [lens, fieldsT]
  | s :: ss, hs => by
    rw [List.all_cons, Bool.and_eq_true] at hs
    obtain ⟨t, rfl, ht, _⟩ := symB_parts hs.1
    have ih := lens_fieldsT h ss hs.2
    have h1 := (lens_parts h).2.1 t ht
    have h3 := code_len xs t
    have e : lens (fieldsT xs ((t : Int) :: ss)) = (codeG xs t).1 + lens (fieldsT xs ss) := by
      unfold lens fieldsT
      simp
    rw [e, h3, List.length_cons]
    omega

theorem okF_text {xs ss : List Int} (h : lensB xs = true) (hs : ss.all (symB xs) = true) (hl : ss.length ≤ 30000) : okF (fieldsT xs ss) = true := by
  unfold okF
  rw [Bool.and_eq_true]
  refine ⟨?_, decide_eq_true ?_⟩
  · rw [List.all_eq_true]
    intro f hf
    unfold fieldsT at hf
    rw [List.mem_map] at hf
    obtain ⟨s, hs1, rfl⟩ := hf
    obtain ⟨t, rfl, ht, _⟩ := symB_parts (List.all_eq_true.1 hs s hs1)
    rw [Int.toNat_natCast]
    exact fieldB_code h ht
  · have := (lens_fieldsT h ss hs).2
    omega

theorem text_back {xs ss : List Int} (h : lensB xs = true) (hs : ss.all (symB xs) = true) (hl : ss.length ≤ 30000) : readO xs (textG xs ss) (ss.length : Int) = some ss := by
  have hB : textB xs ss = true := by unfold textB; rw [h, hs, decide_eq_true (by omega)]; rfl
  have e1 : fieldsT xs ss = textF xs (ss.map Int.toNat) := by unfold fieldsT textF; rw [List.map_map]; rfl
  have e2 : textG xs ss = packB ([] ++ (allBits (textF xs (ss.map Int.toNat)) ++ [])) := by
    unfold textG
    rw [if_pos hB]
    unfold packed
    rw [if_pos (okF_text h hs hl), e1]
    simp
  have h3 := syms_back h (ss.map Int.toNat) [] [] (fun s hm => by
    rw [List.mem_map] at hm
    obtain ⟨s', hs', rfl⟩ := hm
    obtain ⟨t, rfl, ht, h0⟩ := symB_parts (List.all_eq_true.1 hs s' hs')
    rw [Int.toNat_natCast]
    exact ⟨ht, h0⟩)
  have e3 : (ss.map Int.toNat).map (fun s : Nat => (s : Int)) = ss := by
    rw [List.map_map]
    have : ∀ s ∈ ss, ((fun s : Nat => (s : Int)) ∘ Int.toNat) s = s := fun s hm => by
      obtain ⟨t, rfl, _, _⟩ := symB_parts (List.all_eq_true.1 hs s hm)
      simp
    rw [List.map_congr_left this]
    simp
  rw [e3, List.length_map, ← e2] at h3
  unfold readO
  rw [if_pos ⟨h, by omega, by omega⟩, Int.toNat_natCast]
  exact h3

end Go.Proofs.Ytcbaiagkdphkeaa
