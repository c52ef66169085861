/-
  A frame's bytes read are the frame, and what is read written are the bytes: plain mathematics.
-/
import Derived.Test.YtoeehfjbnbbijaaFrameRead
namespace Go.Proofs.Ytoeehfjbnbbijaa
open Go.RowKit

theorem getD_app_left (xs ys : List Int) (i : Nat) (h : i < xs.length) : (xs ++ ys).getD i 0 = xs.getD i 0 := by
  rw [List.getD_eq_getElem?_getD, List.getElem?_append_left h, ← List.getD_eq_getElem?_getD]
theorem getD_app_right (xs ys : List Int) (i : Nat) (h : xs.length ≤ i) : (xs ++ ys).getD i 0 = ys.getD (i - xs.length) 0 := by
  rw [List.getD_eq_getElem?_getD, List.getElem?_append_right h, ← List.getD_eq_getElem?_getD]

theorem compBs_getD (C : Nat → Nat → Int) : ∀ k i, i < k → (compBs C k).getD (3 * i) 0 = C i 0 ∧ (compBs C k).getD (3 * i + 1) 0 = 16 * C i 1 + C i 2 ∧ (compBs C k).getD (3 * i + 2) 0 = C i 3
  | 0, i, h => absurd h (by omega)
  | k + 1, i, h => by
    have hl := compBs_len C k
    by_cases e : i = k
    · subst e
      refine ⟨?_, ?_, ?_⟩
      · rw [compBs, getD_app_right _ _ _ (by omega), hl, show 3 * i - 3 * i = 0 by omega]; rfl
      · rw [compBs, getD_app_right _ _ _ (by omega), hl, show 3 * i + 1 - 3 * i = 1 by omega]; rfl
      · rw [compBs, getD_app_right _ _ _ (by omega), hl, show 3 * i + 2 - 3 * i = 2 by omega]; rfl
    · obtain ⟨h0, h1, h2⟩ := compBs_getD C k i (by omega)
      refine ⟨?_, ?_, ?_⟩
      · rw [compBs, getD_app_left _ _ _ (by omega)]; exact h0
      · rw [compBs, getD_app_left _ _ _ (by omega)]; exact h1
      · rw [compBs, getD_app_left _ _ _ (by omega)]; exact h2

theorem frameBs_getD (p wd ht rs : Int) (n : Nat) (C : Nat → Nat → Int) (k i : Nat) : (frameBs p wd ht rs n C k).getD (5 + i) 0 = (compBs C k).getD i 0 := by
  rw [frameBs, getD_app_right _ _ _ (by simp)]
  congr 1
  simp

theorem comp_back {p wd ht rs : Int} {n : Nat} {C : Nat → Nat → Int} (h : ∀ k, k < n → compB (C k) = true) (i : Nat) (hi : i < n) (j : Nat) (hj : j < 4) : compOf (frameBs p wd ht rs n C n) i j = C i j := by
  obtain ⟨h0, h1, h2⟩ := compBs_getD C n i hi
  obtain ⟨_, b1, b2, _⟩ := compB_bounds (h i hi)
  have e : j = 0 ∨ j = 1 ∨ j = 2 ∨ j = 3 := by omega
  rcases e with rfl | rfl | rfl | rfl
  · simp only [compOf, if_pos, frameBs_getD]; exact h0
  · simp only [compOf, Nat.add_assoc, frameBs_getD, h1]; simp; omega
  · simp only [compOf, Nat.add_assoc, frameBs_getD, h1]; simp; omega
  · simp only [compOf, Nat.add_assoc, frameBs_getD, h2]; simp

/-- Two frames whose components agree in their four numbers are well alike. -/
theorem compB_four {c d : Nat → Int} (h : ∀ j, j < 4 → c j = d j) : compB c = compB d := by
  simp only [compB, h 0 (by omega), h 1 (by omega), h 2 (by omega), h 3 (by omega)]
theorem idIn_four {C D : Nat → Nat → Int} {k : Nat} (hk : C k 0 = D k 0) : ∀ m, (∀ i, i < m → C i 0 = D i 0) → idIn C k m = idIn D k m
  | 0, _ => rfl
  | m + 1, h => by simp only [idIn]; rw [idIn_four hk m (fun i hi => h i (by omega)), h m (by omega), hk]
theorem okTo_four {C D : Nat → Nat → Int} : ∀ k, (∀ i, i < k → ∀ j, j < 4 → C i j = D i j) → okTo C k = okTo D k
  | 0, _ => rfl
  | k + 1, h => by
    simp only [okTo]
    rw [okTo_four k (fun i hi => h i (by omega)), compB_four (h k (by omega)), idIn_four (h k (by omega) 0 (by omega)) k (fun i hi => h i (by omega) 0 (by omega))]
theorem sumHV_four {C D : Nat → Nat → Int} : ∀ k, (∀ i, i < k → ∀ j, j < 4 → C i j = D i j) → sumHV C k = sumHV D k
  | 0, _ => rfl
  | k + 1, h => by simp only [sumHV]; rw [sumHV_four k (fun i hi => h i (by omega)), h k (by omega) 1 (by omega), h k (by omega) 2 (by omega)]
theorem frameB_four {p wd ht rs : Int} {n : Nat} {C D : Nat → Nat → Int} (h : ∀ i, i < n → ∀ j, j < 4 → C i j = D i j) : frameB p wd ht rs n C = frameB p wd ht rs n D := by
  simp only [frameB, compsB]; rw [okTo_four n h, sumHV_four n h]

/-- A frame's bytes are read as the frame. -/
theorem frame_read_written {p wd ht rs : Int} {n : Nat} {C : Nat → Nat → Int} (h : frameB p wd ht rs n C = true) : readF (frameBs p wd ht rs n C n) = (true, p, wd, ht, rs, n) := by
  obtain ⟨_, _, hc⟩ := frameB_facts h
  have e4 : (frameBs p wd ht rs n C n).getD 4 0 = (n : Int) := rfl
  have e0 : (frameBs p wd ht rs n C n).getD 0 0 = p := rfl
  have e1 : (frameBs p wd ht rs n C n).getD 1 0 + 1 = wd := by show wd - 1 + 1 = wd; omega
  have e2 : (frameBs p wd ht rs n C n).getD 2 0 + 1 = ht := by show ht - 1 + 1 = ht; omega
  have e3 : (frameBs p wd ht rs n C n).getD 3 0 = rs := rfl
  have hok : readOk (frameBs p wd ht rs n C n) = true := by
    rw [readOk, Bool.and_eq_true]
    refine ⟨decide_eq_true ⟨by rw [frameBs_len]; omega, by rw [frameBs_len, e4]; omega⟩, ?_⟩
    rw [e0, e1, e2, e3, e4, Int.toNat_natCast, frameB_four (comp_back hc)]
    exact h
  rw [readF, if_pos hok, e0, e1, e2, e3, e4, Int.toNat_natCast]

theorem compBs_back {zs : List Int} : ∀ k, 5 + 3 * k ≤ zs.length → zs.take 5 ++ compBs (compOf zs) k = zs.take (5 + 3 * k)
  | 0, _ => by simp [compBs]
  | k + 1, h => by
    rw [compBs, ← List.append_assoc, compBs_back k (by omega)]
    have t : ∀ m, m < zs.length → zs.take (m + 1) = zs.take m ++ [zs.getD m 0] := fun m hm => by
      rw [List.take_add_one, List.getElem?_eq_getElem hm, List.getD_eq_getElem?_getD, List.getElem?_eq_getElem hm]; rfl
    rw [show 5 + 3 * (k + 1) = 5 + 3 * k + 1 + 1 + 1 by omega, t _ (by omega), t _ (by omega), t _ (by omega)]
    simp only [List.append_assoc, List.cons_append, List.nil_append]
    congr 1
    have := Int.mul_ediv_add_emod (zs.getD (5 + 3 * k + 1) 0) 16
    simp [compOf]
    simp at this
    omega

/-- What is read written are the bytes. -/
theorem frame_written_read {zs : List Int} (h : readOk zs = true) :
    writeF (zs.getD 0 0) (zs.getD 1 0 + 1) (zs.getD 2 0 + 1) (zs.getD 3 0) (zs.getD 4 0).toNat (compOf zs) = zs := by
  have h' := h
  rw [readOk, Bool.and_eq_true] at h'
  obtain ⟨hd, hf⟩ := h'
  obtain ⟨h5, hl⟩ := of_decide_eq_true hd
  obtain ⟨_, hn, _⟩ := frameB_facts hf
  rw [writeF, if_pos hf]
  generalize hm : (zs.getD 4 0).toNat = m at *
  have hm4 : zs.getD 4 0 = (m : Int) := by omega
  have head : [zs.getD 0 0, zs.getD 1 0 + 1 - 1, zs.getD 2 0 + 1 - 1, zs.getD 3 0, (m : Int)] = zs.take 5 := by
    rw [← hm4]
    match zs, h5 with
    | a :: b :: c :: d :: e :: r, _ => simp
  rw [frameBs, head, compBs_back m (by omega), List.take_of_length_le (by omega)]

/-- What is written are bytes. -/
theorem compBs_bytes {C : Nat → Nat → Int} : ∀ k, (∀ i, i < k → compB (C i) = true) → ∀ x ∈ compBs C k, 0 ≤ x ∧ x ≤ 255
  | 0, _, x, hx => by simp [compBs] at hx
  | k + 1, h, x, hx => by
    rw [compBs, List.mem_append] at hx
    rcases hx with hx | hx
    · exact compBs_bytes k (fun i hi => h i (by omega)) x hx
    · obtain ⟨c0, c1, c2, c3⟩ := compB_bounds (h k (by omega))
      simp at hx
      rcases hx with rfl | rfl | rfl <;> omega
theorem frameBs_bytes {p wd ht rs : Int} {n : Nat} {C : Nat → Nat → Int} (h : frameB p wd ht rs n C = true) : ∀ x ∈ frameBs p wd ht rs n C n, 0 ≤ x ∧ x ≤ 255 := by
  obtain ⟨⟨hp, hw, hh, _, hs⟩, hn, hc⟩ := frameB_facts h
  intro x hx
  rw [frameBs, List.mem_append] at hx
  rcases hx with hx | hx
  · simp at hx
    rcases hx with rfl | rfl | rfl | rfl | rfl <;> omega
  · exact compBs_bytes n hc x hx

end Go.Proofs.Ytoeehfjbnbbijaa
