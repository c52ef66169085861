/-
  Bytes that are read as segments are those that are written for what was read, as lists.
-/
import Derived.Test.YticecjodbhhcfaaDoorSegBackPure
namespace Go.Proofs.YticecjodbhhcfaaDoor
open Go.RowKit

theorem stuff_unst : ∀ (l : List Int), stuffL (unst l).1 ++ l.drop (unst l).2 = l
  | [] => by simp [unst, stuffL]
  | [x] => by
    by_cases hx : x = 255
    · simp [unst, stuffL, hx]
    · simp [unst, stuffL, hx]
  | x :: y :: r => by
    by_cases hx : x = 255
    · by_cases hy : y = 0
      · subst hx; subst hy
        have ih := stuff_unst r
        rw [unst, if_pos rfl, if_pos rfl]
        dsimp only
        rw [stuffC, if_pos rfl]
        show 255 :: 0 :: (stuffL (unst r).1 ++ r.drop (unst r).2) = _
        rw [ih]
      · simp [unst, stuffL, hx, hy]
    · have ih := stuff_unst (y :: r)
      rw [unst_other x _ hx]
      dsimp only
      rw [stuffC, if_neg hx]
      show x :: (stuffL (unst (y :: r)).1 ++ (y :: r).drop (unst (y :: r)).2) = _
      rw [ih]
theorem unst_short (l : List Int) : (unst l).2 ≤ 2 * (unst l).1.length := by
  fun_induction unst l <;> simp_all <;> omega

/-- What comes next is ok where it stands, and its bytes are those that stand there. -/
theorem next_read {zs : List Int} {k : Nat} {was : Int} {many : Bool} {m : Int} {d : List Int} {nx : Nat} (hby : ∀ i, 0 ≤ zs.getD i 0 ∧ zs.getD i 0 ≤ 255) (h : nextS zs k was many = .seg m d nx) :
    segOk1 was (m, d) = true ∧ zs.drop k = segBytes (m, d) ++ zs.drop nx := by
  unfold nextS at h
  split at h
  · cases h
  · rename_i h0
    split at h
    · rename_i h1
      have hr := run_next (by omega) h1
      have hsh := unst_short (zs.drop k)
      unfold nextRun at h
      split at h
      · cases h
      · rename_i hf
        split at h
        · cases h
        · split at h
          · cases h
          · rename_i hl
            cases h
            have hk : kindOf 0 = 3 := rfl
            have hft : fitsK was 3 = true := by simpa using hf
            have hsb : segBytes (0, (unst (zs.drop k)).1) = stuffL (unst (zs.drop k)).1 := by unfold segBytes; dsimp only; rw [hk]; rfl
            refine ⟨?_, ?_⟩
            · have hpos : 0 < (unst (zs.drop k)).1.length := by omega
              have hne : (unst (zs.drop k)).1 ≠ [] := by intro e; rw [e] at hpos; simp at hpos
              have hle : (unst (zs.drop k)).1.length ≤ 20000 := by omega
              simp [segOk1, hk, hft, hne, hle]
            · rw [hsb]
              have := stuff_unst (zs.drop k)
              rw [List.drop_drop] at this
              exact this.symm
    · rename_i h1
      have hx : zs.getD k 0 = 255 := by unfold isRun at h1; omega
      split at h
      · cases h
      · rename_i h2
        split at h
        · cases h
        · unfold nextMk at h
          split at h
          · cases h
          · rename_i hq
            have hz : kindOf (zs.getD (k + 1) 0) ≠ 0 := fun e => hq (.inl e)
            have hft : fitsK was (kindOf (zs.getD (k + 1) 0)) = true := by
              cases hc : fitsK was (kindOf (zs.getD (k + 1) 0))
              · exact absurd (.inr hc) hq
              · rfl
            have hkk := drop_at zs k (by omega)
            have hk1 := drop_at zs (k + 1) (by omega)
            split at h
            · cases h
            · split at h
              · rename_i hk2
                cases h
                refine ⟨?_, ?_⟩
                · rw [hk2] at hft
                  unfold segOk1
                  dsimp only
                  rw [hk2, hft]
                  rfl
                · have hsb : segBytes (zs.getD (k + 1) 0, []) = [255, zs.getD (k + 1) 0] := by unfold segBytes; dsimp only; rw [hk2]; rfl
                  rw [hkk, hx, hk1, hsb]
                  rfl
              · rename_i hk2
                unfold nextPart at h
                split at h
                · cases h
                · rename_i h4
                  split at h
                  · cases h
                  · rename_i h5
                    split at h
                    · cases h
                    · rename_i h6
                      cases h
                      have hk3 : kindOf (zs.getD (k + 1) 0) ≠ 3 := by
                        intro e
                        unfold isRun at h1
                        have : zs.getD (k + 1) 0 = 0 := by
                          unfold kindOf at e
                          by_cases h : zs.getD (k + 1) 0 = 0
                          · exact h
                          · rw [if_neg h] at e
                            repeat' split at e
                            all_goals cases e
                        exact h1 (.inr ⟨by omega, this⟩)
                      have hk : kindOf (zs.getD (k + 1) 0) = 1 := by
                        rcases kindOf_cases (zs.getD (k + 1) 0) with e | e | e | e
                        · exact absurd e hz
                        · exact e
                        · exact absurd e hk2
                        · exact absurd e hk3
                      have hdl : ((zs.drop (k + 4)).take (cnt2 zs k)).length = cnt2 zs k := by simp; omega
                      have hk2' := drop_at zs (k + 2) (by omega)
                      have hk3' := drop_at zs (k + 3) (by omega)
                      have y2 := hby (k + 2)
                      have y3 := hby (k + 3)
                      have hcn : (cnt2 zs k : Int) = 256 * zs.getD (k + 2) 0 + zs.getD (k + 3) 0 := by unfold cnt2; omega
                      have e2 : ((cnt2 zs k / 256 : Nat) : Int) = zs.getD (k + 2) 0 := by omega
                      have e3 : ((cnt2 zs k % 256 : Nat) : Int) = zs.getD (k + 3) 0 := by omega
                      refine ⟨?_, ?_⟩
                      · rw [hk] at hft
                        simp only [segOk1, hk, hft, hdl]
                        simp
                        omega
                      · have hsb : segBytes (zs.getD (k + 1) 0, (zs.drop (k + 4)).take (cnt2 zs k)) = [255, zs.getD (k + 1) 0, zs.getD (k + 2) 0, zs.getD (k + 3) 0] ++ (zs.drop (k + 4)).take (cnt2 zs k) := by
                          unfold segBytes; dsimp only; rw [hk, if_pos rfl, hdl, e2, e3]
                        have e5 := List.take_append_drop (cnt2 zs k) (zs.drop (k + 4))
                        rw [List.drop_drop] at e5
                        rw [hkk, hx, hk1, hk2', hk3', hsb]
                        simp only [List.cons_append, List.nil_append]
                        rw [e5]

theorem next_faultP {zs : List Int} {k : Nat} {was : Int} {many : Bool} {c : Int} {a : Nat} (h : nextS zs k was many = .fault c a) : 0 < c := by
  unfold nextS nextRun nextMk nextPart at h
  repeat' split at h
  all_goals cases h
  all_goals decide
theorem fin_bytes {zs : List Int} {k a : Nat} {was : Int} {many : Bool} (h : nextS zs k was many = .fin a) : zs.getD k 0 = 255 ∧ zs.getD (k + 1) 0 = 254 := by
  unfold nextS at h
  split at h
  · cases h
  · split at h
    · unfold nextRun at h
      repeat' split at h
      all_goals cases h
    · rename_i h1
      split at h
      · cases h
      · split at h
        · rename_i h3
          refine ⟨?_, h3⟩
          unfold isRun at h1
          omega
        · unfold nextMk nextPart at h
          repeat' split at h
          all_goals cases h

/-- The kind of the last segment. -/
def lastK : Int → List (Int × List Int) → Int
  | w, [] => w
  | _, s :: r => lastK (kindOf s.1) r
theorem lastK_snoc : ∀ (l : List (Int × List Int)) (w : Int) (s : Int × List Int), lastK w (l ++ [s]) = kindOf s.1
  | [], _, _ => rfl
  | _ :: r, _, s => lastK_snoc r _ s
theorem okFrom_snoc : ∀ (l : List (Int × List Int)) (w : Int) (s : Int × List Int), okFrom w l = true → segOk1 (lastK w l) s = true → okFrom w (l ++ [s]) = true
  | [], w, s, _, h => by simp only [List.nil_append, okFrom, Bool.and_true]; exact h
  | x :: r, w, s, h1, h2 => by
    rw [okFrom, Bool.and_eq_true] at h1
    rw [List.cons_append, okFrom, h1.1, okFrom_snoc r _ s h1.2 h2]
    rfl

theorem from_read : ∀ (f : Nat) (zs : List Int) (k : Nat) (acc xs : List (Int × List Int)) (a : Nat), (∀ i, 0 ≤ zs.getD i 0 ∧ zs.getD i 0 ≤ 255) → k ≤ zs.length → zs.length < f + k → zs = bodyS acc ++ zs.drop k → (bodyS acc).length = k → okFrom 0 acc = true → acc.length ≤ 300 →
    readFrom f zs k (lastK 0 acc) acc = (xs, 0, a) → okFrom 0 xs = true ∧ xs.length ≤ 300 ∧ zs = bodyS xs ++ [255, 254]
  | 0, zs, k, acc, xs, a, _, hk, hf, _, _, _, _, _ => by omega
  | f + 1, zs, k, acc, xs, a, hby, hk, hf, hz, hb, hok, hn, h => by
    rw [readFrom] at h
    cases hnx : nextS zs k (lastK 0 acc) (decide (acc.length = 300)) with
    | fault c a' =>
      rw [hnx] at h
      simp only [Prod.mk.injEq] at h
      have := next_faultP hnx
      omega
    | fin a' =>
      rw [hnx] at h
      dsimp only at h
      have hfb := fin_bounds hnx
      split at h
      · simp only [Prod.mk.injEq] at h
        omega
      · rename_i hlt
        simp only [Prod.mk.injEq] at h
        obtain ⟨rfl, _, _⟩ := h
        refine ⟨hok, hn, ?_⟩
        have h254 : zs.getD k 0 = 255 ∧ zs.getD (k + 1) 0 = 254 := fin_bytes hnx
        have e : zs.drop k = [255, 254] := by
          rw [drop_at zs k (by omega), drop_at zs (k + 1) (by omega), h254.1, h254.2, List.drop_of_length_le (by omega)]
        rw [e] at hz
        exact hz
    | seg m d nx =>
      rw [hnx] at h
      dsimp only at h
      have hnb := next_bounds hnx
      have hrd := next_read hby hnx
      have hne := of_decide_eq_false hnb.2.2.2
      have hbs : bodyS (acc ++ [(m, d)]) = bodyS acc ++ segBytes (m, d) := by simp [bodyS]
      have hz2 : zs = bodyS (acc ++ [(m, d)]) ++ zs.drop nx := by rw [hbs, List.append_assoc, ← hrd.2]; exact hz
      have hl1 := congrArg List.length hrd.2
      simp only [List.length_drop, List.length_append] at hl1
      refine from_read f zs nx (acc ++ [(m, d)]) xs a hby hnb.2.1 (by omega) hz2 (by rw [hbs, List.length_append]; omega) (okFrom_snoc acc 0 (m, d) hok hrd.1) (by simp; omega) ?_
      rw [lastK_snoc]
      exact h

/-- Bytes that are read are those that are written for what was read. -/
theorem written_read (zs : List Int) (xs : List (Int × List Int)) (a : Nat) (hby : ∀ i, 0 ≤ zs.getD i 0 ∧ zs.getD i 0 ≤ 255) (h : readS zs = (xs, 0, a)) : writeS xs = zs := by
  unfold readS at h
  split at h
  · simp at h
  · rename_i hbig
    split at h
    · rename_i hbe
      obtain ⟨h2, h84, h83⟩ := hbe
      have hz : zs = bodyS [] ++ zs.drop 2 := by
        have e1 := drop_at zs 0 (by omega)
        have e2 := drop_at zs 1 (by omega)
        rw [List.drop_zero, e2, h84, h83] at e1
        simpa [bodyS] using e1
      obtain ⟨g1, g2, g3⟩ := from_read (zs.length + 1) zs 2 [] xs a hby h2 (by omega) hz (by simp [bodyS]) rfl (by simp) h
      unfold writeS
      have hl := congrArg List.length g3
      simp only [List.length_append, List.length_cons, List.length_nil] at hl
      rw [if_pos ⟨by simp [okS, g1, g2], by omega⟩]
      exact g3.symm
    · simp at h

end Go.Proofs.YticecjodbhhcfaaDoor
