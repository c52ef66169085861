/-
  EncodeBins in the specification: the end, and all of it.
-/
import Derived.Test.YtekidfkahpaokaaCoderEnc
namespace Go.Proofs.Ytekidfkahpaokaa
open Go.RowKit

def laysN : Nat → En → En
  | 0, s => s
  | k + 1, s => layN (laysN k s)
theorem OkL.next {s : En} (h : OkL s) : OkL (layN s) := by
  obtain ⟨a1, a2, a3, a4⟩ := lay_ok h
  refine ⟨by omega, a1, ?_⟩
  have := h.room
  rw [a2, a3, Nat.pow_succ]
  omega
theorem lays_ok {s : En} (h : OkL s) : ∀ k, OkL (laysN k s) ∧ (laysN k s).out.length = s.out.length + k
  | 0 => ⟨h, rfl⟩
  | k + 1 => by
    obtain ⟨h1, h2⟩ := lays_ok h k
    have := (lay_ok h1).2.2.1
    exact ⟨h1.next, by show (layN (laysN k s)).out.length = _; omega⟩

theorem put_len1 (s : En) (p b : Nat) : (putE s p b).out.length ≤ s.out.length + 1 := by
  unfold putE wideE
  have hm : (midE s p b).out = s.out := by unfold midE; split <;> rfl
  split
  · show (layN (midE s p b)).out.length ≤ _
    unfold layN
    rw [List.length_cons, hm]
    split
    · rw [carryR_len]; omega
    · omega
  · rw [hm]; omega
theorem like_set {P : List Nat} {c x : Nat} (hc : c < P.length) : (fun y => (P.set c x).getD y 2048) = (fun y => if y = c then x else P.getD y 2048) := by
  funext y
  rw [List.getD_eq_getElem?_getD, List.getElem?_set]
  by_cases e : c = y
  · subst e; simp [hc]
  · rw [if_neg e, if_neg (fun h => e h.symm), List.getD_eq_getElem?_getD]
theorem like_zero (y : Nat) : (List.replicate 400 2048).getD y 2048 = 2048 := by
  rw [List.getD_eq_getElem?_getD, List.getElem?_replicate]
  split <;> rfl
theorem all_bins {fs : List (Int × Int)} (h : fs.all binB = true) (i : Nat) (hi : i < fs.length) : (0 ≤ (fs.getD i (0, 0)).1 ∧ (fs.getD i (0, 0)).1 ≤ 399) ∧ 0 ≤ (fs.getD i (0, 0)).2 ∧ (fs.getD i (0, 0)).2 ≤ 1 := by
  have e : fs.getD i (0, 0) = fs[i] := by simp [hi]
  have h1 := List.all_eq_true.1 h _ (List.getElem_mem hi)
  rw [← e] at h1
  unfold binB at h1
  rw [Bool.and_eq_true] at h1
  exact ⟨of_decide_eq_true h1.1, of_decide_eq_true h1.2⟩
theorem bins_drop {fs : List (Int × Int)} {i : Nat} (hi : i < fs.length) : binsN (fs.drop i) = ((fs.getD i (0, 0)).1.toNat, (fs.getD i (0, 0)).2.toNat) :: binsN (fs.drop (i + 1)) := by
  have e : fs.getD i (0, 0) = fs[i] := by simp [hi]
  rw [List.drop_eq_getElem_cons hi, e]
  rfl
theorem all_takeB {f : Int × Int → Bool} {xs : List (Int × Int)} {k : Nat} (hk : k < xs.length) : (xs.take (k + 1)).all f = ((xs.take k).all f && f (xs.getD k (0, 0))) := by
  rw [List.take_succ_eq_append_getElem hk, List.all_append]
  simp [hk]
theorem all_noB {f : Int × Int → Bool} {xs : List (Int × Int)} {k : Nat} (hk : k < xs.length) (h : f (xs.getD k (0, 0)) = false) : xs.all f = false := by
  cases hx : xs.all f with
  | false => rfl
  | true =>
    have e : xs.getD k (0, 0) = xs[k] := by simp [hk]
    rw [e, List.all_eq_true.1 hx _ (List.getElem_mem hk)] at h
    exact h

end Go.Proofs.Ytekidfkahpaokaa
