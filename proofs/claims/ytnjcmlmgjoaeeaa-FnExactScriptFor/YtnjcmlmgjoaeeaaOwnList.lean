/-
  Several scripts that are owned, each by itself; and what is copied of them into one.
-/
import Derived.Test.YtnjcmlmgjoaeeaaConcatScan
import Derived.Test.YtnjcmlmgjoaeeaaApartImpl
namespace Go.Proofs.Ytnjcmlmgjoaeeaa
open Go.RowKit

def OwLr (w : World) : List Value → List (List Scn) → List Nat → Prop
  | [], [], F => F = []
  | v :: vs, L :: Ls, F => ∃ F1 F2, OwSs w v L F1 ∧ OwLr w vs Ls F2 ∧ F = F1 ++ F2
  | _, _, _ => False
theorem OwLr.keep {w w' : World} (g : w.grownBy w' none) : ∀ {vs : List Value} {Ls : List (List Scn)} {F : List Nat}, OwLr w vs Ls F → OwLr w' vs Ls F
  | [], [], _, h => h
  | _ :: _, _ :: _, _, ⟨F1, F2, h1, h2, e⟩ => ⟨F1, F2, OwSs.ok.keep h1 g, OwLr.keep g h2, e⟩
theorem OwLr.lt {w : World} : ∀ {vs : List Value} {Ls : List (List Scn)} {F : List Nat}, OwLr w vs Ls F → ∀ x ∈ F, x < w.heap.size
  | [], [], _, h, x, hx => by
    have : _ = [] := h
    rw [this] at hx
    cases hx
  | _ :: _, _ :: _, _, ⟨F1, F2, h1, h2, e⟩, x, hx => by
    rw [e] at hx
    rcases List.mem_append.1 hx with h | h
    · exact OwSs.ok.lt _ _ _ _ h1 x h
    · exact OwLr.lt h2 x h
theorem OwLr.push {w : World} {v : Value} {L : List Scn} {G : List Nat} (o : OwSs w v L G) : ∀ {vs : List Value} {Ls : List (List Scn)} {F : List Nat}, OwLr w vs Ls F → OwLr w (vs ++ [v]) (Ls ++ [L]) (F ++ G)
  | [], [], _, h => ⟨G, [], o, rfl, by have : _ = [] := h; rw [this]; simp⟩
  | _ :: _, _ :: _, _, ⟨F1, F2, h1, h2, e⟩ => ⟨F1, F2 ++ G, h1, OwLr.push o h2, by rw [e, List.append_assoc]⟩
/-- .. none of it below B. -/
def OwB (B : Nat) (w : World) (vs : List Value) (Ls : List (List Scn)) : Prop := ∃ F, OwLr w vs Ls F ∧ F.Nodup ∧ ∀ g ∈ F, B ≤ g
theorem OwB.nil (B : Nat) (w : World) : OwB B w [] [] := ⟨[], rfl, by simp, fun g hg => by cases hg⟩
theorem OwB.keep {B : Nat} {w w' : World} {vs : List Value} {Ls : List (List Scn)} (h : OwB B w vs Ls) (g : w.grownBy w' none) : OwB B w' vs Ls := by
  obtain ⟨F, h1, h2, h3⟩ := h
  exact ⟨F, h1.keep g, h2, h3⟩
theorem OwB.push {B : Nat} {w w' : World} {vs : List Value} {Ls : List (List Scn)} {v : Value} {L : List Scn} {G : List Nat} (h : OwB B w vs Ls) (g : w.grownBy w' none) (o : OwSs w' v L G) (hG : G.Nodup) (hlo : ∀ x ∈ G, w.heap.size ≤ x) (hB : B ≤ w.heap.size) : OwB B w' (vs ++ [v]) (Ls ++ [L]) := by
  obtain ⟨F, h1, h2, h3⟩ := h
  refine ⟨F ++ G, (h1.keep g).push o, List.nodup_append.2 ⟨h2, hG, fun x hx y hy e => ?_⟩, fun x hx => ?_⟩
  · have := h1.lt x hx
    have := hlo y hy
    omega
  · rcases List.mem_append.1 hx with h | h
    · exact h3 x h
    · have := hlo x h; omega

theorem src_of {w : World} {v : Value} {n : Nat} {cs : List Value} {e : TypeId} (h : w.ownsRow 0 e 5 v n cs) (hn : 0 < n) (hone : ∀ u ∈ cs, u.oneCell' = true) : Src w v (n, cs) := by
  obtain ⟨ao, cap, rfl⟩ := own_form h
  obtain ⟨g, rfl, _, _⟩ := own_at h hn
  refine ⟨⟨g, cap, rfl, fun j u hu => ?_⟩, h.1, hone⟩
  have hj : j < cs.length := (List.getElem?_eq_some_iff.1 hu).1
  have hl := h.1
  rw [h.cellAt j (by omega)]
  exact hu

theorem one_of {w : World} {n : Nat} {U : Nat → Nat → Value} {L : List Scn} {Gs : List (List Nat)} (hl : L.length = n) (h : ∀ i (hi : i < L.length), OwScE w (U i) L[i] (Gs.getD i [])) : ∀ u ∈ rowsK n 5 U, u.oneCell' = true := by
  intro u hu
  obtain ⟨c, hc, rfl⟩ := List.getElem_of_mem hu
  rw [rowsK_len] at hc
  have hi : c / 5 < n := by omega
  have e : (rowsK n 5 U)[c]? = some (U (c / 5) (c % 5)) := by
    have := rowsK_get n 5 U (c / 5) (c % 5) hi (by omega)
    rw [show c / 5 * 5 + c % 5 = c by omega] at this
    exact this
  have e2 : (rowsK n 5 U)[c]'(by rw [rowsK_len]; exact hc) = U (c / 5) (c % 5) := by
    rw [List.getElem?_eq_getElem (by rw [rowsK_len]; exact hc)] at e
    exact Option.some.inj e
  rw [e2]
  obtain ⟨⟨e1, e3, e4, e5⟩, ho, _⟩ := h (c / 5) (by omega)
  have hm : c % 5 = 0 ∨ c % 5 = 1 ∨ c % 5 = 2 ∨ c % 5 = 3 ∨ c % 5 = 4 := by omega
  rcases hm with h | h | h | h | h <;> rw [h]
  · obtain ⟨ao, cap, e9⟩ := own_form ho
    rw [e9]; rfl
  · rw [e1]; rfl
  · rw [e3]; rfl
  · rw [e4]; rfl
  · rw [e5]; rfl

theorem OwLr.srcs {w : World} : ∀ {vs : List Value} {Ls : List (List Scn)} {F : List Nat}, OwLr w vs Ls F → (∀ L ∈ Ls, 0 < L.length) → ∃ ps : List (Nat × List Value), ps.length = vs.length ∧ vs.length = Ls.length ∧ (∀ i, i < vs.length → Src w (vs.getD i undef) (ps.getD i (0, []))) ∧ (∀ i, i < vs.length → (ps.getD i (0, [])).1 = (Ls.getD i []).length) ∧
    ∃ (U : Nat → Nat → Value) (Gs : List (List Nat)), Gs.length = Ls.flatten.length ∧ ps.flatMap (·.2) = rowsK Ls.flatten.length 5 U ∧ (∀ j (h : j < Ls.flatten.length), OwScE w (U j) Ls.flatten[j] (Gs.getD j [])) ∧ Gs.flatten.Sublist F
  | [], [], F, h, _ => ⟨[], rfl, rfl, fun i hi => absurd hi (by simp), fun i hi => absurd hi (by simp), fun _ _ => undef, [], rfl, by simp [rowsK], fun j h => absurd h (by simp), by simp⟩
  | v :: vs, L :: Ls, F, ⟨F1, F2, h1, h2, e⟩, hpos => by
    obtain ⟨ps, a1, a0, a2, a3, U, Gs, a4, a5, a6, a7⟩ := OwLr.srcs h2 (fun L' hL' => hpos L' (by simp [hL']))
    obtain ⟨U1, G1, l1, o1, els, rfl⟩ := h1
    have hs := src_of o1 (hpos L (by simp)) (one_of rfl els)
    refine ⟨(L.length, rowsK L.length 5 U1) :: ps, by simp [a1], by simp [a0], fun i hi => ?_, fun i hi => ?_, fun i j => if i < L.length then U1 i j else U (i - L.length) j, G1 ++ Gs, by simp [l1, a4], ?_, fun j hj => ?_, ?_⟩
    · cases i with
      | zero => exact hs
      | succ i => simpa using a2 i (by simpa using hi)
    · cases i with
      | zero => rfl
      | succ i => simpa using a3 i (by simpa using hi)
    · rw [List.flatMap_cons, a5, rowsK_append _ _ 5 (by decide), List.flatten_cons, List.length_append]
    · simp only [List.flatten_cons] at hj ⊢
      by_cases hil : j < L.length
      · have e1 : (fun q => if j < L.length then U1 j q else U (j - L.length) q) = U1 j := by funext q; rw [if_pos hil]
        have e2 : (G1 ++ Gs).getD j [] = G1.getD j [] := by simp [List.getElem?_append_left (show j < G1.length by omega)]
        rw [e1, e2, List.getElem_append_left hil]
        exact els j hil
      · have e1 : (fun q => if j < L.length then U1 j q else U (j - L.length) q) = U (j - L.length) := by funext q; rw [if_neg hil]
        have e2 : (G1 ++ Gs).getD j [] = Gs.getD (j - L.length) [] := by simp [List.getElem?_append_right (show G1.length ≤ j by omega), l1]
        have hj2 : j - L.length < Ls.flatten.length := by rw [List.length_append] at hj; omega
        rw [e1, e2, List.getElem_append_right (by omega)]
        exact a6 (j - L.length) hj2
    · rw [e, List.flatten_append]
      exact List.Sublist.append (List.sublist_append_right _ _) a7

theorem rowC_take (ps : List (Nat × List Value)) : ∀ i, i ≤ ps.length → rowC ps i = (ps.take i).flatMap (·.2)
  | 0, _ => by simp [rowC]
  | i + 1, h => by
    rw [List.take_succ_eq_append_getElem (by omega), List.flatMap_append, ← rowC_take ps i (by omega)]
    simp [rowC, show i < ps.length by omega]
theorem rowC_len {w : World} {vs : List Value} {ps : List (Nat × List Value)} (h : ∀ i, i < vs.length → Src w (vs.getD i undef) (ps.getD i (0, []))) : ∀ i, i ≤ vs.length → (rowC ps i).length = sumC ps i * 5
  | 0, _ => rfl
  | i + 1, hi => by
    have h1 := (h i (by omega)).len
    simp only [rowC, sumC, List.length_append, Nat.add_mul]
    rw [rowC_len h i (by omega), h1]

/-- All of them, one behind the other. -/
theorem OwB.concat {B : Nat} {w : World} {vs : List Value} {Ls : List (List Scn)} (h : OwB B w vs Ls) (hpos : ∀ L ∈ Ls, 0 < L.length) (hmost : ∀ L ∈ Ls, L.length ≤ 100) (hN : vs.length ≤ 100) (h1 : 0 < vs.length) (hB : B ≤ w.heap.size) (g : Nat) (hc : ∀ i, i < vs.length → w.cell? ⟨g, i, none⟩ = some (vs.getD i undef)) :
    Calls Try.prog 71 #[.slice (some ⟨g, 0, none⟩) vs.length vs.length] w fun e w' => ∃ u F, e = .returned u ∧ OwSs w' u Ls.flatten F ∧ F.Nodup ∧ (∀ x ∈ F, B ≤ x) ∧ w.grownBy w' none := by
  obtain ⟨F, hF, nF, lF⟩ := h
  obtain ⟨ps, a1, a0, a2, a3, U, Gs, a4, a5, a6, a7⟩ := hF.srcs hpos
  have hr : rowC ps vs.length = rowsK Ls.flatten.length 5 U := by rw [rowC_take ps _ (by omega), List.take_of_length_le (by omega), a5]
  have hsum : sumC ps vs.length = Ls.flatten.length := by
    have h2 := rowC_len a2 vs.length (Nat.le_refl _)
    rw [hr, rowsK_len] at h2
    omega
  have hat : ∀ i, i < vs.length → Ls.getD i [] ∈ Ls := fun i hi => by
    rw [show Ls.getD i [] = Ls[i]'(by omega) by simp [show i < Ls.length by omega]]
    exact List.getElem_mem _
  have hp : 0 < sumC ps vs.length := by
    have h2 := a3 0 h1
    have h3 := hpos _ (hat 0 h1)
    have h4 := sumC_mono ps 1 vs.length h1
    have h5 : sumC ps 1 = 0 + (ps.getD 0 (0, [])).1 := rfl
    omega
  refine (concatScan g vs.length vs ps hp hN (fun i hi => by rw [a3 i hi]; exact hmost _ (hat i hi)) w hc a2).mono ?_
  rintro e w' ⟨u, rfl, o, gg⟩
  rw [hsum, hr] at o
  refine ⟨u, blk u ++ Gs.flatten, rfl, ⟨U, Gs, a4, own_base o (Nat.zero_le _), fun i hi => OwScE.ok.keep (a6 i hi) gg, rfl⟩, List.nodup_append.2 ⟨blk_nodup u, a7.nodup nF, fun x hx y hy e => ?_⟩, fun x hx => ?_, gg⟩
  · have h2 := (o.lt x (mem_blk.1 hx)).1
    have h3 := hF.lt y (a7.subset hy)
    omega
  · rcases List.mem_append.1 hx with h2 | h2
    · have := (o.lt x (mem_blk.1 h2)).1; omega
    · exact lF x (a7.subset h2)

end Go.Proofs.Ytnjcmlmgjoaeeaa
