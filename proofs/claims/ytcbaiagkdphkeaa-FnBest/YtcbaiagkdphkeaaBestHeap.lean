/-
  What comes out of the heap is what the specification's merging gives.
-/
import Derived.Test.YtcbaiagkdphkeaaBestPure5
import Derived.Test.YtcbaiagkdphkeaaPairsImpl
namespace Go.Proofs.Ytcbaiagkdphkeaa

/-- The counts of the coins in a thing. -/
def thOf (o : List Nat) (p : Int × List Int) : Th := ⟨p.1, o.map fun s : Nat => ((p.2.count (s : Int) : Nat) : Int)⟩
theorem zip_maps (f g : Nat → Int) : ∀ o : List Nat, List.zipWith (· + ·) (o.map f) (o.map g) = o.map fun s => f s + g s
  | [] => rfl
  | a :: o => by simp [zip_maps f g o]
theorem thOf_pairs (o : List Nat) : ∀ l : List (Int × List Int), (pairsP l).map (thOf o) = pairsG (l.map (thOf o))
  | a :: b :: r => by
    have ih := thOf_pairs o r
    simp only [pairsP, List.map_cons, pairsG, ih]
    congr 1
    simp only [thOf, zip_maps, List.count_append, Int.natCast_add]
  | [a] => by simp [pairsP, pairsG]
  | [] => by simp [pairsP, pairsG]

/-- Merging like the heap. -/
def mergeH : List Hp → List Hp → List Hp
  | [], l₂ => l₂
  | a :: l₁, [] => a :: l₁
  | a :: l₁, b :: l₂ => if a.w ≤ b.w then a :: mergeH l₁ (b :: l₂) else b :: mergeH (a :: l₁) l₂
termination_by l₁ l₂ => l₁.length + l₂.length
theorem mergeH_perm : ∀ (l₁ l₂ : List Hp), (mergeH l₁ l₂).Perm (l₁ ++ l₂)
  | [], l₂ => by simp [mergeH]
  | a :: l₁, [] => by simp [mergeH]
  | a :: l₁, b :: l₂ => by
    rw [mergeH]
    split
    · exact (mergeH_perm l₁ (b :: l₂)).cons a
    · have ih := mergeH_perm (a :: l₁) l₂
      exact (ih.cons b).trans (List.perm_middle (a := b)).symm
termination_by l₁ l₂ => l₁.length + l₂.length
theorem mergeH_th (f : Hp → Th) (hf : ∀ h, (f h).w = h.w) : ∀ (l₁ l₂ : List Hp), (mergeH l₁ l₂).map f = mergeG (l₁.map f) (l₂.map f)
  | [], l₂ => by simp [mergeH, mergeG]
  | a :: l₁, [] => by simp [mergeH, mergeG]
  | a :: l₁, b :: l₂ => by
    rw [mergeH, List.map_cons, List.map_cons, mergeG, hf a, hf b]
    split
    · rw [List.map_cons, mergeH_th f hf l₁ (b :: l₂), List.map_cons]
    · rw [List.map_cons, mergeH_th f hf (a :: l₁) l₂, List.map_cons]
termination_by l₁ l₂ => l₁.length + l₂.length
/-- Strictly one behind the other. -/
def Less2 (a b : Hp) : Prop := ltH a b = true
theorem mergeH_sorted : ∀ (l₁ l₂ : List Hp), l₁.Pairwise Less2 → l₂.Pairwise Less2 → (∀ a ∈ l₁, ∀ b ∈ l₂, a.c < b.c) → (mergeH l₁ l₂).Pairwise Less2
  | [], l₂, _, hb, _ => by rw [mergeH]; exact hb
  | a :: l₁, [], ha, _, _ => by rw [mergeH]; exact ha
  | a :: l₁, b :: l₂, ha, hb, hc => by
    rw [mergeH]
    rw [List.pairwise_cons] at ha hb
    split
    · rename_i h
      rw [List.pairwise_cons]
      refine ⟨fun x hx => ?_, mergeH_sorted l₁ (b :: l₂) ha.2 (by rw [List.pairwise_cons]; exact hb) (fun x hx y hy => hc x (by simp [hx]) y hy)⟩
      have hx2 := (mergeH_perm l₁ (b :: l₂)).subset hx
      have hab : ltH a b = true := by
        have := hc a (by simp) b (by simp)
        simp only [ltH, decide_eq_true_eq]; omega
      rcases List.mem_append.1 hx2 with h1 | h1
      · exact ha.1 x h1
      · rcases List.mem_cons.1 h1 with h2 | h2
        · rw [h2]; exact hab
        · exact ltH_trans hab (hb.1 x h2)
    · rename_i h
      rw [List.pairwise_cons]
      refine ⟨fun x hx => ?_, mergeH_sorted (a :: l₁) l₂ (by rw [List.pairwise_cons]; exact ha) hb.2 (fun x hx y hy => hc x hx y (by simp [hy]))⟩
      have hx2 := (mergeH_perm (a :: l₁) l₂).subset hx
      have hab : ltH b a = true := by simp only [ltH, decide_eq_true_eq]; omega
      rcases List.mem_append.1 hx2 with h1 | h1
      · rcases List.mem_cons.1 h1 with h2 | h2
        · rw [h2]; exact hab
        · exact ltH_trans hab (ha.1 x h2)
      · exact hb.1 x h1
termination_by l₁ l₂ => l₁.length + l₂.length

theorem numH_mem : ∀ (c : Int) (A : List Hp) (x : Hp), x ∈ numH c A → c ≤ x.c ∧ x.c < c + (A.length : Int) ∧ ∃ y ∈ A, x.w = y.w ∧ x.co = y.co ∧ x.cap = y.cap ∧ x.ss = y.ss
  | c, [], x, h => by simp [numH] at h
  | c, a :: A, x, h => by
    rw [numH] at h
    rcases List.mem_cons.1 h with rfl | h
    · exact ⟨by simp, by simp; omega, a, by simp, rfl, rfl, rfl, rfl⟩
    · obtain ⟨h1, h2, y, hy, h3⟩ := numH_mem (c + 1) A x h
      exact ⟨by omega, by simp; omega, y, by simp [hy], h3⟩
theorem numH_sorted : ∀ (c : Int) (A : List Hp), A.Pairwise (fun a b => a.w ≤ b.w) → (numH c A).Pairwise Less2
  | c, [], _ => by simp [numH]
  | c, a :: A, h => by
    rw [List.pairwise_cons] at h
    rw [numH, List.pairwise_cons]
    refine ⟨fun x hx => ?_, numH_sorted (c + 1) A h.2⟩
    obtain ⟨h1, _, y, hy, h3, _⟩ := numH_mem (c + 1) A x hx
    have := h.1 y hy
    simp only [Less2, ltH, decide_eq_true_eq]
    omega
theorem numH_cont : ∀ (c : Int) (A : List Hp), (numH c A).map cont = A.map cont
  | c, [] => rfl
  | c, a :: A => by simp [numH, numH_cont (c + 1) A, cont]

theorem pair_or {α : Type} {R : α → α → Prop} {a b : α} : ∀ {L : List α}, L.Pairwise R → a ∈ L → b ∈ L → a ≠ b → R a b ∨ R b a
  | x :: L, h, ha, hb, hne => by
    rw [List.pairwise_cons] at h
    rcases List.mem_cons.1 ha with ha1 | ha1
    · rcases List.mem_cons.1 hb with hb1 | hb1
      · exact absurd (ha1.trans hb1.symm) hne
      · rw [ha1]; exact .inl (h.1 b hb1)
    · rcases List.mem_cons.1 hb with hb1 | hb1
      · rw [hb1]; exact .inr (h.1 a ha1)
      · exact pair_or h.2 ha1 hb1 hne

/-- Whatever is sorted and has the same things is the merged list. -/
theorem heap_is {R C Q : List Hp} (hp : R.Perm (numH 0 C ++ numH (C.length : Int) Q)) (hs : R.Pairwise (fun a b => ltH b a = false)) (hC : C.Pairwise (fun a b => a.w ≤ b.w)) (hQ : Q.Pairwise (fun a b => a.w ≤ b.w)) :
    R = mergeH (numH 0 C) (numH (C.length : Int) Q) := by
  have hc : ∀ a ∈ numH 0 C, ∀ b ∈ numH (C.length : Int) Q, a.c < b.c := fun a ha b hb => by
    have h1 := numH_mem _ _ _ ha
    have h2 := numH_mem _ _ _ hb
    omega
  have hM := mergeH_sorted _ _ (numH_sorted 0 C hC) (numH_sorted (C.length : Int) Q hQ) hc
  have hP : R.Perm (mergeH (numH 0 C) (numH (C.length : Int) Q)) := hp.trans (mergeH_perm _ _).symm
  refine List.Perm.eq_of_pairwise (le := fun a b => ltH b a = false) (fun a b ha hb h1 h2 => ?_) hs (hM.imp fun {a b} h => ltH_asymm h) hP
  have ha2 := hP.subset ha
  by_cases e : a = b
  · exact e
  · have : Less2 a b ∨ Less2 b a := by
      exact pair_or hM ha2 hb e
    rcases this with h | h
    · rw [Less2, h2] at h; simp at h
    · rw [Less2, h1] at h; simp at h

end Go.Proofs.Ytcbaiagkdphkeaa
