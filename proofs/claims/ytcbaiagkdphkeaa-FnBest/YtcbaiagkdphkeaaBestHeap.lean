/-
  What comes out of the heap is what the specification's merging gives.
-/
import Derived.Test.YtcbaiagkdphkeaaBestPure5
import Derived.Test.YtcbaiagkdphkeaaPairsImpl
namespace Go.Proofs.Ytcbaiagkdphkeaa

/-- The counts of the coins in a thing. -/
def thOf (o : List Nat) (p : Int × List Int) : Th := ⟨p.1, o.map fun s : Nat => ((p.2.count (s : Int) : Nat) : Int)⟩
theorem zip_maps (f g : Nat → Int) : ∀ o : List Nat, List.zipWith (· + ·) (o.map f) (o.map g) = o.map fun s => f s + g s
  | [] => rfl
  | a :: o => by simp [zip_maps f g o]
theorem thOf_pairs (o : List Nat) : ∀ l : List (Int × List Int), (pairsP l).map (thOf o) = pairsG (l.map (thOf o))
  | a :: b :: r => by
    have ih := thOf_pairs o r
    simp only [pairsP, List.map_cons, pairsG, ih]
    congr 1
    simp only [thOf, zip_maps, List.count_append, Int.natCast_add]
  | [a] => by simp [pairsP, pairsG]
  | [] => by simp [pairsP, pairsG]

/-- Merging like the heap. -/
def mergeH : List Hp → List Hp → List Hp
  | [], l₂ => l₂
  | a :: l₁, [] => a :: l₁
  | a :: l₁, b :: l₂ => if a.w ≤ b.w then a :: mergeH l₁ (b :: l₂) else b :: mergeH (a :: l₁) l₂
termination_by l₁ l₂ => l₁.length + l₂.length
theorem mergeH_perm : ∀ (l₁ l₂ : List Hp), (mergeH l₁ l₂).Perm (l₁ ++ l₂)
  | [], l₂ => by simp [mergeH]
  | a :: l₁, [] => by simp [mergeH]
  | a :: l₁, b :: l₂ => by
    rw [mergeH]
    split
    · exact (mergeH_perm l₁ (b :: l₂)).cons a
    · have ih := mergeH_perm (a :: l₁) l₂
      exact (ih.cons b).trans (List.perm_middle (a := b)).symm
termination_by l₁ l₂ => l₁.length + l₂.length
theorem mergeH_th (f : Hp → Th) (hf : ∀ h, (f h).w = h.w) : ∀ (l₁ l₂ : List Hp), (mergeH l₁ l₂).map f = mergeG (l₁.map f) (l₂.map f)
  | [], l₂ => by simp [mergeH, mergeG]
  | a :: l₁, [] => by simp [mergeH, mergeG]
  | a :: l₁, b :: l₂ => by
    rw [mergeH, List.map_cons, List.map_cons, mergeG, hf a, hf b]
    split
    · rw [List.map_cons, mergeH_th f hf l₁ (b :: l₂), List.map_cons]
    · rw [List.map_cons, mergeH_th f hf (a :: l₁) l₂, List.map_cons]
termination_by l₁ l₂ => l₁.length + l₂.length
/-- Strictly one behind the other. -/
def Less2 (a b : Hp) : Prop := ltH a b = true
theorem mergeH_sorted : ∀ (l₁ l₂ : List Hp), l₁.Pairwise Less2 → l₂.Pairwise Less2 → (∀ a ∈ l₁, ∀ b ∈ l₂, a.c < b.c) → (mergeH l₁ l₂).Pairwise Less2
  | [], l₂, _, hb, _ => by rw [mergeH]; exact hb
  | a :: l₁, [], ha, _, _ => by rw [mergeH]; exact ha
  | a :: l₁, b :: l₂, ha, hb, hc => by
    rw [mergeH]
    rw [List.pairwise_cons] at ha hb
    split
    · rename_i h
      rw [List.pairwise_cons]
      refine ⟨fun x hx => ?_, mergeH_sorted l₁ (b :: l₂) ha.2 (by rw [List.pairwise_cons]; exact hb) (fun x hx y hy => hc x (by simp [hx]) y hy)⟩
      have hx2 := (mergeH_perm l₁ (b :: l₂)).subset hx
      have hab : ltH a b = true := by
        have := hc a (by simp) b (by simp)
        simp only [ltH, decide_eq_true_eq]; omega
      rcases List.mem_append.1 hx2 with h1 | h1
      · exact ha.1 x h1
      · rcases List.mem_cons.1 h1 with h2 | h2
        · rw [h2]; exact hab
        · exact ltH_trans hab (hb.1 x h2)
    · rename_i h
      rw [List.pairwise_cons]
      refine ⟨fun x hx => ?_, mergeH_sorted (a :: l₁) l₂ (by rw [List.pairwise_cons]; exact ha) hb.2 (fun x hx y hy => hc x hx y (by simp [hy]))⟩
      have hx2 := (mergeH_perm (a :: l₁) l₂).subset hx
      have hab : ltH b a = true := by simp only [ltH, decide_eq_true_eq]; omega
      rcases List.mem_append.1 hx2 with h1 | h1
      · rcases List.mem_cons.1 h1 with h2 | h2
        · rw [h2]; exact hab
        · exact ltH_trans hab (ha.1 x h2)
      · exact hb.1 x h1
termination_by l₁ l₂ => l₁.length + l₂.length

theorem numH_mem : ∀ (c : Int) (A : List Hp) (x : Hp), x ∈ numH c A → c ≤ x.c ∧ x.c < c + (A.length : Int) ∧ ∃ y ∈ A, x.w = y.w ∧ x.co = y.co ∧ x.cap = y.cap ∧ x.ss = y.ss
  | c, [], x, h => by simp [numH] at h
  | c, a :: A, x, h => by
    rw [numH] at h
    rcases List.mem_cons.1 h with rfl | h
    · exact ⟨by simp, by simp; omega, a, by simp, rfl, rfl, rfl, rfl⟩
    · obtain ⟨h1, h2, y, hy, h3⟩ := numH_mem (c + 1) A x h
      exact ⟨by omega, by simp; omega, y, by simp [hy], h3⟩
theorem numH_sorted : ∀ (c : Int) (A : List Hp), A.Pairwise (fun a b => a.w ≤ b.w) → (numH c A).Pairwise Less2
  | c, [], _ => by simp [numH]
  | c, a :: A, h => by
    rw [List.pairwise_cons] at h
    rw [numH, List.pairwise_cons]
    refine ⟨fun x hx => ?_, numH_sorted (c + 1) A h.2⟩
    obtain ⟨h1, _, y, hy, h3, _⟩ := numH_mem (c + 1) A x hx
    have := h.1 y hy
    simp only [Less2, ltH, decide_eq_true_eq]
    omega
theorem numH_cont : ∀ (c : Int) (A : List Hp), (numH c A).map cont = A.map cont
  | c, [] => rfl
  | c, a :: A => by simp [numH, numH_cont (c + 1) A, cont]

theorem pair_or {α : Type} {R : α → α → Prop} {a b : α} : ∀ {L : List α}, L.Pairwise R → a ∈ L → b ∈ L → a ≠ b → R a b ∨ R b a
  | x :: L, h, ha, hb, hne => by
    rw [List.pairwise_cons] at h
    rcases List.mem_cons.1 ha with ha1 | ha1
    · rcases List.mem_cons.1 hb with hb1 | hb1
      · exact absurd (ha1.trans hb1.symm) hne
      · rw [ha1]; exact .inl (h.1 b hb1)
    · rcases List.mem_cons.1 hb with hb1 | hb1
      · rw [hb1]; exact .inr (h.1 a ha1)
      · exact pair_or h.2 ha1 hb1 hne

/-- Whatever is sorted and has the same things is the merged list. -/
theorem heap_is {R C Q : List Hp} (hp : R.Perm (numH 0 C ++ numH (C.length : Int) Q)) (hs : R.Pairwise (fun a b => ltH b a = false)) (hC : C.Pairwise (fun a b => a.w ≤ b.w)) (hQ : Q.Pairwise (fun a b => a.w ≤ b.w)) :
    R = mergeH (numH 0 C) (numH (C.length : Int) Q) := by
  have hc : ∀ a ∈ numH 0 C, ∀ b ∈ numH (C.length : Int) Q, a.c < b.c := fun a ha b hb => by
    have h1 := numH_mem _ _ _ ha
    have h2 := numH_mem _ _ _ hb
    omega
  have hM := mergeH_sorted _ _ (numH_sorted 0 C hC) (numH_sorted (C.length : Int) Q hQ) hc
  have hP : R.Perm (mergeH (numH 0 C) (numH (C.length : Int) Q)) := hp.trans (mergeH_perm _ _).symm
  refine List.Perm.eq_of_pairwise (le := fun a b => ltH b a = false) (fun a b ha hb h1 h2 => ?_) hs (hM.imp fun {a b} h => ltH_asymm h) hP
  have ha2 := hP.subset ha
  by_cases e : a = b
  · exact e
  · have : Less2 a b ∨ Less2 b a := by
      exact pair_or hM ha2 hb e
    rcases this with h | h
    · rw [Less2, h2] at h; simp at h
    · rw [Less2, h1] at h; simp at h
/-- A coin's weight and symbol. -/
def coinP (fs : List Int) (s : Nat) : Int × List Int := (fs.getD s 0, [(s : Int)])
/-- The coins in the order of the symbols, of the first k. -/
def coinsTo (fs : List Int) : Nat → List Nat
  | 0 => []
  | k + 1 => if 0 < fs.getD k 0 then coinsTo fs k ++ [k] else coinsTo fs k
theorem coinsTo_lt (fs : List Int) : ∀ k s, s ∈ coinsTo fs k → s < k
  | 0, s, h => by simp [coinsTo] at h
  | k + 1, s, h => by
    rw [coinsTo] at h
    split at h
    · rcases List.mem_append.1 h with h | h
      · have := coinsTo_lt fs k s h; omega
      · rw [List.mem_singleton] at h; omega
    · have := coinsTo_lt fs k s h; omega
theorem coinsTo_len (fs : List Int) : ∀ k, (coinsTo fs k).length ≤ k
  | 0 => Nat.le_refl _
  | k + 1 => by
    have := coinsTo_len fs k
    rw [coinsTo]
    split
    · rw [List.length_append]; simp; omega
    · omega
theorem coinsTo_up (fs : List Int) : ∀ k, (coinsTo fs k).Pairwise (· < ·)
  | 0 => List.Pairwise.nil
  | k + 1 => by
    rw [coinsTo]
    split
    · refine List.pairwise_append.2 ⟨coinsTo_up fs k, by simp, fun a ha b hb => ?_⟩
      rw [List.mem_singleton] at hb
      rw [hb]; exact coinsTo_lt fs k a ha
    · exact coinsTo_up fs k
/-- As the specification orders them. -/
def ordR (fs : List Int) (s t : Nat) : Prop := fs.getD s 0 < fs.getD t 0 ∨ (fs.getD s 0 = fs.getD t 0 ∧ s < t)
theorem putAt_perm (l : List Nat) (k i : Nat) : (putAt l k i).Perm (l ++ [i]) := by
  unfold putAt
  refine (List.perm_middle (a := i) (l₁ := l.take k) (l₂ := l.drop k)).trans ?_
  rw [List.take_append_drop]
  exact (List.perm_append_comm (l₁ := [i]) (l₂ := l))
theorem order_perm {fs : List Int} (h : ∀ s, 0 ≤ fs.getD s 0) : ∀ k, (orderTo fs k).Perm (coinsTo fs k)
  | 0 => List.Perm.refl _
  | k + 1 => by
    have ih := order_perm h k
    have h0 := h k
    unfold orderTo coinsTo
    by_cases e : fs.getD k 0 = 0
    · rw [if_pos e, if_neg (by omega)]; exact ih
    · rw [if_neg e, if_pos (by omega)]
      exact (putAt_perm _ _ _).trans (ih.append_right _)
theorem putAt_ord {fs : List Int} {l : List Nat} {i : Nat} (h : l.Pairwise (ordR fs)) (hr : RisesN (fun s => fs.getD s 0) l) (hlt : ∀ x ∈ l, x < i) : (putAt l (posB (fun s => fs.getD s 0) (fs.getD i 0) l l.length) i).Pairwise (ordR fs) := by
  obtain ⟨P, hP⟩ : ∃ P, posB (fun s => fs.getD s 0) (fs.getD i 0) l l.length = P := ⟨_, rfl⟩
  have hPl : P ≤ l.length := by rw [← hP]; exact posB_le _ _ _ _
  have hab := posB_above (fun s => fs.getD s 0) (fs.getD i 0) l l.length
  have hbe := posB_below (fun s => fs.getD s 0) (fs.getD i 0) l l.length
  rw [hP] at hab hbe ⊢
  unfold putAt
  have hs : (l.take P ++ l.drop P).Pairwise (ordR fs) := by rw [List.take_append_drop]; exact h
  rw [List.pairwise_append] at hs
  refine List.pairwise_append.2 ⟨hs.1, List.pairwise_append.2 ⟨by simp, hs.2.1, fun a ha b hb => ?_⟩, fun a ha b hb => ?_⟩
  · rw [List.mem_singleton] at ha
    subst ha
    obtain ⟨j, hj, rfl⟩ := List.getElem_of_mem hb
    rw [List.length_drop] at hj
    have h1 := hab (P + j) (by omega) (by omega)
    have e : l.getD (P + j) 0 = (l.drop P)[j]'(by rw [List.length_drop]; omega) := by simp [show P + j < l.length by omega]
    rw [e] at h1
    exact .inl h1
  · rcases List.mem_append.1 hb with hb | hb
    · rw [List.mem_singleton] at hb
      subst hb
      obtain ⟨j, hj, rfl⟩ := List.getElem_of_mem ha
      rw [List.length_take] at hj
      have h1 := hbe (by omega)
      have h2 := hr j (P - 1) (by omega) (by omega)
      have e : l.getD j 0 = (l.take P)[j]'(by rw [List.length_take]; omega) := by simp [show j < l.length by omega]
      have h3 := hlt _ (List.mem_of_mem_take ha)
      dsimp only at h1 h2
      rw [e] at h2
      have h4 : fs.getD ((l.take P)[j]'(by rw [List.length_take]; omega)) 0 ≤ fs.getD b 0 := Int.le_trans h2 h1
      unfold ordR
      omega
    · exact hs.2.2 a ha b hb
theorem order_ord (fs : List Int) : ∀ k, (orderTo fs k).Pairwise (ordR fs)
  | 0 => List.Pairwise.nil
  | k + 1 => by
    unfold orderTo
    split
    · exact order_ord fs k
    · exact putAt_ord (order_ord fs k) (order_rises fs k) (fun x hx => ((order_mem fs k x).1 hx).1)

theorem numH_up : ∀ (c : Int) (K : List Hp), K.Pairwise (fun a b => (cont a).2.headD 0 < (cont b).2.headD 0) → (numH c K).Pairwise (fun a b => a.c < b.c ∧ (cont a).2.headD 0 < (cont b).2.headD 0)
  | c, [], _ => by simp [numH]
  | c, x :: K, hq => by
    rw [List.pairwise_cons] at hq
    rw [numH, List.pairwise_cons]
    refine ⟨fun y hy => ?_, numH_up (c + 1) K hq.2⟩
    obtain ⟨h1, _, z, hz, _, _, _, h5⟩ := numH_mem (c + 1) K y hy
    refine ⟨by show c < y.c; omega, ?_⟩
    have := hq.1 z hz
    show x.ss.headD 0 < y.ss.headD 0
    rw [h5]; exact this

/-- What comes out of the heap of coins. -/
theorem coins_are {fs : List Int} (h0 : ∀ s, 0 ≤ fs.getD s 0) {K R : List Hp} {k : Nat} (hK : K.map cont = (coinsTo fs k).map (coinP fs)) (hp : R.Perm (numH 0 K)) (hs : R.Pairwise (fun a b => ltH b a = false)) :
    R.map cont = (orderTo fs k).map (coinP fs) := by
  have hd : ∀ x : Int × List Int, x ∈ (coinsTo fs k).map (coinP fs) → ∃ s : Nat, s ∈ coinsTo fs k ∧ x = coinP fs s := fun x hx => by
    obtain ⟨s, h1, h2⟩ := List.mem_map.1 hx
    exact ⟨s, h1, h2.symm⟩
  -- things that came later have greater symbols
  have hup : (numH 0 K).Pairwise (fun a b => a.c < b.c ∧ (cont a).2.headD 0 < (cont b).2.headD 0) := by
    have hq : K.Pairwise (fun a b => (cont a).2.headD 0 < (cont b).2.headD 0) := by
      rw [← List.pairwise_map (f := cont) (R := fun a b => a.2.headD 0 < b.2.headD 0), hK, List.pairwise_map]
      refine (coinsTo_up fs k).imp fun {a b} h => ?_
      show ((a : Nat) : Int) < ((b : Nat) : Int)
      omega
    exact numH_up 0 K hq
  have hcR : ∀ x ∈ R, ∃ s : Nat, cont x = coinP fs s := fun x hx => by
    have h1 : cont x ∈ (numH 0 K).map cont := List.mem_map.2 ⟨x, hp.subset hx, rfl⟩
    rw [numH_cont, hK] at h1
    obtain ⟨s, _, h2⟩ := hd _ h1
    exact ⟨s, h2⟩
  have hP1 : (R.map cont).Perm ((orderTo fs k).map (coinP fs)) := by
    have h1 := hp.map cont
    rw [numH_cont, hK] at h1
    exact h1.trans ((order_perm h0 k).map _).symm
  refine List.Perm.eq_of_pairwise (le := fun (p q : Int × List Int) => ¬ (q.1 < p.1 ∨ (q.1 = p.1 ∧ q.2.headD 0 < p.2.headD 0))) (fun a b ha hb h1 h2 => ?_) ?_ ?_ hP1
  · obtain ⟨x, hx, rfl⟩ := List.mem_map.1 ha
    obtain ⟨t, ht, rfl⟩ := List.mem_map.1 hb
    obtain ⟨s, e⟩ := hcR x hx
    rw [e] at h1 h2 ⊢
    simp only [coinP, List.headD_cons] at h1 h2
    have : s = t := by omega
    rw [this]
  · rw [List.pairwise_map]
    refine hs.imp_of_mem fun {a b} ha hb h h2 => ?_
    have ha2 := hp.subset ha
    have hb2 := hp.subset hb
    simp only [ltH, decide_eq_false_iff_not] at h
    apply h
    rcases h2 with h2 | ⟨h2, h3⟩
    · exact .inl h2
    · refine .inr ⟨h2, ?_⟩
      by_cases e : a = b
      · rw [e] at h3; exact absurd h3 (by omega)
      · rcases pair_or hup ha2 hb2 e with h4 | h4
        · exact absurd h3 (by omega)
        · exact h4.1
  · rw [List.pairwise_map]
    refine (order_ord fs k).imp fun {a b} h h2 => ?_
    simp only [coinP, List.headD_cons] at h2
    rcases h with h | h <;> omega

/-- The counts so far. -/
def cntS (n : Nat) (F : List Int) : List Int := (List.range n).map fun s : Nat => ((F.count (s : Int) : Nat) : Int)
theorem cntS_len (n : Nat) (F : List Int) : (cntS n F).length = n := by simp [cntS]
theorem cntS_at (n : Nat) (F : List Int) (s : Nat) (h : s < n) : (cntS n F).getD s 0 = ((F.count (s : Int) : Nat) : Int) := by simp [cntS, h]
theorem cntS_nil (n : Nat) : cntS n [] = List.replicate n 0 := by
  apply List.ext_getElem?
  intro s
  by_cases h : s < n
  · simp [cntS, h]
  · simp [cntS, h]
theorem cntS_add (n : Nat) (F : List Int) (x : Nat) : (cntS n F).set x (((F.count (x : Int) : Nat) : Int) + 1) = cntS n (F ++ [(x : Int)]) := by
  apply List.ext_getElem?
  intro s
  rw [List.getElem?_set, cntS_len]
  by_cases h : s < n
  · have e1 : (cntS n F)[s]? = some ((F.count (s : Int) : Nat) : Int) := by simp [cntS, h]
    have e2 : (cntS n (F ++ [(x : Int)]))[s]? = some (((F ++ [(x : Int)]).count (s : Int) : Nat) : Int) := by simp [cntS, h]
    rw [e1, e2, List.count_append]
    by_cases e : x = s
    · subst e
      rw [if_pos rfl, if_pos h]
      simp
    · rw [if_neg e]
      have : List.count (s : Int) [(x : Int)] = 0 := by
        rw [List.count_eq_zero]
        simp
        omega
      rw [this]; simp
  · have e1 : (cntS n F)[s]? = none := by simp [cntS]; omega
    have e2 : (cntS n (F ++ [(x : Int)]))[s]? = none := by simp [cntS]; omega
    rw [e1, e2]
    by_cases e : x = s
    · rw [if_pos e, if_neg (by omega)]
    · rw [if_neg e]

/-- All symbols of the things. -/
def allS (H : List Hp) : List Int := H.flatMap Hp.ss
theorem allS_count (s : Int) : ∀ H : List Hp, (((allS H).count s : Nat) : Int) = sumN H.length fun t => (((at_ H t).ss.count s : Nat) : Int)
  | [] => rfl
  | h :: H => by
    have ih := allS_count s H
    have e : allS (h :: H) = h.ss ++ allS H := by simp [allS]
    rw [e, List.count_append, Int.natCast_add, ih]
    rfl

/-- The coins' counts. -/
theorem coins_th (fs : List Int) {C : List Hp} (hC : C.map cont = (orderG fs).map (coinP fs)) : C.map (fun h => thOf (orderG fs) (cont h)) = coinsG (coinW fs) := by
  have e : C.map (fun h => thOf (orderG fs) (cont h)) = (C.map cont).map (thOf (orderG fs)) := by rw [List.map_map]; rfl
  rw [e, hC, List.map_map]
  apply List.ext_getElem?
  intro k
  by_cases h : k < (orderG fs).length
  · have e1 : (coinsG (coinW fs))[k]? = some ⟨(coinW fs).getD k 0, unitV (coinW fs).length k⟩ := by simp [coinsG, coinW_len, h]
    rw [e1, List.getElem?_map, List.getElem?_eq_getElem h]
    simp only [Option.map_some, Function.comp, Option.some.injEq]
    have eo : (orderG fs).getD k 0 = (orderG fs)[k] := by simp [h]
    unfold thOf coinP
    congr 1
    · rw [coinW_at fs k h, eo]
    · apply List.ext_getElem?
      intro j
      by_cases hj : j < (orderG fs).length
      · have e2 := unit_at (coinW fs).length k j (by rw [coinW_len]; exact hj)
        have e3 : (unitV (coinW fs).length k)[j]? = some ((unitV (coinW fs).length k).getD j 0) := by
          have : j < (unitV (coinW fs).length k).length := by rw [unit_len, coinW_len]; exact hj
          simp [this]
        rw [e3, e2, List.getElem?_map, List.getElem?_eq_getElem hj]
        simp only [Option.map_some, Option.some.injEq]
        by_cases ejk : j = k
        · subst ejk; simp
        · rw [if_neg ejk]
          have hnd := List.pairwise_iff_getElem.1 (order_nodup fs fs.length)
          have hne : (orderG fs)[j] ≠ (orderG fs)[k] := by
            rcases Nat.lt_or_gt_of_ne ejk with h5 | h5
            · exact hnd j k hj h h5
            · exact fun e4 => hnd k j h hj h5 e4.symm
          have : List.count (((orderG fs)[j] : Nat) : Int) [(((orderG fs)[k] : Nat) : Int)] = 0 := by
            rw [List.count_eq_zero]; simp; omega
          rw [this]; rfl
      · have h1 : (unitV (coinW fs).length k).length = (orderG fs).length := by rw [unit_len, coinW_len]
        rw [List.getElem?_eq_none (by simp; omega), List.getElem?_eq_none (by omega)]
  · rw [List.getElem?_eq_none (by simp; omega), List.getElem?_eq_none (by rw [coins_len, coinW_len]; omega)]

end Go.Proofs.Ytcbaiagkdphkeaa
