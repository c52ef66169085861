/-
  The best lens, as mathematics: things, coins and pairs; what is chosen of them costs no more than any other choice that is as wide.
-/
import Derived.Test.YtcbaiagkdphkeaaKit
namespace Go.Proofs.Ytcbaiagkdphkeaa

/-- A coin or a pair: what it weighs, and how often each coin stands in it. -/
structure Th where
  w : Int
  cs : List Int
  deriving Inhabited

def pairsG : List Th → List Th
  | a :: b :: r => ⟨a.w + b.w, List.zipWith (· + ·) a.cs b.cs⟩ :: pairsG r
  | _ => []
def mergeG : List Th → List Th → List Th
  | [], bs => bs
  | a :: as, [] => a :: as
  | a :: as, b :: bs => if a.w ≤ b.w then a :: mergeG as (b :: bs) else b :: mergeG (a :: as) bs
termination_by as bs => as.length + bs.length
def thingsG (coins : List Th) : Nat → List Th
  | 0 => coins
  | k + 1 => mergeG coins (pairsG (thingsG coins k))

/-- The sum of a function over the first m of a list. -/
def pre (f : Th → Int) : List Th → Nat → Int
  | _, 0 => 0
  | [], _ => 0
  | x :: xs, m + 1 => f x + pre f xs m
theorem pre_zero (f : Th → Int) (l : List Th) : pre f l 0 = 0 := by cases l <;> rfl
theorem pre_nil (f : Th → Int) (m : Nat) : pre f [] m = 0 := by cases m <;> rfl
theorem pre_cons (f : Th → Int) (x : Th) (l : List Th) (m : Nat) : pre f (x :: l) (m + 1) = f x + pre f l m := rfl

theorem merge_len : ∀ (as bs : List Th), (mergeG as bs).length = as.length + bs.length
  | [], bs => by simp [mergeG]
  | a :: as, [] => by simp [mergeG]
  | a :: as, b :: bs => by
    unfold mergeG
    split
    · rw [List.length_cons, merge_len as (b :: bs)]; simp; omega
    · rw [List.length_cons, merge_len (a :: as) bs]; simp; omega
termination_by as bs => as.length + bs.length
theorem pairs_len : ∀ l : List Th, (pairsG l).length = l.length / 2
  | [] => rfl
  | [a] => by simp [pairsG]
  | a :: b :: r => by
    simp only [pairsG, List.length_cons, pairs_len r]
    omega

/-- The first of what was put together are the first of both. -/
theorem merge_split : ∀ (as bs : List Th) (m : Nat), m ≤ as.length + bs.length → ∃ a b, a + b = m ∧ a ≤ as.length ∧ b ≤ bs.length ∧ ∀ f : Th → Int, pre f (mergeG as bs) m = pre f as a + pre f bs b
  | as, bs, 0, _ => ⟨0, 0, rfl, Nat.zero_le _, Nat.zero_le _, fun f => by simp [pre_zero]⟩
  | [], bs, m + 1, h => ⟨0, m + 1, by omega, Nat.zero_le _, by simpa using h, fun f => by simp [mergeG, pre_zero]⟩
  | a :: as, [], m + 1, h => ⟨m + 1, 0, by omega, by simpa using h, Nat.zero_le _, fun f => by simp [mergeG, pre_zero]⟩
  | a :: as, b :: bs, m + 1, h => by
    simp only [List.length_cons] at h
    by_cases hc : a.w ≤ b.w
    · obtain ⟨x, y, e, h1, h2, h3⟩ := merge_split as (b :: bs) m (by simp; omega)
      refine ⟨x + 1, y, by omega, by simp; omega, h2, fun f => ?_⟩
      rw [mergeG, if_pos hc, pre_cons, pre_cons, h3 f]; omega
    · obtain ⟨x, y, e, h1, h2, h3⟩ := merge_split (a :: as) bs m (by simp; omega)
      refine ⟨x, y + 1, by omega, h1, by simp; omega, fun f => ?_⟩
      rw [mergeG, if_neg hc, pre_cons, pre_cons, h3 f]; omega
termination_by as bs => as.length + bs.length

/-- Rising weights. -/
def Rises : List Th → Prop
  | [] => True
  | x :: xs => (∀ y ∈ xs, x.w ≤ y.w) ∧ Rises xs
theorem merge_mem : ∀ (as bs : List Th) (x : Th), x ∈ mergeG as bs → x ∈ as ∨ x ∈ bs
  | [], bs, x, h => by simp [mergeG] at h; exact .inr h
  | a :: as, [], x, h => by simp [mergeG] at h; exact .inl (by simpa using h)
  | a :: as, b :: bs, x, h => by
    rw [mergeG] at h
    split at h
    · rcases List.mem_cons.1 h with rfl | h
      · exact .inl (by simp)
      · rcases merge_mem as (b :: bs) x h with h | h
        · exact .inl (by simp [h])
        · exact .inr h
    · rcases List.mem_cons.1 h with rfl | h
      · exact .inr (by simp)
      · rcases merge_mem (a :: as) bs x h with h | h
        · exact .inl h
        · exact .inr (by simp [h])
termination_by as bs => as.length + bs.length
theorem merge_rises : ∀ (as bs : List Th), Rises as → Rises bs → Rises (mergeG as bs)
  | [], bs, _, h => by simpa [mergeG] using h
  | a :: as, [], h, _ => by simpa [mergeG] using h
  | a :: as, b :: bs, ha, hb => by
    rw [mergeG]
    split
    · rename_i hc
      refine ⟨fun y hy => ?_, merge_rises as (b :: bs) ha.2 hb⟩
      rcases merge_mem _ _ _ hy with h | h
      · exact ha.1 y h
      · rcases List.mem_cons.1 h with rfl | h
        · exact hc
        · have := hb.1 y h; omega
    · rename_i hc
      refine ⟨fun y hy => ?_, merge_rises (a :: as) bs ha hb.2⟩
      rcases merge_mem _ _ _ hy with h | h
      · rcases List.mem_cons.1 h with rfl | h
        · omega
        · have := ha.1 y h; omega
      · exact hb.1 y h
termination_by as bs => as.length + bs.length
theorem pairs_ge : ∀ (l : List Th) (v : Int), (∀ y ∈ l, v ≤ y.w) → ∀ z ∈ pairsG l, v + v ≤ z.w
  | [], _, _, z, hz => by simp [pairsG] at hz
  | [a], _, _, z, hz => by simp [pairsG] at hz
  | a :: b :: r, v, h, z, hz => by
    simp only [pairsG, List.mem_cons] at hz
    rcases hz with rfl | hz
    · have h1 := h a (by simp)
      have h2 := h b (by simp)
      show v + v ≤ a.w + b.w
      omega
    · exact pairs_ge r v (fun y hy => h y (by simp [hy])) z hz
theorem pairs_rises : ∀ l : List Th, Rises l → Rises (pairsG l)
  | [], _ => trivial
  | [a], _ => trivial
  | a :: b :: r, h => by
    refine ⟨fun y hy => ?_, pairs_rises r h.2.2⟩
    have h1 := pairs_ge r b.w h.2.1 y hy
    have h2 := h.1 b (by simp)
    show a.w + b.w ≤ y.w
    omega
theorem things_rises {coins : List Th} (h : Rises coins) : ∀ k, Rises (thingsG coins k)
  | 0 => h
  | k + 1 => merge_rises _ _ h (pairs_rises _ (things_rises h k))

def wOf (t : Th) : Int := t.w
theorem pre_step {l : List Th} {v : Int} (hv : ∀ y ∈ l, v ≤ y.w) : ∀ {m : Nat}, m < l.length → v + pre wOf l m ≤ pre wOf l (m + 1) := by
  induction l with
  | nil => intro m h; simp at h
  | cons x xs ih =>
    intro m h
    cases m with
    | zero =>
      have := hv x (by simp)
      simp only [pre_cons, pre_zero, wOf]; omega
    | succ m =>
      have := ih (fun y hy => hv y (by simp [hy])) (m := m) (by simpa using h)
      simp only [pre_cons]; omega
/-- No other choice of so many out of both weighs less. -/
theorem merge_least : ∀ (as bs : List Th), Rises as → Rises bs → ∀ (a b : Nat), a ≤ as.length → b ≤ bs.length → pre wOf (mergeG as bs) (a + b) ≤ pre wOf as a + pre wOf bs b
  | [], bs, _, _, a, b, ha, _ => by
    obtain rfl : a = 0 := by simpa using ha
    simp [mergeG, pre_zero]
  | x :: as, [], _, _, a, b, _, hb => by
    obtain rfl : b = 0 := by simpa using hb
    simp [mergeG, pre_zero]
  | x :: as, y :: bs, hA, hB, a, b, ha, hb => by
    rw [mergeG]
    split
    · rename_i hc
      cases a with
      | succ a =>
        have h := merge_least as (y :: bs) hA.2 hB a b (by simpa using ha) hb
        have e : a + 1 + b = (a + b) + 1 := by omega
        rw [e, pre_cons, pre_cons]; omega
      | zero =>
        cases b with
        | zero => simp [pre_zero]
        | succ b =>
          have h := merge_least as (y :: bs) hA.2 hB 0 b (Nat.zero_le _) (by omega)
          have hs := pre_step (l := y :: bs) (v := x.w) (fun z hz => by
            rcases List.mem_cons.1 hz with rfl | hz
            · exact hc
            · have := hB.1 z hz; omega) (m := b) (by omega)
          have e : 0 + (b + 1) = (0 + b) + 1 := by omega
          rw [e, pre_cons, pre_zero]
          rw [pre_zero] at h
          simp only [wOf] at *; omega
    · rename_i hc
      cases b with
      | succ b =>
        have h := merge_least (x :: as) bs hA hB.2 a b ha (by simpa using hb)
        have e : a + (b + 1) = (a + b) + 1 := by omega
        rw [e, pre_cons, pre_cons]; omega
      | zero =>
        cases a with
        | zero => simp [pre_zero]
        | succ a =>
          have h := merge_least (x :: as) bs hA hB.2 a 0 (by omega) (Nat.zero_le _)
          have hs := pre_step (l := x :: as) (v := y.w) (fun z hz => by
            rcases List.mem_cons.1 hz with rfl | hz
            · omega
            · have := hA.1 z hz; omega) (m := a) (by omega)
          simp only [Nat.add_zero, pre_zero] at h ⊢
          have e := pre_cons wOf y (mergeG (x :: as) bs) a
          have ew : wOf y = y.w := rfl
          rw [e]
          omega
termination_by as bs => as.length + bs.length

theorem pairs_pre (f : Th → Int) (Q : Th → Prop) (hf : ∀ a b : Th, Q a → Q b → f ⟨a.w + b.w, List.zipWith (· + ·) a.cs b.cs⟩ = f a + f b) : ∀ (l : List Th) (p : Nat), (∀ a ∈ l, Q a) → 2 * p ≤ l.length → pre f (pairsG l) p = pre f l (2 * p)
  | l, 0, _, _ => by simp [pre_zero]
  | [], p + 1, _, h => by simp at h
  | [a], p + 1, _, h => by simp at h; omega
  | a :: b :: r, p + 1, hq, h => by
    have ih := pairs_pre f Q hf r p (fun x hx => hq x (by simp [hx])) (by simp at h; omega)
    have e : 2 * (p + 1) = (2 * p) + 1 + 1 := by omega
    rw [pairsG, pre_cons, e, pre_cons, pre_cons, ih, hf a b (hq a (by simp)) (hq b (by simp))]; omega

/-- How many are chosen of so many, and what the chosen ones of a list weigh. -/
def cnt : Nat → (Nat → Bool) → Nat
  | 0, _ => 0
  | n + 1, s => (if s 0 then 1 else 0) + cnt n (fun i => s (i + 1))
def wt : List Th → (Nat → Bool) → Int
  | [], _ => 0
  | x :: xs, s => (if s 0 then x.w else 0) + wt xs (fun i => s (i + 1))
theorem cnt_le : ∀ (n : Nat) (s : Nat → Bool), cnt n s ≤ n
  | 0, _ => Nat.le_refl _
  | n + 1, s => by
    have := cnt_le n (fun i => s (i + 1))
    unfold cnt; split <;> omega
theorem wt_nonneg : ∀ (l : List Th) (s : Nat → Bool), (∀ y ∈ l, 0 ≤ y.w) → 0 ≤ wt l s
  | [], _, _ => Int.le_refl _
  | x :: xs, s, h => by
    have h1 := wt_nonneg xs (fun i => s (i + 1)) (fun y hy => h y (by simp [hy]))
    have h2 := h x (by simp)
    unfold wt; split <;> omega
theorem sel_least : ∀ (l : List Th) (s : Nat → Bool) (m : Nat), Rises l → (∀ y ∈ l, 0 ≤ y.w) → m ≤ cnt l.length s → pre wOf l m ≤ wt l s
  | l, s, 0, _, h, _ => by rw [pre_zero]; exact wt_nonneg l s h
  | [], s, m + 1, _, _, h => by simp [cnt] at h
  | x :: xs, s, m + 1, hr, h, hm => by
    rw [List.length_cons] at hm
    unfold cnt at hm
    unfold wt
    have hx : ∀ y ∈ xs, 0 ≤ y.w := fun y hy => h y (by simp [hy])
    by_cases hs : s 0 = true
    · rw [if_pos hs] at hm ⊢
      have ih := sel_least xs (fun i => s (i + 1)) m hr.2 hx (by omega)
      rw [pre_cons]
      show x.w + _ ≤ _
      omega
    · rw [if_neg hs] at hm ⊢
      have ih := sel_least xs (fun i => s (i + 1)) (m + 1) hr.2 hx (by omega)
      have hl := cnt_le xs.length (fun i => s (i + 1))
      have hp := pre_step (l := xs) (v := x.w) hr.1 (m := m) (by omega)
      rw [pre_cons]
      show x.w + _ ≤ _
      omega

/-- A choice at each of k widths (1, 2, 4 ..): how wide it is, what it weighs. -/
def wideS (n : Nat) (S : Nat → Nat → Bool) : Nat → Nat
  | 0 => 0
  | k + 1 => wideS n S k + 2 ^ k * cnt n (S k)
def wtS (l : List Th) (S : Nat → Nat → Bool) : Nat → Int
  | 0 => 0
  | k + 1 => wtS l S k + wt l (S k)
theorem wtS_nonneg (l : List Th) (S : Nat → Nat → Bool) (h : ∀ y ∈ l, 0 ≤ y.w) : ∀ k, 0 ≤ wtS l S k
  | 0 => Int.le_refl _
  | k + 1 => by
    have := wtS_nonneg l S h k
    have := wt_nonneg l (S k) h
    unfold wtS; omega

/-- The first things weigh no more than any choice that is as wide. -/
theorem things_least {coins : List Th} (hr : Rises coins) (hp : ∀ y ∈ coins, 0 ≤ y.w) : ∀ (k m : Nat) (S : Nat → Nat → Bool), m * 2 ^ k ≤ wideS coins.length S (k + 1) → m ≤ (thingsG coins k).length ∧ pre wOf (thingsG coins k) m ≤ wtS coins S (k + 1)
  | 0, m, S, h => by
    simp only [wideS, Nat.pow_zero, Nat.mul_one, Nat.one_mul, Nat.zero_add] at h
    have h1 := cnt_le coins.length (S 0)
    have h2 := sel_least coins (S 0) m hr hp h
    refine ⟨by show m ≤ coins.length; omega, ?_⟩
    show pre wOf coins m ≤ 0 + wt coins (S 0)
    omega
  | k + 1, m, S, h => by
    have hw : wideS coins.length S (k + 2) = wideS coins.length S (k + 1) + 2 ^ (k + 1) * cnt coins.length (S (k + 1)) := rfl
    have hc := cnt_le coins.length (S (k + 1))
    have hs := sel_least coins (S (k + 1)) (cnt coins.length (S (k + 1))) hr hp (Nat.le_refl _)
    have hn := wtS_nonneg coins S hp (k + 1)
    have hL : (thingsG coins (k + 1)).length = coins.length + (thingsG coins k).length / 2 := by rw [thingsG, merge_len, pairs_len]
    have hwt : wtS coins S (k + 2) = wtS coins S (k + 1) + wt coins (S (k + 1)) := rfl
    rw [hw] at h
    generalize hcc : cnt coins.length (S (k + 1)) = c at *
    have hrp := pairs_rises _ (things_rises hr k)
    by_cases hm : m ≤ c
    · have h1 := merge_least coins (pairsG (thingsG coins k)) hr hrp m 0 (by omega) (Nat.zero_le _)
      have h2 := sel_least coins (S (k + 1)) m hr hp (by omega)
      rw [Nat.add_zero, pre_zero] at h1
      refine ⟨by omega, ?_⟩
      rw [hwt, thingsG]
      omega
    · obtain ⟨d, rfl⟩ : ∃ d, m = c + d := ⟨m - c, by omega⟩
      have e1 : (c + d) * 2 ^ (k + 1) = 2 ^ (k + 1) * c + d * 2 ^ (k + 1) := by rw [Nat.add_mul, Nat.mul_comm c]
      have e2 : (2 * d) * 2 ^ k = d * 2 ^ (k + 1) := by rw [Nat.pow_succ, Nat.mul_comm 2 d, Nat.mul_assoc, Nat.mul_comm 2]
      obtain ⟨h1, h2⟩ := things_least hr hp k (2 * d) S (by omega)
      have h3 := merge_least coins (pairsG (thingsG coins k)) hr hrp c d (by omega) (by rw [pairs_len]; omega)
      have h4 := pairs_pre wOf (fun _ => True) (fun _ _ _ _ => rfl) (thingsG coins k) d (fun _ _ => trivial) h1
      refine ⟨by omega, ?_⟩
      rw [hwt, thingsG]
      omega

end Go.Proofs.Ytcbaiagkdphkeaa
