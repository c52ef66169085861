/-
  Numbers and their bins, as mathematics: lists of bins, and what is read of them.
-/
import Derived.Test.YtekidfkahpaokaaNumsStart
import Derived.Test.YtekidfkahpaokaaRunPure
namespace Go.Proofs.Ytekidfkahpaokaa

def binI (x : Nat × Nat) : Int × Int := ((x.1 : Int), (x.2 : Int))
/-- The bins of a number. -/
def binsI (base : Nat) (n : Int) : List (Int × Int) := (numL base n (cls n.natAbs)).map binI
def baseB (b : Int) : Bool := decide (0 ≤ b ∧ b ≤ 380)
def binsOfG (n base : Int) : List (Int × Int) := if coefB n && baseB base then binsI base.toNat n else []
def listG (xs : List Int) (base : Int) : List (Int × Int) := if decide (xs.length ≤ 4096) && baseB base && xs.all coefB then xs.flatMap (binsI base.toNat) else []
def startR (bz : List Int) : Rs := ⟨like0, ⟨prefV (byteS bz) 4, 4294967295, 4⟩⟩
def readNG (bz : List Int) (n base : Int) : List Int := if decide (0 ≤ n ∧ n ≤ 4096) && baseB base then numsR (byteS bz) base.toNat n.toNat (startR bz) else []

theorem coef_nat {n : Int} (h : coefB n = true) : n.natAbs ≤ 32767 := by
  have := of_decide_eq_true h
  omega
theorem upL_len (base : Nat) : ∀ m k, (upL base m k).length ≤ m + 1
  | 0, k => by unfold upL; split <;> simp
  | m + 1, k => by have := upL_len base m (k + 1); unfold upL; simp; omega
theorem lowL_len (base a : Nat) : ∀ i, (lowL base a i).length = i
  | 0 => rfl
  | i + 1 => by unfold lowL; simp [lowL_len base a i]
theorem numL_len {base : Nat} {n : Int} (h : coefB n = true) : (numL base n (cls n.natAbs)).length ≤ 31 := by
  have hc := cls_le (coef_nat h)
  unfold numL
  split
  · simp
  · unfold absL
    have h1 := upL_len base (cls n.natAbs - 1) 1
    have h2 := lowL_len base n.natAbs (cls n.natAbs - 1)
    simp only [List.length_cons, List.length_append]
    omega
theorem binsI_len {base : Nat} {n : Int} (h : coefB n = true) : (binsI base n).length ≤ 31 := by unfold binsI; rw [List.length_map]; exact numL_len h
theorem upL_in (base : Nat) : ∀ m k, k + m ≤ 15 → ∀ x ∈ upL base m k, x.1 ≤ base + 18 ∧ x.2 ≤ 1
  | 0, k, hk, x, hx => by
    unfold upL at hx
    split at hx
    · simp at hx; subst hx; exact ⟨by dsimp only; omega, by dsimp only; omega⟩
    · simp at hx
  | m + 1, k, hk, x, hx => by
    unfold upL at hx
    rcases List.mem_cons.1 hx with rfl | hx
    · exact ⟨by dsimp only; omega, by dsimp only; omega⟩
    · exact upL_in base m (k + 1) (by omega) x hx
theorem lowL_in (base a : Nat) : ∀ i, ∀ x ∈ lowL base a i, x.1 ≤ base + 18 ∧ x.2 ≤ 1
  | 0, x, hx => by simp [lowL] at hx
  | i + 1, x, hx => by
    unfold lowL at hx
    rcases List.mem_cons.1 hx with rfl | hx
    · exact ⟨by dsimp only; omega, by dsimp only; omega⟩
    · exact lowL_in base a i x hx
theorem numL_in {base : Nat} {n : Int} (h : coefB n = true) : ∀ x ∈ numL base n (cls n.natAbs), x.1 ≤ base + 18 ∧ x.2 ≤ 1 := by
  have hc := cls_le (coef_nat h)
  intro x hx
  unfold numL at hx
  split at hx
  · simp at hx; subst hx; exact ⟨by dsimp only; omega, by dsimp only; omega⟩
  · rename_i h0
    have hp : 0 < cls n.natAbs := cls_pos.2 (by omega)
    rcases List.mem_cons.1 hx with rfl | hx
    · exact ⟨by dsimp only; omega, by dsimp only; omega⟩
    rcases List.mem_cons.1 hx with rfl | hx
    · exact ⟨by dsimp only; omega, by dsimp only; split <;> omega⟩
    unfold absL at hx
    rcases List.mem_append.1 hx with hx | hx
    · exact upL_in base _ 1 (by omega) x hx
    · exact lowL_in base _ _ x hx
theorem binsN_binI (l : List (Nat × Nat)) : binsN (l.map binI) = l := by
  unfold binsN binI
  rw [List.map_map]
  simp [Function.comp_def]
theorem binsN_flat (base : Nat) : ∀ xs : List Int, binsN (xs.flatMap (binsI base)) = xs.flatMap (fun n => numL base n (cls n.natAbs))
  | [] => rfl
  | n :: r => by
    have ih := binsN_flat base r
    have h1 := binsN_binI (numL base n (cls n.natAbs))
    rw [List.flatMap_cons, List.flatMap_cons, ← ih]
    unfold binsN at h1 ⊢
    rw [List.map_append]
    unfold binsI
    rw [h1]
theorem bins_flat_len (base : Nat) : ∀ xs : List Int, xs.all coefB = true → (xs.flatMap (binsI base)).length ≤ 31 * xs.length
  | [], _ => by simp
  | n :: r, h => by
    rw [List.all_cons, Bool.and_eq_true] at h
    have h1 := binsI_len (base := base) h.1
    have h2 := bins_flat_len base r h.2
    rw [List.flatMap_cons, List.length_append, List.length_cons]
    omega
theorem bins_flat_ok (base : Nat) (hb : base ≤ 380) (xs : List Int) (hl : xs.length ≤ 4096) (h : xs.all coefB = true) : binsB (xs.flatMap (binsI base)) = true := by
  have h1 := bins_flat_len base xs h
  unfold binsB
  rw [Bool.and_eq_true]
  refine ⟨decide_eq_true (by omega), List.all_eq_true.2 fun x hx => ?_⟩
  obtain ⟨n, hn, hx⟩ := List.mem_flatMap.1 hx
  unfold binsI at hx
  obtain ⟨y, hy, rfl⟩ := List.mem_map.1 hx
  obtain ⟨a, b⟩ := numL_in (base := base) (List.all_eq_true.1 h n hn) y hy
  unfold binB binI
  dsimp only
  rw [Bool.and_eq_true]
  exact ⟨decide_eq_true (by omega), decide_eq_true (by omega)⟩
theorem listG_pos {xs : List Int} {base : Int} (h : listG xs base ≠ []) : xs.length ≤ 4096 ∧ (0 ≤ base ∧ base ≤ 380) ∧ xs.all coefB = true ∧ listG xs base = xs.flatMap (binsI base.toNat) := by
  unfold listG at h ⊢
  split at h
  · rename_i hc
    rw [Bool.and_eq_true, Bool.and_eq_true] at hc
    exact ⟨of_decide_eq_true hc.1.1, of_decide_eq_true hc.1.2, hc.2, by rw [if_pos]; simp [hc.1.1, hc.1.2, hc.2]⟩
  · exact absurd rfl h
/-- What was told is read back. -/
theorem read_list {xs : List Int} {base : Int} (h : listG xs base ≠ []) : binsB (listG xs base) = true ∧ readNG (encG (listG xs base)) xs.length base = xs := by
  obtain ⟨h1, h2, h3, h4⟩ := listG_pos h
  have hok := bins_flat_ok base.toNat (by omega) xs h1 h3
  refine ⟨by rw [h4]; exact hok, ?_⟩
  rw [h4]
  have hst := start_fol hok [] (fun x hx => by simp at hx)
  rw [List.map_nil, List.append_nil, binsN_flat] at hst
  unfold readNG
  have e1 : decide (0 ≤ (xs.length : Int) ∧ (xs.length : Int) ≤ 4096) = true := decide_eq_true (by omega)
  have e2 : baseB base = true := decide_eq_true h2
  rw [e1, e2]
  show numsR _ _ ((xs.length : Int)).toNat _ = xs
  rw [Int.toNat_natCast]
  refine nums_back (cl := fun n => cls n.natAbs) xs _ [] (fun n hn h0 => ?_) (by rw [List.append_nil]; exact hst)
  have hn2 := coef_nat (List.all_eq_true.1 h3 n hn)
  exact ⟨cls_pos.2 (by omega), cls_le hn2, cls_ge (by omega), cls_lt _⟩
theorem list_sum (base : Nat) : ∀ xs : List Int, (xs.flatMap (binsI base)).length = (xs.map fun n => (binsI base n).length).sum
  | [] => rfl
  | n :: r => by rw [List.flatMap_cons, List.length_append, list_sum base r]; rfl

/-- What is read lies within bounds. -/
theorem upR_le {B : Nat → Nat} {base : Nat} : ∀ (f k : Nat) (r : Rs), k + f = 15 → k ≤ (upR B base f k r).1 ∧ (upR B base f k r).1 ≤ 15
  | 0, k, r, h => ⟨Nat.le_refl _, by unfold upR; dsimp only; omega⟩
  | f + 1, k, r, h => by
    unfold upR
    split
    · have := upR_le (B := B) (base := base) f (k + 1) (nextR B r (base + 1 + k)) (by omega)
      exact ⟨by omega, this.2⟩
    · exact ⟨Nat.le_refl _, by dsimp only; omega⟩
theorem bitR_le (r : Rs) (c : Nat) : bitR r c ≤ 1 := by unfold bitR bitD; split <;> omega
theorem lowR_le {B : Nat → Nat} {base : Nat} : ∀ (i n : Nat) (r : Rs), (lowR B base i n r).1 < 2 ^ i * (n + 1)
  | 0, n, r => by simp [lowR]
  | i + 1, n, r => by
    unfold lowR
    have h1 := lowR_le (B := B) (base := base) i (2 * n + bitR r (base + 18)) (nextR B r (base + 18))
    have h2 := bitR_le r (base + 18)
    refine Nat.lt_of_lt_of_le h1 ?_
    rw [Nat.pow_succ, Nat.mul_assoc]
    exact Nat.mul_le_mul_left _ (by omega)

end Go.Proofs.Ytekidfkahpaokaa
