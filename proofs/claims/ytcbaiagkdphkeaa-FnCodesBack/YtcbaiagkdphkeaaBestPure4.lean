/-
  The best lens of symbols: they can be, each symbol that comes has a code and no other one, and no lens cost less.
-/
import Derived.Test.YtcbaiagkdphkeaaBestPure3
namespace Go.Proofs.Ytcbaiagkdphkeaa

/-- The lens of the coins, one coin or more. -/
def lensX (fs : List Int) : List Int := if (orderG fs).length = 1 then [1] else lensC (coinW fs)
theorem best_eq {fs : List Int} (h : freqsB fs = true) : bestG fs = spread fs.length (orderG fs) (lensX fs) := by unfold bestG lensX; rw [if_pos h]
theorem coinW_len (fs : List Int) : (coinW fs).length = (orderG fs).length := by simp [coinW]
theorem coinW_at (fs : List Int) (k : Nat) (hk : k < (orderG fs).length) : (coinW fs).getD k 0 = fs.getD ((orderG fs).getD k 0) 0 := by simp [coinW, hk]

section
variable {fs : List Int} (h : freqsB fs = true)
include h
theorem freqs_parts : fs.length ≤ 256 ∧ (∀ i, i < fs.length → 0 ≤ fs.getD i 0 ∧ fs.getD i 0 ≤ 1000000) ∧ ∃ i, i < fs.length ∧ 0 < fs.getD i 0 := by
  unfold freqsB at h
  rw [Bool.and_eq_true, Bool.and_eq_true] at h
  refine ⟨of_decide_eq_true h.1.1, fun i hi => of_decide_eq_true (all_get h.1.2 i hi), ?_⟩
  obtain ⟨x, hx, hp⟩ := List.any_eq_true.1 h.2
  obtain ⟨i, hi, rfl⟩ := List.getElem_of_mem hx
  exact ⟨i, hi, by have e : fs.getD i 0 = fs[i] := by simp [hi]
                   rw [e]; exact of_decide_eq_true hp⟩
theorem order_in {k : Nat} (hk : k < (orderG fs).length) : (orderG fs).getD k 0 < fs.length ∧ 0 < fs.getD ((orderG fs).getD k 0) 0 := by
  have e : (orderG fs).getD k 0 = (orderG fs)[k] := by simp [hk]
  have hm := (order_mem fs fs.length ((orderG fs).getD k 0)).1 (by rw [e]; exact List.getElem_mem hk)
  have := (freqs_parts h).2.1 _ hm.1
  exact ⟨hm.1, by have := hm.2; omega⟩
theorem order_pos : 1 ≤ (orderG fs).length := by
  obtain ⟨i, hi, hp⟩ := (freqs_parts h).2.2
  have hm : i ∈ orderG fs := (order_mem fs fs.length i).2 ⟨hi, by omega⟩
  exact List.length_pos_of_mem hm
omit h in
theorem coins_rise : Rises (coinsG (coinW fs)) := by
  have hr := order_rises fs fs.length
  have key : ∀ (l : List Th), (∀ i j, i ≤ j → j < l.length → (l.getD i default).w ≤ (l.getD j default).w) → Rises l := by
    intro l
    induction l with
    | nil => intro _; trivial
    | cons x l ih =>
      intro hl
      refine ⟨fun y hy => ?_, ih (fun i j hij hj => hl (i + 1) (j + 1) (by omega) (by simpa using hj))⟩
      obtain ⟨j, hj, rfl⟩ := List.getElem_of_mem hy
      have := hl 0 (j + 1) (by omega) (by simpa using hj)
      simpa [hj] using this
  refine key _ (fun i j hij hj => ?_)
  rw [coins_len, coinW_len] at hj
  have e : ∀ k, k < (orderG fs).length → ((coinsG (coinW fs)).getD k default).w = fs.getD ((orderG fs).getD k 0) 0 := fun k hk => by
    rw [← coinW_at fs k hk]
    simp [coinsG, coinW_len, hk]
  rw [e i (by omega), e j hj]
  exact hr i j hij hj
theorem coins_pos : ∀ x ∈ coinW fs, 0 ≤ x := by
  intro x hx
  simp only [coinW, List.mem_map] at hx
  obtain ⟨s, hs, rfl⟩ := hx
  have hm := (order_mem fs fs.length s).1 hs
  exact ((freqs_parts h).2.1 s hm.1).1
theorem coinW_few : (coinW fs).length ≤ 256 := by
  have h1 := order_le fs fs.length
  have h2 := (freqs_parts h).1
  rw [coinW_len]
  unfold orderG
  omega
/-- The coins' lens can be. -/
theorem lensX_fit : (∀ k, k < (orderG fs).length → 1 ≤ (lensX fs).getD k 0 ∧ (lensX fs).getD k 0 ≤ 16) ∧ sumF (orderG fs).length (fun k => 2 ^ (16 - ((lensX fs).getD k 0).toNat)) ≤ 65536 := by
  have hp := order_pos h
  unfold lensX
  by_cases h1 : (orderG fs).length = 1
  · rw [if_pos h1, h1]
    refine ⟨fun k hk => ?_, by decide⟩
    obtain rfl : k = 0 := by omega
    decide
  · rw [if_neg h1]
    have hl : (coinW fs).length = (orderG fs).length := coinW_len fs
    have := lensC_fit (ws := coinW fs) (by omega) (things_enough coins_rise (coins_pos h) (by omega) (coinW_few h))
    rw [hl] at this
    exact this
theorem best_len : (bestG fs).length = fs.length := by rw [best_eq h, spread_len]
theorem best_at {k : Nat} (hk : k < (orderG fs).length) : (bestG fs).getD ((orderG fs).getD k 0) 0 = (lensX fs).getD k 0 := by
  rw [best_eq h]
  exact spread_at (order_nodup fs fs.length) hk (order_in h hk).1
theorem best_none {s : Nat} (h0 : fs.getD s 0 = 0) : (bestG fs).getD s 0 = 0 := by
  rw [best_eq h]
  exact spread_no (fun hm => ((order_mem fs fs.length s).1 hm).2 h0)
omit h in
theorem order_has {s : Nat} (hs : s < fs.length) (h0 : fs.getD s 0 ≠ 0) : ∃ k, k < (orderG fs).length ∧ (orderG fs).getD k 0 = s := by
  have hm : s ∈ orderG fs := (order_mem fs fs.length s).2 ⟨hs, h0⟩
  obtain ⟨k, hk, e⟩ := List.getElem_of_mem hm
  exact ⟨k, hk, by rw [← e]; simp [hk]⟩
/-- Each symbol that comes has a code, and no other one. -/
theorem best_codes {s : Nat} (hs : s < fs.length) : 0 ≤ (bestG fs).getD s 0 ∧ (bestG fs).getD s 0 ≤ 16 ∧ (fs.getD s 0 = 0 ↔ (bestG fs).getD s 0 = 0) := by
  by_cases h0 : fs.getD s 0 = 0
  · rw [best_none h h0]
    exact ⟨by decide, by decide, fun _ => rfl, fun _ => h0⟩
  · obtain ⟨k, hk, rfl⟩ := order_has hs h0
    rw [best_at h hk]
    have := (lensX_fit h).1 k hk
    exact ⟨by omega, by omega, fun e => absurd e h0, fun e => by omega⟩
theorem best_kraft : krS (bestG fs) ≤ 65536 ∧ 0 < krS (bestG fs) := by
  have e : krS (bestG fs) = sumMF (orderG fs) (fun s => kr ((bestG fs).getD s 0)) := by
    unfold krS
    rw [best_len h]
    refine (order_sumF fs _ (fun s h0 => ?_) fs.length).symm
    rw [best_none h h0]; rfl
  have e2 : sumMF (orderG fs) (fun s => kr ((bestG fs).getD s 0)) = sumF (orderG fs).length (fun k => 2 ^ (16 - ((lensX fs).getD k 0).toNat)) := sumF_congr _ _ _ (fun k hk => by
    show kr ((bestG fs).getD ((orderG fs).getD k 0) 0) = _
    rw [best_at h hk]
    have := (lensX_fit h).1 k hk
    unfold kr
    rw [if_pos (by omega)])
  rw [e, e2]
  refine ⟨(lensX_fit h).2, ?_⟩
  have h1 := sumF_one (orderG fs).length (fun k => 2 ^ (16 - ((lensX fs).getD k 0).toNat)) 0 (order_pos h)
  have h2 : 1 ≤ 2 ^ (16 - ((lensX fs).getD 0 0).toNat) := Nat.one_le_two_pow
  exact Nat.lt_of_lt_of_le (by omega) h1
theorem best_lens : lensB (bestG fs) = true := by
  unfold lensB
  rw [Bool.and_eq_true, Bool.and_eq_true]
  refine ⟨⟨decide_eq_true (by rw [best_len h]; exact (freqs_parts h).1), ?_⟩, decide_eq_true ⟨(best_kraft h).2, (best_kraft h).1⟩⟩
  rw [List.all_eq_true]
  intro x hx
  obtain ⟨i, hi, rfl⟩ := List.getElem_of_mem hx
  rw [best_len h] at hi
  have := best_codes h hi
  have e : (bestG fs).getD i 0 = (bestG fs)[i]'(by rw [best_len h]; exact hi) := by simp [best_len h, hi]
  rw [← e]
  exact decide_eq_true ⟨this.1, this.2.1⟩
theorem best_costB : costB fs (bestG fs) = true := by
  unfold costB
  rw [h, best_lens h, decide_eq_true (best_len h).symm, Bool.true_and, Bool.true_and, Bool.true_and, List.all_eq_true]
  intro i hi
  have hi' := List.mem_range.1 hi
  refine decide_eq_true (fun hh => ?_)
  have := (best_codes h hi').2.2.2 hh.2
  omega
/-- What the best lens cost. -/
theorem best_cost : costG fs (bestG fs) = sumN (orderG fs).length (fun k => (coinW fs).getD k 0 * (lensX fs).getD k 0) := by
  unfold costG
  rw [if_pos (best_costB h), ← order_sum fs (fun i => fs.getD i 0 * (bestG fs).getD i 0) (fun s h0 => by rw [h0, Int.zero_mul]) fs.length]
  refine sumN_congr _ _ _ (fun k hk => ?_)
  show fs.getD ((orderG fs).getD k 0) 0 * (bestG fs).getD ((orderG fs).getD k 0) 0 = _
  rw [best_at h hk, coinW_at fs k hk]
theorem best_cost_pos : 0 ≤ costG fs (bestG fs) := by
  rw [best_cost h, ← sumN_zero (orderG fs).length]
  refine sumN_le _ _ _ (fun k hk => ?_)
  rw [sumN_zero]
  have h1 := (lensX_fit h).1 k hk
  have h2 := order_in h hk
  rw [coinW_at fs k hk]
  exact Int.mul_nonneg (by omega) (by omega)
/-- No lens cost less. -/
theorem best_least (ls : List Int) (hl : 0 ≤ costG fs ls) : costG fs (bestG fs) ≤ costG fs ls := by
  have hb : costB fs ls = true := by
    unfold costG at hl
    split at hl
    · assumption
    · omega
  have hb0 := hb
  unfold costB at hb
  rw [Bool.and_eq_true, Bool.and_eq_true, Bool.and_eq_true] at hb
  obtain ⟨⟨⟨_, hls⟩, hlen⟩, hcov⟩ := hb
  have hlen := of_decide_eq_true hlen
  unfold lensB at hls
  rw [Bool.and_eq_true, Bool.and_eq_true] at hls
  obtain ⟨⟨_, hall⟩, hk⟩ := hls
  have hk := of_decide_eq_true hk
  have hin : ∀ i, i < fs.length → 0 ≤ ls.getD i 0 ∧ ls.getD i 0 ≤ 16 := fun i hi => of_decide_eq_true (all_get hall i (by omega))
  have hpos : ∀ k, k < (orderG fs).length → 1 ≤ ls.getD ((orderG fs).getD k 0) 0 := fun k hk => by
    have h2 := order_in h hk
    have h3 := of_decide_eq_true (List.all_eq_true.1 hcov _ (List.mem_range.2 h2.1))
    have := hin _ h2.1
    omega
  have hcost : costG fs ls = sumN (orderG fs).length (fun k => (coinW fs).getD k 0 * ls.getD ((orderG fs).getD k 0) 0) := by
    unfold costG
    rw [if_pos hb0, ← order_sum fs (fun i => fs.getD i 0 * ls.getD i 0) (fun s h0 => by rw [h0, Int.zero_mul]) fs.length]
    refine sumN_congr _ _ _ (fun k hk => ?_)
    show fs.getD ((orderG fs).getD k 0) 0 * ls.getD ((orderG fs).getD k 0) 0 = _
    rw [coinW_at fs k hk]
  have hkr : sumF (orderG fs).length (fun k => 2 ^ (16 - (ls.getD ((orderG fs).getD k 0) 0).toNat)) ≤ 65536 := by
    have e1 : sumF (orderG fs).length (fun k => 2 ^ (16 - (ls.getD ((orderG fs).getD k 0) 0).toNat)) = sumMF (orderG fs) (fun s => if fs.getD s 0 = 0 then 0 else kr (ls.getD s 0)) := sumF_congr _ _ _ (fun k hk => by
      have h1 := hpos k hk
      have h2 := order_in h hk
      show _ = if fs.getD ((orderG fs).getD k 0) 0 = 0 then 0 else kr (ls.getD ((orderG fs).getD k 0) 0)
      rw [if_neg (by omega)]
      unfold kr
      rw [if_pos (by omega)])
    rw [e1]
    have e2 : sumMF (orderG fs) (fun s => if fs.getD s 0 = 0 then 0 else kr (ls.getD s 0)) = sumF fs.length (fun s => if fs.getD s 0 = 0 then 0 else kr (ls.getD s 0)) := order_sumF fs _ (fun s h0 => by rw [if_pos h0]) fs.length
    rw [e2]
    have h3 : sumF fs.length (fun s => if fs.getD s 0 = 0 then 0 else kr (ls.getD s 0)) ≤ sumF fs.length (fun s => kr (ls.getD s 0)) := sumF_le _ _ _ (fun s _ => by split <;> omega)
    have h4 : sumF fs.length (fun s => kr (ls.getD s 0)) = krS ls := by unfold krS; rw [hlen]
    omega
  rw [best_cost h, hcost]
  unfold lensX
  by_cases h1 : (orderG fs).length = 1
  · rw [if_pos h1]
    refine sumN_le _ _ _ (fun k hk => ?_)
    obtain rfl : k = 0 := by omega
    have h2 := hpos 0 hk
    have h3 := order_in h hk
    rw [← coinW_at fs 0 hk] at h3
    exact Int.mul_le_mul_of_nonneg_left h2 (by omega)
  · rw [if_neg h1]
    have hl2 : (coinW fs).length = (orderG fs).length := coinW_len fs
    have h2 := (lensC_least coins_rise (coins_pos h) (by rw [hl2]; exact order_pos h) (fun k => (ls.getD ((orderG fs).getD k 0) 0).toNat) (fun k hk => by
      rw [hl2] at hk
      have := hin _ (order_in h hk).1
      omega) (by rw [hl2]; exact hkr)).2
    rw [hl2] at h2
    refine Int.le_trans h2 (sumN_le _ _ _ (fun k hk => ?_))
    have := hpos k hk
    rw [Int.toNat_of_nonneg (by omega)]
    exact Int.le_refl _
end

end Go.Proofs.Ytcbaiagkdphkeaa
