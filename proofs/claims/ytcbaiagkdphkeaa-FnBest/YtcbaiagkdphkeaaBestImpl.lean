/-
  The best lens, in the program.
-/
import Derived.Test.YtcbaiagkdphkeaaCountImpl2
import Derived.Test.YtcbaiagkdphkeaaCodeImpl
namespace Go.Proofs.Ytcbaiagkdphkeaa
open Go.RowKit

theorem lev_count {fs : List Int} {k : Nat} {H : List Hp} (hL : Lev fs k H) {M : Nat} (hM : M ≤ H.length) {j : Nat} (hj : j < (orderG fs).length) : (((allS (H.take M)).count (((orderG fs).getD j 0 : Nat) : Int) : Nat) : Int) = pre (getc j) (thingsG (coinsG (coinW fs)) k) M := by
  have hl : (H.take M).length = M := by simp; omega
  rw [allS_count, hl, pre_sum _ _ M (by rw [← hL.count]; exact hM)]
  refine sumN_congr _ _ _ (fun t ht => ?_)
  have e1 : at_ (H.take M) t = H[t]'(by omega) := by simp [at_, ht, show t < H.length by omega]
  have e2 : (thingsG (coinsG (coinW fs)) k).getD t default = thOf (orderG fs) (cont (H[t]'(by omega))) := by
    rw [← hL.th]; simp [show t < H.length by omega]
  rw [e1, e2]
  have e3 : (orderG fs).getD j 0 = (orderG fs)[j] := by simp [hj]
  rw [e3]
  simp [getc, thOf, cont, hj]
theorem Counted.parts {fs : List Int} (hfs : freqsB fs = true) {D : List Hp} (h : Counted fs D) : D.length ≤ 512 ∧ (∀ x ∈ D, x.ss.length ≤ 32768) ∧ ∀ x ∈ D, ∀ s ∈ x.ss, ∃ t : Nat, t ∈ orderG fs ∧ s = (t : Int) := by
  have hm := coinW_few hfs
  rcases h with ⟨C, hC, h1, rfl⟩ | ⟨_, H, hH, rfl⟩
  · exact ⟨by omega, fun x hx => by have := hC.len x hx; simp at this; omega, hC.sym⟩
  · refine ⟨?_, fun x hx => ?_, fun x hx => hH.sym x (List.mem_of_mem_take hx)⟩
    · have h1 := hH.count
      have h2 := things_count (ws := coinW fs) 15
      rw [List.length_take]
      omega
    · have := hH.len x (List.mem_of_mem_take hx)
      omega
theorem counted_best {fs : List Int} (hfs : freqsB fs = true) {D : List Hp} (h : Counted fs D) : cntS fs.length (allS D) = bestG fs := by
  have hsym := (h.parts hfs).2.2
  have hcount : ∀ j, j < (orderG fs).length → (((allS D).count (((orderG fs).getD j 0 : Nat) : Int) : Nat) : Int) = (lensX fs).getD j 0 := fun j hj => by
    rcases h with ⟨C, hC, h1, rfl⟩ | ⟨h2, H, hH, rfl⟩
    · have hol : (orderG fs).length = 1 := by rw [← h1, hC.count, thingsG, coins_len, coinW_len]
      obtain rfl : j = 0 := by omega
      have h3 := lev_count hC (M := D.length) (Nat.le_refl _) hj
      rw [List.take_length, h1, thingsG, coins_pre (by rw [coinW_len]; omega) 1 (by rw [coinW_len]; omega)] at h3
      rw [h3]
      simp [lensX, hol]
    · have hen := things_enough (ws := coinW fs) coins_rise (coins_pos hfs) (by rw [coinW_len]; omega) (coinW_few hfs)
      rw [coinW_len] at hen
      rw [lev_count hH (by rw [hH.count]; exact hen) hj]
      have e : lensX fs = lensC (coinW fs) := by unfold lensX; rw [if_neg (by omega)]
      rw [e, lensC_at _ _ (by rw [coinW_len]; exact hj), coinW_len]
  apply List.ext_getElem?
  intro s
  have hbl := best_len hfs
  by_cases hs : s < fs.length
  · have e1 : (cntS fs.length (allS D))[s]? = some (((allS D).count (s : Int) : Nat) : Int) := by simp [cntS, hs]
    have e2 : (bestG fs)[s]? = some ((bestG fs).getD s 0) := by
      have : s < (bestG fs).length := by omega
      simp [this]
    rw [e1, e2]
    congr 1
    by_cases h0 : fs.getD s 0 = 0
    · rw [best_none hfs h0]
      have : (allS D).count (s : Int) = 0 := by
        rw [List.count_eq_zero]
        intro hm
        obtain ⟨x, hx, hxs⟩ := List.mem_flatMap.1 hm
        obtain ⟨t, ht, e⟩ := hsym x hx _ hxs
        have : s = t := by omega
        subst this
        exact ((order_mem fs fs.length s).1 ht).2 h0
      rw [this]; rfl
    · obtain ⟨j, hj, e⟩ := order_has hs h0
      have h3 := hcount j hj
      have h4 := best_at hfs hj
      rw [e] at h3 h4
      rw [h3, h4]
  · rw [List.getElem?_eq_none (by rw [cntS_len]; omega), List.getElem?_eq_none (by omega)]

theorem Lst.beside {w w' : World} {ao : Option Addr} {n cap gg : Nat} {D : List Hp} (h : Lst w (.slice ao n cap) D) (g : w.grownBy w' (some gg)) (hl : D.length = n) (hsym : ∀ x ∈ D, ∀ b off, x.co = some ⟨b, off, none⟩ → b ≠ gg) (hrow : 0 < n → ∀ b off, ao = some ⟨b, off, none⟩ → b ≠ gg) : Lst w' (.slice ao n cap) D := by
  obtain ⟨ao', cap', e, hr, hc⟩ := h.form
  simp only [Value.slice.injEq] at e
  obtain ⟨rfl, _, rfl⟩ := e
  refine ⟨⟨ao, cap, by rw [hl], ⟨rfl, fun i hi => ?_⟩, hc⟩, fun x hx => rd_besideP (h.rd x hx) g (fun b off e e2 => hsym x hx b off e (Option.some.inj e2).symm), h.pos⟩
  obtain ⟨b, off, e, c0, c1, c2⟩ := hr.2 i hi
  have hne : some b ≠ some gg := fun e2 => hrow (by omega) b off e (Option.some.inj e2)
  exact ⟨b, off, e, g.cell c0 hne, g.cell c1 hne, g.cell c2 hne⟩
theorem allS_take {D : List Hp} {i : Nat} (hi : i < D.length) : allS (D.take (i + 1)) = allS (D.take i) ++ (at_ D i).ss := by
  have e : at_ D i = D[i] := by simp [at_, hi]
  rw [List.take_succ_eq_append_getElem hi, e]
  unfold allS
  rw [List.flatMap_append]
  congr 1
  simp
theorem allS_len (B : Nat) : ∀ D : List Hp, (∀ x ∈ D, x.ss.length ≤ B) → (allS D).length ≤ D.length * B
  | [], _ => by simp [allS]
  | x :: D, h => by
    have ih := allS_len B D (fun y hy => h y (by simp [hy]))
    have h1 := h x (by simp)
    have e : allS (x :: D) = x.ss ++ allS D := by simp [allS]
    rw [e, List.length_append, List.length_cons, Nat.succ_mul]
    omega
/-- A row of numbers holds no things. -/
theorem row_apart {w : World} {ao : Option Addr} {n cap base gg k : Nat} {D : List Hp} {xs : List Int} (h : Lst w (.slice ao n cap) D) (hl : D.length = n) (ho : w.ownsRow base 3 1 (.slice (some ⟨gg, 0, none⟩) k k) k (xs.map (Value.int .i64))) : 0 < n → ∀ b off, ao = some ⟨b, off, none⟩ → b ≠ gg := by
  intro hn b off e e2
  obtain ⟨ao', cap', e3, hr, _⟩ := h.form
  simp only [Value.slice.injEq] at e3
  obtain ⟨rfl, _, rfl⟩ := e3
  obtain ⟨b', off', e4, _, c1, _⟩ := hr.2 0 (by omega)
  rw [e] at e4
  simp only [Option.some.injEq, Addr.mk.injEq, and_true] at e4
  obtain ⟨rfl, rfl⟩ := e4
  subst e2
  rcases ho.2 with ⟨h1, _⟩ | ⟨g', cp, cur, h1, _, h3, _, _, h6, h7⟩
  · simp at h1
  · simp only [Value.slice.injEq, Option.some.injEq, Addr.mk.injEq, true_and, and_true] at h1
    obtain ⟨rfl, rfl⟩ := h1
    rw [cell_of_row w b (off + 0 * 3 + 1) _ _ (0, 0) h3] at c1
    have hcur : cur.toList = xs.map (Value.int .i64) := by
      rw [← h7]; rw [List.take_of_length_le]; simp [h6]
    rw [← Array.getElem?_toList, hcur, List.getElem?_map] at c1
    cases hx : xs[off + 0 * 3 + 1]? with
    | none => rw [hx] at c1; simp at c1
    | some z => rw [hx] at c1; simp at c1

end Go.Proofs.Ytcbaiagkdphkeaa
