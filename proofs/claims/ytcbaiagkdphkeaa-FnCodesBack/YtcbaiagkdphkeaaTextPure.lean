/-
  Texts of codes, as mathematics: a symbol is found at its code, and symbols are read back from their codes.
-/
import Derived.Test.YtcbaiagkdphkeaaCodesPure
import Derived.Test.YtcbaiagkdphkeaaNumPure
namespace Go.Proofs.Ytcbaiagkdphkeaa

/-- The first symbol that has a code. -/
def findC (cs : List (Int × Int)) (l x : Int) : Nat → Option Nat
  | 0 => none
  | k + 1 => match findC cs l x k with
    | some s => some s
    | none => if cs.getD k (0, 0) = (l, x) then some k else none
theorem findC_some {cs : List (Int × Int)} {l x : Int} : ∀ {k s : Nat}, findC cs l x k = some s → s < k ∧ cs.getD s (0, 0) = (l, x)
  | k + 1, s, h => by
    unfold findC at h
    cases hf : findC cs l x k with
    | some t =>
      rw [hf] at h
      have e := Option.some.inj h
      subst e
      have := findC_some hf
      exact ⟨by omega, this.2⟩
    | none =>
      rw [hf] at h
      dsimp only at h
      split at h
      · rename_i hc
        have e := Option.some.inj h
        subst e
        exact ⟨by omega, hc⟩
      · simp at h
theorem findC_none {cs : List (Int × Int)} {l x : Int} : ∀ {k : Nat}, findC cs l x k = none → ∀ s, s < k → cs.getD s (0, 0) ≠ (l, x)
  | k + 1, h, s, hs => by
    unfold findC at h
    cases hf : findC cs l x k with
    | some t => rw [hf] at h; simp at h
    | none =>
      rw [hf] at h
      dsimp only at h
      split at h
      · simp at h
      · rename_i hc
        by_cases e : s = k
        · subst e; exact hc
        · exact findC_none hf s (by omega)
/-- The symbol at a place of bytes, of codes of more than l bits, and where it ends. -/
def symF (cs : List (Int × Int)) (zs : List Int) (p : Nat) : Nat → Nat → Option (Nat × Nat)
  | 0, _ => none
  | f + 1, l => if 8 * zs.length ≤ p + l then none else match findC cs ((l + 1 : Nat) : Int) (numAt zs p (l + 1)) cs.length with
    | some s => some (s, p + (l + 1))
    | none => symF cs zs p f (l + 1)
def symG (cs : List (Int × Int)) (zs : List Int) (p : Nat) : Option (Nat × Nat) := symF cs zs p 16 0
/-- So many symbols from a place on. -/
def symsG (cs : List (Int × Int)) (zs : List Int) : Nat → Nat → Option (List Int)
  | _, 0 => some []
  | p, n + 1 => match symG cs zs p with
    | some (s, q) => (symsG cs zs q n).map fun t => (s : Int) :: t
    | none => none

/-- The symbol whose code lies at a place is found there. -/
theorem sym_found {xs zs : List Int} (h : lensB xs = true) {s : Nat} (hs : s < xs.length) (h0 : xs.getD s 0 ≠ 0) {p L : Nat} (hL : xs.getD s 0 = (L : Int)) (hp : p + L ≤ 8 * zs.length) (hn : ∀ j, j ≤ L → numAt zs p j = (codeG xs s).2 / 2 ^ (L - j)) :
    ∀ (f l : Nat), l < L → L ≤ l + f → symF (codesG xs) zs p f l = some (s, p + L)
  | 0, l, h1, h2 => by omega
  | f + 1, l, h1, h2 => by
    unfold symF
    rw [if_neg (by omega)]
    rw [hn (l + 1) (by omega), codes_len h]
    cases hf : findC (codesG xs) ((l + 1 : Nat) : Int) ((codeG xs s).2 / 2 ^ (L - (l + 1))) xs.length with
    | some t =>
      obtain ⟨ht, hc⟩ := findC_some hf
      rw [codes_at h t ht] at hc
      have hl1 : xs.getD t 0 = ((l + 1 : Nat) : Int) := by rw [← code_len xs t, hc]
      by_cases e : t = s
      · subst e
        have e2 : L = l + 1 := by omega
        rw [e2]
      · exfalso
        refine code_prefix h ht hs e (by omega) (L - (l + 1)) (by rw [hL, hl1]; omega) ?_
        rw [hc]
    | none =>
      dsimp only
      have hne : l + 1 ≠ L := by
        intro e
        have := findC_none hf s hs
        rw [codes_at h s hs] at this
        apply this
        rw [e, Nat.sub_self]
        have e1 : (codeG xs s).1 = (L : Int) := by rw [code_len, hL]
        have e3 : (codeG xs s).2 / 2 ^ 0 = (codeG xs s).2 := by simp
        rw [e3, ← e1]
      exact sym_found h hs h0 hL hp hn f (l + 1) (by omega) (by omega)

/-- The fields of symbols. -/
def textF (xs : List Int) (ss : List Nat) : List (Int × Int) := ss.map (codeG xs)
theorem syms_back {xs : List Int} (h : lensB xs = true) : ∀ (ss : List Nat) (pre post : List Bool), (∀ s ∈ ss, s < xs.length ∧ xs.getD s 0 ≠ 0) → symsG (codesG xs) (packB (pre ++ (allBits (textF xs ss) ++ post))) pre.length ss.length = some (ss.map fun s : Nat => (s : Int))
  | [], pre, post, _ => rfl
  | s :: ss, pre, post, hss => by
    obtain ⟨hs, h0⟩ := hss s (by simp)
    have hb := (lens_parts h).2.1 s hs
    obtain ⟨L, hL⟩ := Int.eq_ofNat_of_zero_le hb.1
    have hc1 : (codeG xs s).1 = (L : Int) := by rw [code_len, hL]
    have hfit := code_fits h hs
    rw [hc1, Int.toNat_natCast] at hfit
    have e : allBits (textF xs (s :: ss)) = bitsOf L (codeG xs s).2 ++ allBits (textF xs ss) := by
      unfold textF allBits
      rw [List.map_cons, List.flatMap_cons, hc1, Int.toNat_natCast]
    rw [e, List.append_assoc]
    have hlen : pre.length + L ≤ 8 * (packB (pre ++ (bitsOf L (codeG xs s).2 ++ (allBits (textF xs ss) ++ post)))).length := by
      rw [packB_len]
      simp only [List.length_append, bitsOf_len]
      omega
    have hsym : symG (codesG xs) (packB (pre ++ (bitsOf L (codeG xs s).2 ++ (allBits (textF xs ss) ++ post)))) pre.length = some (s, pre.length + L) := by
      refine sym_found h hs h0 hL hlen (fun j hj => ?_) 16 0 (by omega) (by omega)
      rw [numAt_pack _ _ _ (by omega), byteK_bits _ pre.length L _ hfit.1 hfit.2 (fun i hi => one_mid pre _ L _ i hi) j hj]
    have ih := syms_back h ss (pre ++ bitsOf L (codeG xs s).2) post (fun t ht => hss t (by simp [ht]))
    rw [List.append_assoc, List.length_append, bitsOf_len] at ih
    rw [List.length_cons, symsG, hsym]
    dsimp only
    rw [ih]
    rfl

end Go.Proofs.Ytcbaiagkdphkeaa
