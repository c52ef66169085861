/-
  What the bit coder made of bins is read back, as mathematics over the specification's functions.
-/
import Derived.Test.YtekidfkahpaokaaBinRows
namespace Go.Proofs.Ytekidfkahpaokaa
open Go.RowKit

theorem byteS_nat (l : List Nat) (i : Nat) : byteS (l.map (fun x : Nat => (x : Int))) i = l.getD i 0 := by
  unfold byteS
  by_cases h : i < l.length
  · simp [List.getD_eq_getElem?_getD, h]
  · rw [List.getD_eq_getElem?_getD, List.getD_eq_getElem?_getD, List.getElem?_eq_none (by simp; omega), List.getElem?_eq_none (by omega)]; rfl
theorem bins_ctxs {fs : List (Int × Int)} (h : binsB fs = true) : ctxsB (fs.map Prod.fst) = true := by
  unfold binsB at h
  rw [Bool.and_eq_true] at h
  unfold ctxsB
  rw [Bool.and_eq_true]
  refine ⟨by rw [List.length_map]; exact h.1, ?_⟩
  rw [List.all_eq_true]
  intro x hx
  obtain ⟨y, hy, rfl⟩ := List.mem_map.1 hx
  have h1 := List.all_eq_true.1 h.2 y hy
  unfold binB at h1
  rw [Bool.and_eq_true] at h1
  exact h1.1
theorem bins_bits {fs : List (Int × Int)} (h : binsB fs = true) : ∀ x ∈ fs, 0 ≤ x.2 ∧ x.2 ≤ 1 := by
  unfold binsB at h
  rw [Bool.and_eq_true] at h
  intro y hy
  have h1 := List.all_eq_true.1 h.2 y hy
  unfold binB at h1
  rw [Bool.and_eq_true] at h1
  exact of_decide_eq_true h1.2
theorem enc_start {fs : List (Int × Int)} (h : binsB fs = true) (mn : List Nat) (hm : ∀ x ∈ mn, x ≤ 255) : bitsD (byteS (encG fs ++ mn.map (fun x : Nat => (x : Int)))) like0 ⟨prefV (byteS (encG fs ++ mn.map (fun x : Nat => (x : Int)))) 4, 4294967295, 4⟩ ((binsN fs).map Prod.fst) = (binsN fs).map Prod.snd := by
  obtain ⟨e1, e2, e3⟩ := end_ok (enc_okE fs)
  have hbb : encG fs ++ mn.map (fun x : Nat => (x : Int)) = ((encN fs).reverse ++ mn).map (fun x : Nat => (x : Int)) := by rw [encG, if_pos h, List.map_append]
  have hB : byteS (encG fs ++ mn.map (fun x : Nat => (x : Int))) = fun i => ((encN fs).reverse ++ mn).getD i 0 := by funext i; rw [hbb, byteS_nat]
  have hB255 : ∀ i, (fun i => ((encN fs).reverse ++ mn).getD i 0) i ≤ 255 := fun i => by
    dsimp only
    by_cases hi : i < ((encN fs).reverse ++ mn).length
    · have hmem : ((encN fs).reverse ++ mn).getD i 0 ∈ (encN fs).reverse ++ mn := by
        have e : ((encN fs).reverse ++ mn).getD i 0 = ((encN fs).reverse ++ mn)[i] := by rw [List.getD_eq_getElem?_getD, List.getElem?_eq_getElem hi]; rfl
        rw [e]; exact List.getElem_mem hi
      rcases List.mem_append.1 hmem with h1 | h1
      · have := e1 _ (List.mem_reverse.1 h1); omega
      · exact hm _ h1
    · rw [List.getD_eq_getElem?_getD, List.getElem?_eq_none (by omega)]; simp
  have hbits : ∀ x ∈ binsN fs, x.2 ≤ 1 := fun x hx => by
    obtain ⟨y, hy, rfl⟩ := List.mem_map.1 hx
    have := bins_bits h y hy
    dsimp only
    omega
  have hV : prefV (fun i => ((encN fs).reverse ++ mn).getD i 0) ((bitsE like0 en0 (binsN fs)).out.length + 4) = (bitsE like0 en0 (binsN fs)).V := by
    have hp := pref_val (encN fs) mn
    have hl : (encN fs).length = (bitsE like0 en0 (binsN fs)).out.length + 4 := e2
    rw [← hl, hp]
    exact e3
  have hbk := bits_back hB255 (binsN fs) like0 en0 like0_ok start_ok hbits hV
  have hV0 : en0.V = 0 := by simp [En.V, en0, valR]
  rw [hV0] at hbk
  rw [hB]
  exact hbk
theorem enc_back {fs : List (Int × Int)} (h : binsB fs = true) (mn : List Nat) (hm : ∀ x ∈ mn, x ≤ 255) : decG (encG fs ++ mn.map (fun x : Nat => (x : Int))) (fs.map Prod.fst) = fs.map Prod.snd := by
  have hN : ctxsN (fs.map Prod.fst) = (binsN fs).map Prod.fst := by simp [ctxsN, binsN]
  rw [decG, if_pos (bins_ctxs h), decN, hN, enc_start h mn hm, binsN, List.map_map, List.map_map]
  apply List.map_congr_left
  intro x hx
  have := bins_bits h x hx
  simp
  omega

end Go.Proofs.Ytekidfkahpaokaa
