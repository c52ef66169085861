/-
  The things that are counted, in the program.
-/
import Derived.Test.YtcbaiagkdphkeaaCoinsImpl
namespace Go.Proofs.Ytcbaiagkdphkeaa
open Go.RowKit

theorem rises_of {f : Hp → Th} (hf : ∀ h, (f h).w = h.w) : ∀ {L : List Hp}, Rises (L.map f) → L.Pairwise (fun a b => a.w ≤ b.w)
  | [], _ => List.Pairwise.nil
  | x :: L, h => by
    rw [List.map_cons] at h
    obtain ⟨h1, h2⟩ := h
    rw [List.pairwise_cons]
    refine ⟨fun y hy => ?_, rises_of hf h2⟩
    have := h1 (f y) (List.mem_map.2 ⟨y, hy, rfl⟩)
    rw [hf, hf] at this
    exact this
theorem pairsP_mem : ∀ (l : List (Int × List Int)) (P : List Int → Prop), (∀ a ∈ l, ∀ b ∈ l, P (a.2 ++ b.2)) → ∀ p ∈ pairsP l, P p.2
  | a :: b :: r, P, h, p, hp => by
    rw [pairsP] at hp
    rcases List.mem_cons.1 hp with rfl | hp
    · exact h a (by simp) b (by simp)
    · exact pairsP_mem r P (fun x hx y hy => h x (by simp [hx]) y (by simp [hy])) p hp
  | [a], P, h, p, hp => by simp [pairsP] at hp
  | [], P, h, p, hp => by simp [pairsP] at hp

/-- How things stand at a level. -/
structure Lev (fs : List Int) (k : Nat) (H : List Hp) : Prop where
  th : H.map (fun h => thOf (orderG fs) (cont h)) = thingsG (coinsG (coinW fs)) k
  len : ∀ h ∈ H, h.ss.length ≤ 2 ^ k
  sym : ∀ h ∈ H, ∀ s ∈ h.ss, ∃ t : Nat, t ∈ orderG fs ∧ s = (t : Int)
theorem Lev.count {fs : List Int} {k : Nat} {H : List Hp} (h : Lev fs k H) : H.length = (thingsG (coinsG (coinW fs)) k).length := by rw [← h.th, List.length_map]
theorem Lev.weight {fs : List Int} (hfs : freqsB fs = true) {k : Nat} (hk : k ≤ 15) {H : List Hp} (h : Lev fs k H) : ∀ x ∈ H, 0 ≤ x.w ∧ x.w ≤ 1000000000000 := by
  intro x hx
  have hw : ∀ y ∈ coinW fs, 0 ≤ y ∧ y ≤ 1000000 := fun y hy => by
    obtain ⟨i, hi, rfl⟩ := List.getElem_of_mem hy
    rw [coinW_len] at hi
    have h1 := (freqs_parts hfs).2.1 _ (order_in hfs hi).1
    have e : (coinW fs)[i]'(by rw [coinW_len]; exact hi) = fs.getD ((orderG fs).getD i 0) 0 := by rw [← coinW_at fs i hi]; simp [coinW_len, hi]
    rw [e]; exact h1
  have hm : thOf (orderG fs) (cont x) ∈ thingsG (coinsG (coinW fs)) k := by rw [← h.th]; exact List.mem_map.2 ⟨x, hx, rfl⟩
  have hb := (things_bound hw k _ hm).1
  have hp : (2 : Int) ^ k ≤ 2 ^ 15 := by
    have : (2 : Nat) ^ k ≤ 2 ^ 15 := Nat.pow_le_pow_right (by omega) hk
    have e : ((2 ^ k : Nat) : Int) = (2 : Int) ^ k := by simp
    omega
  have e : (thOf (orderG fs) (cont x)).w = x.w := rfl
  rw [e] at hb
  omega
theorem coins_lev {fs : List Int} {C : List Hp} (hC : C.map cont = (orderG fs).map (coinP fs)) : Lev fs 0 C := by
  have hm : ∀ h ∈ C, ∃ t : Nat, t ∈ orderG fs ∧ h.ss = [(t : Int)] := fun h hh => by
    have h1 : cont h ∈ C.map cont := List.mem_map.2 ⟨h, hh, rfl⟩
    rw [hC] at h1
    obtain ⟨t, ht, e⟩ := List.mem_map.1 h1
    exact ⟨t, ht, (congrArg Prod.snd e).symm⟩
  refine ⟨coins_th fs hC, fun h hh => ?_, fun h hh s hs => ?_⟩
  · obtain ⟨t, _, e⟩ := hm h hh
    rw [e]; simp
  · obtain ⟨t, ht, e⟩ := hm h hh
    rw [e, List.mem_singleton] at hs
    exact ⟨t, ht, hs⟩
/-- The next level. -/
theorem Lev.next {fs : List Int} {k : Nat} {C H Q R : List Hp} (hC : Lev fs 0 C) (hH : Lev fs k H) (hQ : Q.map cont = pairsP (H.map cont)) (hp : R.Perm (numH 0 C ++ numH (C.length : Int) Q)) (hs : R.Pairwise (fun a b => ltH b a = false)) : Lev fs (k + 1) R := by
  have hf : ∀ h : Hp, (thOf (orderG fs) (cont h)).w = h.w := fun _ => rfl
  have hcr : Rises (coinsG (coinW fs)) := coins_rise
  have hQt : Q.map (fun h => thOf (orderG fs) (cont h)) = pairsG (thingsG (coinsG (coinW fs)) k) := by
    have e : Q.map (fun h => thOf (orderG fs) (cont h)) = (Q.map cont).map (thOf (orderG fs)) := by rw [List.map_map]; rfl
    have e2 : H.map (fun h => thOf (orderG fs) (cont h)) = (H.map cont).map (thOf (orderG fs)) := by rw [List.map_map]; rfl
    rw [e, hQ, thOf_pairs, ← e2, hH.th]
  have hC1 : C.Pairwise (fun a b => a.w ≤ b.w) := rises_of hf (by rw [hC.th]; exact hcr)
  have hQ1 : Q.Pairwise (fun a b => a.w ≤ b.w) := rises_of hf (by rw [hQt]; exact pairs_rises _ (things_rises hcr k))
  have hR := heap_is hp hs hC1 hQ1
  have hnum : ∀ (c : Int) (A : List Hp), (numH c A).map (fun h => thOf (orderG fs) (cont h)) = A.map (fun h => thOf (orderG fs) (cont h)) := fun c A => by
    have e : ∀ B : List Hp, B.map (fun h => thOf (orderG fs) (cont h)) = (B.map cont).map (thOf (orderG fs)) := fun B => by rw [List.map_map]; rfl
    rw [e, numH_cont, ← e]
  have hmem : ∀ x ∈ R, (∃ y ∈ C, x.ss = y.ss) ∨ ∃ y ∈ Q, x.ss = y.ss := fun x hx => by
    rcases List.mem_append.1 (hp.subset hx) with h1 | h1
    · obtain ⟨_, _, y, hy, _, _, _, h5⟩ := numH_mem _ _ _ h1
      exact .inl ⟨y, hy, h5⟩
    · obtain ⟨_, _, y, hy, _, _, _, h5⟩ := numH_mem _ _ _ h1
      exact .inr ⟨y, hy, h5⟩
  have hQm : ∀ P : List Int → Prop, (∀ a ∈ H, ∀ b ∈ H, P (a.ss ++ b.ss)) → ∀ y ∈ Q, P y.ss := fun P h y hy => by
    have h1 : cont y ∈ Q.map cont := List.mem_map.2 ⟨y, hy, rfl⟩
    rw [hQ] at h1
    refine pairsP_mem (H.map cont) P (fun a ha b hb => ?_) _ h1
    obtain ⟨a', ha', rfl⟩ := List.mem_map.1 ha
    obtain ⟨b', hb', rfl⟩ := List.mem_map.1 hb
    exact h a' ha' b' hb'
  have hpw : 2 ^ (k + 1) = 2 ^ k + 2 ^ k := by rw [Nat.pow_succ]; omega
  have hp1 : 1 ≤ 2 ^ k := Nat.one_le_two_pow
  refine ⟨?_, fun x hx => ?_, fun x hx => ?_⟩
  · rw [hR, mergeH_th _ hf, hnum, hnum, hC.th, hQt]; rfl
  · rcases hmem x hx with ⟨y, hy, e⟩ | ⟨y, hy, e⟩
    · rw [e]; have := hC.len y hy; simp at this; omega
    · rw [e]
      exact hQm (fun l => l.length ≤ 2 ^ (k + 1)) (fun a ha b hb => by rw [List.length_append]; have := hH.len a ha; have := hH.len b hb; omega) y hy
  · rcases hmem x hx with ⟨y, hy, e⟩ | ⟨y, hy, e⟩
    · rw [e]; exact hC.sym y hy
    · rw [e]
      refine hQm (fun l => ∀ s ∈ l, ∃ t : Nat, t ∈ orderG fs ∧ s = (t : Int)) (fun a ha b hb s hs => ?_) y hy
      rcases List.mem_append.1 hs with h1 | h1
      · exact hH.sym a ha s h1
      · exact hH.sym b hb s h1

/-- Things that are read, for a heap that is new. -/
theorem Lst.src {w w' : World} {ao : Option Addr} {cap : Nat} {L : List Hp} (h : Lst w (.slice ao L.length cap) L) (g : w.grownBy w' none) : Src w' (.slice none 0 0) w.heap.size ao L.length L := by
  obtain ⟨ao', cap', e, hr, _⟩ := h.form
  simp only [Value.slice.injEq] at e
  obtain ⟨rfl, _, rfl⟩ := e
  refine ⟨hr.grown g, ⟨fun x hx => (h.rd x hx).grown g, fun x hx b off e => ⟨by simp [Value.ownBlock], ?_⟩, h.pos⟩, fun hn b off e => ⟨by simp [Value.ownBlock], ?_⟩⟩
  · have := (h.rd x hx).lt (h.pos x hx) b off e
    omega
  · obtain ⟨b', off', e', c0, _⟩ := hr.2 0 hn
    rw [e] at e'
    simp only [Option.some.injEq, Addr.mk.injEq, and_true] at e'
    obtain ⟨rfl, rfl⟩ := e'
    have := cell_lt c0
    omega
theorem OwnQ.src {B w : World} {hb : Nat} {v u : Value} {P : List Hp} {ao : Option Addr} {cap : Nat} (h : OwnQ B w u P) (hu : u = .slice ao P.length cap) (hv : ∀ q, v.ownBlock = some q → q < B.heap.size) (hb1 : hb < B.heap.size) : Src w v hb ao P.length P := by
  subst hu
  refine ⟨own_rdT h.own, ⟨h.rd, fun x hx b off e => ?_, h.pos⟩, fun hn b off e => ?_⟩
  · have h1 := (h.away x hx b off e).2
    exact ⟨fun e2 => by have := hv b e2; omega, by omega⟩
  · obtain ⟨g, e2, h2, _⟩ := own_at h.own hn
    rw [e] at e2
    simp only [Option.some.injEq, Addr.mk.injEq, and_true] at e2
    exact ⟨fun e3 => by have := hv b e3; omega, by omega⟩

end Go.Proofs.Ytcbaiagkdphkeaa
