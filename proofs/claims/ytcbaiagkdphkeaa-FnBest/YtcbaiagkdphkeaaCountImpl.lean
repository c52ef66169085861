/-
  The things that are counted, in the program.
-/
import Derived.Test.YtcbaiagkdphkeaaCoinsImpl
namespace Go.Proofs.Ytcbaiagkdphkeaa
open Go.RowKit

theorem rises_of {f : Hp → Th} (hf : ∀ h, (f h).w = h.w) : ∀ {L : List Hp}, Rises (L.map f) → L.Pairwise (fun a b => a.w ≤ b.w)
  | [], _ => List.Pairwise.nil
  | x :: L, h => by
    rw [List.map_cons] at h
    obtain ⟨h1, h2⟩ := h
    rw [List.pairwise_cons]
    refine ⟨fun y hy => ?_, rises_of hf h2⟩
    have := h1 (f y) (List.mem_map.2 ⟨y, hy, rfl⟩)
    rw [hf, hf] at this
    exact this
theorem pairsP_mem : ∀ (l : List (Int × List Int)) (P : List Int → Prop), (∀ a ∈ l, ∀ b ∈ l, P (a.2 ++ b.2)) → ∀ p ∈ pairsP l, P p.2
  | a :: b :: r, P, h, p, hp => by
    rw [pairsP] at hp
    rcases List.mem_cons.1 hp with rfl | hp
    · exact h a (by simp) b (by simp)
    · exact pairsP_mem r P (fun x hx y hy => h x (by simp [hx]) y (by simp [hy])) p hp
  | [a], P, h, p, hp => by simp [pairsP] at hp
  | [], P, h, p, hp => by simp [pairsP] at hp

/-- How things stand at a level. -/
structure Lev (fs : List Int) (k : Nat) (H : List Hp) : Prop where
  th : H.map (fun h => thOf (orderG fs) (cont h)) = thingsG (coinsG (coinW fs)) k
  len : ∀ h ∈ H, h.ss.length ≤ 2 ^ k
  sym : ∀ h ∈ H, ∀ s ∈ h.ss, ∃ t : Nat, t ∈ orderG fs ∧ s = (t : Int)
theorem Lev.count {fs : List Int} {k : Nat} {H : List Hp} (h : Lev fs k H) : H.length = (thingsG (coinsG (coinW fs)) k).length := by rw [← h.th, List.length_map]
theorem Lev.weight {fs : List Int} (hfs : freqsB fs = true) {k : Nat} (hk : k ≤ 15) {H : List Hp} (h : Lev fs k H) : ∀ x ∈ H, 0 ≤ x.w ∧ x.w ≤ 1000000000000 := by
  intro x hx
  have hw : ∀ y ∈ coinW fs, 0 ≤ y ∧ y ≤ 1000000 := fun y hy => by
    obtain ⟨i, hi, rfl⟩ := List.getElem_of_mem hy
    rw [coinW_len] at hi
    have h1 := (freqs_parts hfs).2.1 _ (order_in hfs hi).1
    have e : (coinW fs)[i]'(by rw [coinW_len]; exact hi) = fs.getD ((orderG fs).getD i 0) 0 := by rw [← coinW_at fs i hi]; simp [coinW_len, hi]
    rw [e]; exact h1
  have hm : thOf (orderG fs) (cont x) ∈ thingsG (coinsG (coinW fs)) k := by rw [← h.th]; exact List.mem_map.2 ⟨x, hx, rfl⟩
  have hb := (things_bound hw k _ hm).1
  have hp : (2 : Int) ^ k ≤ 2 ^ 15 := by
    have : (2 : Nat) ^ k ≤ 2 ^ 15 := Nat.pow_le_pow_right (by omega) hk
    have e : ((2 ^ k : Nat) : Int) = (2 : Int) ^ k := by simp
    omega
  have e : (thOf (orderG fs) (cont x)).w = x.w := rfl
  rw [e] at hb
  omega
theorem coins_lev {fs : List Int} {C : List Hp} (hC : C.map cont = (orderG fs).map (coinP fs)) : Lev fs 0 C := by
  have hm : ∀ h ∈ C, ∃ t : Nat, t ∈ orderG fs ∧ h.ss = [(t : Int)] := fun h hh => by
    have h1 : cont h ∈ C.map cont := List.mem_map.2 ⟨h, hh, rfl⟩
    rw [hC] at h1
    obtain ⟨t, ht, e⟩ := List.mem_map.1 h1
    exact ⟨t, ht, (congrArg Prod.snd e).symm⟩
  refine ⟨coins_th fs hC, fun h hh => ?_, fun h hh s hs => ?_⟩
  · obtain ⟨t, _, e⟩ := hm h hh
    rw [e]; simp
  · obtain ⟨t, ht, e⟩ := hm h hh
    rw [e, List.mem_singleton] at hs
    exact ⟨t, ht, hs⟩
/-- The next level. -/
theorem Lev.next {fs : List Int} {k : Nat} {C H Q R : List Hp} (hC : Lev fs 0 C) (hH : Lev fs k H) (hQ : Q.map cont = pairsP (H.map cont)) (hp : R.Perm (numH 0 C ++ numH (C.length : Int) Q)) (hs : R.Pairwise (fun a b => ltH b a = false)) : Lev fs (k + 1) R := by
  have hf : ∀ h : Hp, (thOf (orderG fs) (cont h)).w = h.w := fun _ => rfl
  have hcr : Rises (coinsG (coinW fs)) := coins_rise
  have hQt : Q.map (fun h => thOf (orderG fs) (cont h)) = pairsG (thingsG (coinsG (coinW fs)) k) := by
    have e : Q.map (fun h => thOf (orderG fs) (cont h)) = (Q.map cont).map (thOf (orderG fs)) := by rw [List.map_map]; rfl
    have e2 : H.map (fun h => thOf (orderG fs) (cont h)) = (H.map cont).map (thOf (orderG fs)) := by rw [List.map_map]; rfl
    rw [e, hQ, thOf_pairs, ← e2, hH.th]
  have hC1 : C.Pairwise (fun a b => a.w ≤ b.w) := rises_of hf (by rw [hC.th]; exact hcr)
  have hQ1 : Q.Pairwise (fun a b => a.w ≤ b.w) := rises_of hf (by rw [hQt]; exact pairs_rises _ (things_rises hcr k))
  have hR := heap_is hp hs hC1 hQ1
  have hnum : ∀ (c : Int) (A : List Hp), (numH c A).map (fun h => thOf (orderG fs) (cont h)) = A.map (fun h => thOf (orderG fs) (cont h)) := fun c A => by
    have e : ∀ B : List Hp, B.map (fun h => thOf (orderG fs) (cont h)) = (B.map cont).map (thOf (orderG fs)) := fun B => by rw [List.map_map]; rfl
    rw [e, numH_cont, ← e]
  have hmem : ∀ x ∈ R, (∃ y ∈ C, x.ss = y.ss) ∨ ∃ y ∈ Q, x.ss = y.ss := fun x hx => by
    rcases List.mem_append.1 (hp.subset hx) with h1 | h1
    · obtain ⟨_, _, y, hy, _, _, _, h5⟩ := numH_mem _ _ _ h1
      exact .inl ⟨y, hy, h5⟩
    · obtain ⟨_, _, y, hy, _, _, _, h5⟩ := numH_mem _ _ _ h1
      exact .inr ⟨y, hy, h5⟩
  have hQm : ∀ P : List Int → Prop, (∀ a ∈ H, ∀ b ∈ H, P (a.ss ++ b.ss)) → ∀ y ∈ Q, P y.ss := fun P h y hy => by
    have h1 : cont y ∈ Q.map cont := List.mem_map.2 ⟨y, hy, rfl⟩
    rw [hQ] at h1
    refine pairsP_mem (H.map cont) P (fun a ha b hb => ?_) _ h1
    obtain ⟨a', ha', rfl⟩ := List.mem_map.1 ha
    obtain ⟨b', hb', rfl⟩ := List.mem_map.1 hb
    exact h a' ha' b' hb'
  have hpw : 2 ^ (k + 1) = 2 ^ k + 2 ^ k := by rw [Nat.pow_succ]; omega
  have hp1 : 1 ≤ 2 ^ k := Nat.one_le_two_pow
  refine ⟨?_, fun x hx => ?_, fun x hx => ?_⟩
  · rw [hR, mergeH_th _ hf, hnum, hnum, hC.th, hQt]; rfl
  · rcases hmem x hx with ⟨y, hy, e⟩ | ⟨y, hy, e⟩
    · rw [e]; have := hC.len y hy; simp at this; omega
    · rw [e]
      exact hQm (fun l => l.length ≤ 2 ^ (k + 1)) (fun a ha b hb => by rw [List.length_append]; have := hH.len a ha; have := hH.len b hb; omega) y hy
  · rcases hmem x hx with ⟨y, hy, e⟩ | ⟨y, hy, e⟩
    · rw [e]; exact hC.sym y hy
    · rw [e]
      refine hQm (fun l => ∀ s ∈ l, ∃ t : Nat, t ∈ orderG fs ∧ s = (t : Int)) (fun a ha b hb s hs => ?_) y hy
      rcases List.mem_append.1 hs with h1 | h1
      · exact hH.sym a ha s h1
      · exact hH.sym b hb s h1

/-- Things that are read, for a heap that is new. -/
theorem Lst.src {w w' : World} {ao : Option Addr} {cap : Nat} {L : List Hp} (h : Lst w (.slice ao L.length cap) L) (g : w.grownBy w' none) : Src w' (.slice none 0 0) w.heap.size ao L.length L := by
  obtain ⟨ao', cap', e, hr, _⟩ := h.form
  simp only [Value.slice.injEq] at e
  obtain ⟨rfl, _, rfl⟩ := e
  refine ⟨hr.grown g, ⟨fun x hx => (h.rd x hx).grown g, fun x hx b off e => ⟨by simp [Value.ownBlock], ?_⟩, h.pos⟩, fun hn b off e => ⟨by simp [Value.ownBlock], ?_⟩⟩
  · have := (h.rd x hx).lt (h.pos x hx) b off e
    omega
  · obtain ⟨b', off', e', c0, _⟩ := hr.2 0 hn
    rw [e] at e'
    simp only [Option.some.injEq, Addr.mk.injEq, and_true] at e'
    obtain ⟨rfl, rfl⟩ := e'
    have := cell_lt c0
    omega
theorem OwnQ.src {B w : World} {hb : Nat} {v u : Value} {P : List Hp} {ao : Option Addr} {cap : Nat} (h : OwnQ B w u P) (hu : u = .slice ao P.length cap) (hv : ∀ q, v.ownBlock = some q → q < B.heap.size) (hb1 : hb < B.heap.size) : Src w v hb ao P.length P := by
  subst hu
  refine ⟨own_rdT h.own, ⟨h.rd, fun x hx b off e => ?_, h.pos⟩, fun hn b off e => ?_⟩
  · have h1 := (h.away x hx b off e).2
    exact ⟨fun e2 => by have := hv b e2; omega, by omega⟩
  · obtain ⟨g, e2, h2, _⟩ := own_at h.own hn
    rw [e] at e2
    simp only [Option.some.injEq, Addr.mk.injEq, and_true] at e2
    exact ⟨fun e3 => by have := hv b e3; omega, by omega⟩
theorem Lst.cut {w : World} {ao : Option Addr} {cap n : Nat} {L : List Hp} (h : Lst w (.slice ao L.length cap) L) (hn : n ≤ L.length) : Lst w (.slice ao n cap) (L.take n) := by
  obtain ⟨ao', cap', e, hr, hc1, hc2⟩ := h.form
  simp only [Value.slice.injEq] at e
  obtain ⟨rfl, _, rfl⟩ := e
  have hl : (L.take n).length = n := by simp; omega
  refine ⟨⟨ao, cap, by rw [hl], ⟨rfl, fun i hi => ?_⟩, by omega, hc2⟩, fun x hx => h.rd x (List.mem_of_mem_take hx), fun x hx => h.pos x (List.mem_of_mem_take hx)⟩
  rw [hl] at hi
  have e : at_ (L.take n) i = at_ L i := by simp [at_, hi]
  rw [e]
  exact hr.2 i (by omega)

/-- The things whose symbols are counted. -/
def Counted (fs : List Int) (D : List Hp) : Prop := (∃ C, Lev fs 0 C ∧ C.length = 1 ∧ D = C) ∨ (2 ≤ (orderG fs).length ∧ ∃ H, Lev fs 15 H ∧ D = H.take (2 * (orderG fs).length - 2))

set_option maxRecDepth 20000 in
set_option maxHeartbeats 3200000 in
theorem implCounted {fs : List Int} (hfs : freqsB fs = true) (ao : Option Addr) (m ca : Nat) (C : List Hp) (w : World) (hl : Lst w (.slice ao m ca) C) (hm : C.length = m) (hC : Lev fs 0 C) (s : Nat) (hs : s ≤ w.heap.size) (hlo : Low s C) :
    Calls Try.prog 41 #[.slice ao m ca] w fun e w' => ∃ bo k cb D, e = .returned (.slice bo k cb) ∧ D.length = k ∧ Lst w' (.slice bo k cb) D ∧ w.grownBy w' none ∧ Counted fs D ∧ Low s D := by
  have hmo : m = (orderG fs).length := by rw [← hm, hC.count, thingsG, coins_len, coinW_len]
  have hm1 : 1 ≤ m := by rw [hmo]; exact order_pos hfs
  have hm2 : m ≤ 256 := by
    have := coinW_few hfs
    rw [coinW_len] at this
    omega
  have HM := hide hm
  have HLC := hide hl
  have HC := hide hC
  have HMO := hide hmo
  have HLO := hide hlo
  clear hl hC hm hmo hlo
  by_cases h1 : m = 1
  · subst h1
    have HF : Hid (Counted fs C) := .inl ⟨C, unhide HC, unhide HM, rfl⟩
    go_enter Try.func41, Try.ntmps41
    go_wp2
    go_ret
    exact ⟨ao, 1, ca, C, rfl, unhide HM, unhide HLC, World.grownBy.refl _ _, unhide HF, unhide HLO⟩
  · have hne : ((m : Int) == 1) = false := by simp; omega
    have e1 := i64_in (2 * (m : Int)) (by omega)
    have e2 := i64_in (2 * (m : Int) - 2) (by omega)
    obtain ⟨m2, hm2'⟩ : ∃ m2, 2 * m - 2 = m2 := ⟨_, rfl⟩
    have e3 : 2 * (m : Int) - 2 = (m2 : Int) := by omega
    rw [e3] at e2
    have hen : Hid (m2 ≤ (thingsG (coinsG (coinW fs)) 15).length) := by
      have h := things_enough (ws := coinW fs) coins_rise (coins_pos hfs) (by rw [coinW_len, ← unhide HMO]; exact hm1) (coinW_few hfs)
      rw [coinW_len, ← unhide HMO] at h
      unfold Hid; omega
    go_enter Try.func41, Try.ntmps41
    go_wp2
    go_loopw [3, 10] (fun v kv wr => ∃ (k : Nat) (bo : Option Addr) (n cb : Nat) (H : List Hp), k ≤ 15 ∧ kv = .int .i64 k ∧ v = .slice bo n cb ∧ Hid (H.length = n) ∧ Hid (Lst wr (.slice bo n cb) H) ∧ Hid (w.grownBy wr none) ∧ Hid (Lev fs k H) ∧ Hid (Low s H)) (fun _ kv _ => 15 - (intOf kv).toNat)
    case atStart => exact ⟨0, ao, m, ca, C, by omega, rfl, rfl, HM, HLC, World.grownBy.refl _ _, HC, HLO⟩
    case round =>
      obtain ⟨k, bo, n, cb, H, hk, rfl, rfl, hHl, hlst, hg, hlev, hlow⟩ := hrel
      by_cases hlt : k < 15
      · have hkI : (k : Int) < 15 := by omega
        have hn5 : n ≤ 512 := by
          have h1 := (unhide hlev).count
          have h2 := things_count (ws := coinW fs) k
          rw [coinW_len, ← unhide HMO] at h2
          rw [unhide hHl] at h1
          omega
        have HN5 := hide hn5
        have HX0 := hide (heap_new wr)
        obtain ⟨w1, HW1⟩ : ∃ w1, Hid (wr.alloc (.cells #[.slice none 0 0, .int .i64 0] 78) = w1) := ⟨_, rfl⟩
        obtain ⟨hb, HHB⟩ : ∃ hb, Hid (hb = wr.heap.size) := ⟨_, rfl⟩
        rw [unhide HW1, ← unhide HHB] at HX0
        have hgr1 : wr.grownBy w1 none := (unhide HX0).grown
        have hsrcC : Src w1 (.slice none 0 0) hb ao m C := by
          have h1 := (unhide HLC).more (unhide hg)
          rw [← unhide HM] at h1
          have h2 := h1.src hgr1
          rw [unhide HM, ← unhide HHB] at h2
          exact h2
        have HA1 := hide (implAdd (cap := ca) (unhide HX0) (fun _ _ h => absurd h (by simp)) hsrcC (by simp; omega) ⟨by omega, by omega⟩)
        have HWT := hide ((unhide hlev).weight hfs (by omega))
        have HSL : Hid (∀ x ∈ H, x.ss.length ≤ 200000) := fun x hx => by
          have h1 := (unhide hlev).len x hx
          have h2 : 2 ^ k ≤ 2 ^ 15 := Nat.pow_le_pow_right (by omega) (by omega)
          omega
        clear hgr1 hsrcC hn5
        go_wp2_with fail
        rw [unhide HW1, ← unhide HHB]
        refine (unhide HA1).mono ?_
        rintro e w2 ⟨rfl, v2, L2, hx2, hn2, hp2⟩
        have hg2 := hx2.grown
        have hl2 := (unhide hlst).more hg2
        obtain ⟨bo', cb', e', hrd2, _⟩ := hl2.form
        have hrd3 : RdP w2 bo n H := by
          simp only [Value.slice.injEq] at e'
          obtain ⟨rfl, h3, rfl⟩ := e'
          rw [← h3] at hrd2
          exact hrd2
        have HP := hide (implPairs bo n cb H w2 hrd3 hl2.rd hl2.pos (by have := unhide HN5; omega) (unhide HWT) (unhide HSL))
        have HX2 := hide hx2
        have HN2 := hide hn2
        have HP2 := hide hp2
        clear hx2 hn2 hp2 hg2 hl2 hrd2 hrd3 HA1 HX0 e'
        go_wp2_with fail
        refine (unhide HP).mono ?_
        rintro e w3 ⟨u3, Q, rfl, hown3, hQ⟩
        obtain ⟨qo, qc, rfl⟩ := own_form hown3.own
        have hx3 := (unhide HX2).more hown3.grown
        have hsrc3 := hown3.src (v := v2) (hb := hb) rfl (fun q e => ((unhide HX2).own.lt q e).2) (unhide HX2).lt
        have hQl : Q.length ≤ 256 := by
          have h1 := congrArg List.length hQ
          rw [List.length_map, pairsP_len, List.length_map, unhide hHl] at h1
          have := unhide HN5
          omega
        have hL2l : L2.length = m := by
          have h1 := (unhide HP2).length_eq
          rw [List.nil_append, numH_len, unhide HM] at h1
          exact h1
        have HA3 := hide (implAdd (cap := qc) hx3 (unhide HN2) hsrc3 (by omega) ⟨by omega, by omega⟩)
        have HLQ : Hid (Low s Q) := fun x hx b off e => by
          have h1 := (hown3.away x hx b off e).2
          have h2 := (unhide HX2).grown.size
          have h3 := (unhide hg).size
          dsimp only at h2
          omega
        have HQ := hide hQ
        have HQL := hide hQl
        have HL2L := hide hL2l
        clear hx3 hsrc3 hQl hL2l hown3 hQ HP
        obtain ⟨ql, HQLe⟩ : ∃ ql, Hid (Q.length = ql) := ⟨_, rfl⟩
        rw [unhide HQLe] at HA3 ⊢
        go_wp2_with fail
        refine (unhide HA3).mono ?_
        rintro e w4 ⟨rfl, v4, L4, hx4, hn4, hp4⟩
        have hl4 : L4.length ≤ 900 := by
          have h1 := hp4.length_eq
          rw [List.length_append, numH_len, unhide HL2L] at h1
          have := unhide HQLe
          have := unhide HQL
          omega
        have HTA := hide (implTakeAll hx4 hn4 hl4)
        have HP4 := hide hp4
        clear hx4 hn4 hp4 hl4 HA3
        go_wp2_with fail
        refine (unhide HTA).mono ?_
        rintro e w5 ⟨u5, R, rfl, hlst5, hg5, hp5, hs5, _⟩
        obtain ⟨ro, rc, rfl, _⟩ := hlst5.form
        have HLEV : Hid (Lev fs (k + 1) R) := by
          refine (unhide HC).next (unhide hlev) (unhide HQ) ?_ hs5
          refine hp5.trans ((unhide HP4).trans ?_)
          have h2 := unhide HP2
          rw [List.nil_append] at h2
          have e5 : (0 : Int) + (m : Int) = (C.length : Int) := by rw [unhide HM]; omega
          rw [e5]
          exact h2.append_right _
        have HLR : Hid (Low s R) := fun x hx b off e => by
          have h6 := (hp5.trans (unhide HP4)).subset hx
          rcases List.mem_append.1 h6 with h7 | h7
          · have h8 := (unhide HP2).subset h7
            rw [List.nil_append] at h8
            exact (unhide HLO).num (R := [x]) (c := 0) (fun y hy => by rw [List.mem_singleton] at hy; rw [hy]; exact h8) x (by simp) b off e
          · exact (unhide HLQ).num (R := [x]) (fun y hy => by rw [List.mem_singleton] at hy; rw [hy]; exact h7) x (by simp) b off e
        obtain ⟨rl, HRL⟩ : ∃ rl, Hid (R.length = rl) := ⟨_, rfl⟩
        rw [unhide HRL] at hlst5 ⊢
        have HLST5 := hide hlst5
        have HG5 := hide (grown_trans (unhide hg) hg5)
        clear hlst5 hg5 hp5 hs5 HTA HP4 HP2 HQ HQL HQLe HL2L HN2 HX2 hlst hg hlev
        go_wp2
        go_roundw
        case rel => exact ⟨k + 1, ro, rl, rc, R, by omega, by go_num, rfl, HRL, HLST5, HG5, HLEV, HLR⟩
        case measure => simp [intOf]; omega
      · obtain rfl : k = 15 := by omega
        have hmn : m2 ≤ n := by
          have h1 := (unhide hlev).count
          rw [unhide hHl] at h1
          have := unhide hen
          omega
        obtain ⟨bo', cb', e', _, hc1, hc2⟩ := (unhide hlst).form
        simp only [Value.slice.injEq] at e'
        obtain ⟨rfl, h3, rfl⟩ := e'
        unfold maxLen at hc2
        have hmc : (m2 : Int) ≤ (cb : Int) := by omega
        have hcb : ¬ cb = 0 := by omega
        have HF : Hid ((H.take m2).length = m2 ∧ Lst wr (.slice bo m2 cb) (H.take m2) ∧ Counted fs (H.take m2)) := by
          refine ⟨by rw [List.length_take, unhide hHl]; omega, ?_, .inr ⟨by rw [← unhide HMO]; omega, H, unhide hlev, by rw [← unhide HMO, hm2']⟩⟩
          have h4 := unhide hlst
          rw [h3] at h4
          exact h4.cut (by rw [unhide hHl]; exact hmn)
        have hbo : ∃ bb off, bo = some ⟨bb, off, none⟩ := by
          obtain ⟨bo', cb', e', hrd, _⟩ := (unhide hlst).form
          simp only [Value.slice.injEq] at e'
          obtain ⟨rfl, h4, rfl⟩ := e'
          obtain ⟨bb, off, e5, _⟩ := hrd.2 0 (by omega)
          exact ⟨bb, off, e5⟩
        obtain ⟨bb, off, rfl⟩ := hbo
        clear h3 hc1 hlst hlev hHl
        go_wp2
        go_ret
        exact ⟨_, m2, cb, H.take m2, rfl, (unhide HF).1, (unhide HF).2.1, unhide hg, (unhide HF).2.2, fun x hx => unhide hlow x (List.mem_of_mem_take hx)⟩

end Go.Proofs.Ytcbaiagkdphkeaa
