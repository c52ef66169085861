/-
  The things that are counted, in the program: the walk.
-/
import Derived.Test.YtcbaiagkdphkeaaCountImpl
namespace Go.Proofs.Ytcbaiagkdphkeaa
open Go.RowKit

theorem Lst.cut {w : World} {ao : Option Addr} {cap n : Nat} {L : List Hp} (h : Lst w (.slice ao L.length cap) L) (hn : n ≤ L.length) : Lst w (.slice ao n cap) (L.take n) := by
  obtain ⟨ao', cap', e, hr, hc1, hc2⟩ := h.form
  simp only [Value.slice.injEq] at e
  obtain ⟨rfl, _, rfl⟩ := e
  have hl : (L.take n).length = n := by simp; omega
  refine ⟨⟨ao, cap, by rw [hl], ⟨rfl, fun i hi => ?_⟩, by omega, hc2⟩, fun x hx => h.rd x (List.mem_of_mem_take hx), fun x hx => h.pos x (List.mem_of_mem_take hx)⟩
  rw [hl] at hi
  have e : at_ (L.take n) i = at_ L i := by simp [at_, hi]
  rw [e]
  exact hr.2 i (by omega)

/-- The things whose symbols are counted. -/
def Counted (fs : List Int) (D : List Hp) : Prop := (∃ C, Lev fs 0 C ∧ C.length = 1 ∧ D = C) ∨ (2 ≤ (orderG fs).length ∧ ∃ H, Lev fs 15 H ∧ D = H.take (2 * (orderG fs).length - 2))

set_option maxRecDepth 20000 in
set_option maxHeartbeats 3200000 in
theorem implCounted {fs : List Int} (hfs : freqsB fs = true) (ao : Option Addr) (m ca : Nat) (C : List Hp) (w : World) (hl : Lst w (.slice ao m ca) C) (hm : C.length = m) (hC : Lev fs 0 C) (s : Nat) (hs : s ≤ w.heap.size) (hlo : Low s C) :
    Calls Try.prog 41 #[.slice ao m ca] w fun e w' => ∃ bo k cb D, e = .returned (.slice bo k cb) ∧ D.length = k ∧ Lst w' (.slice bo k cb) D ∧ w.grownBy w' none ∧ Counted fs D ∧ Low s D := by
  have hmo : m = (orderG fs).length := by rw [← hm, hC.count, thingsG, coins_len, coinW_len]
  have hm1 : 1 ≤ m := by rw [hmo]; exact order_pos hfs
  have hm2 : m ≤ 256 := by
    have := coinW_few hfs
    rw [coinW_len] at this
    omega
  have HM := hide hm
  have HLC := hide hl
  have HC := hide hC
  have HMO := hide hmo
  have HLO := hide hlo
  clear hl hC hm hmo hlo
  by_cases h1 : m = 1
  · subst h1
    have HF : Hid (Counted fs C) := .inl ⟨C, unhide HC, unhide HM, rfl⟩
    go_enter Try.func41, Try.ntmps41
    go_wp2
    go_ret
    exact ⟨ao, 1, ca, C, rfl, unhide HM, unhide HLC, World.grownBy.refl _ _, unhide HF, unhide HLO⟩
  · have hne : ((m : Int) == 1) = false := by simp; omega
    have e1 := i64_in (2 * (m : Int)) (by omega)
    have e2 := i64_in (2 * (m : Int) - 2) (by omega)
    obtain ⟨m2, hm2'⟩ : ∃ m2, 2 * m - 2 = m2 := ⟨_, rfl⟩
    have e3 : 2 * (m : Int) - 2 = (m2 : Int) := by omega
    rw [e3] at e2
    have hen : Hid (m2 ≤ (thingsG (coinsG (coinW fs)) 15).length) := by
      have h := things_enough (ws := coinW fs) coins_rise (coins_pos hfs) (by rw [coinW_len, ← unhide HMO]; exact hm1) (coinW_few hfs)
      rw [coinW_len, ← unhide HMO] at h
      unfold Hid; omega
    go_enter Try.func41, Try.ntmps41
    go_wp2
    go_loopw [3, 10] (fun v kv wr => ∃ (k : Nat) (bo : Option Addr) (n cb : Nat) (H : List Hp), k ≤ 15 ∧ kv = .int .i64 k ∧ v = .slice bo n cb ∧ Hid (H.length = n) ∧ Hid (Lst wr (.slice bo n cb) H) ∧ Hid (w.grownBy wr none) ∧ Hid (Lev fs k H) ∧ Hid (Low s H)) (fun _ kv _ => 15 - (intOf kv).toNat)
    case atStart => exact ⟨0, ao, m, ca, C, by omega, rfl, rfl, HM, HLC, World.grownBy.refl _ _, HC, HLO⟩
    case round =>
      obtain ⟨k, bo, n, cb, H, hk, rfl, rfl, hHl, hlst, hg, hlev, hlow⟩ := hrel
      by_cases hlt : k < 15
      · have hkI : (k : Int) < 15 := by omega
        have hn5 : n ≤ 512 := by
          have h1 := (unhide hlev).count
          have h2 := things_count (ws := coinW fs) k
          rw [coinW_len, ← unhide HMO] at h2
          rw [unhide hHl] at h1
          omega
        have HN5 := hide hn5
        have HX0 := hide (heap_new wr)
        obtain ⟨w1, HW1⟩ : ∃ w1, Hid (wr.alloc (.cells #[.slice none 0 0, .int .i64 0] 78) = w1) := ⟨_, rfl⟩
        obtain ⟨hb, HHB⟩ : ∃ hb, Hid (hb = wr.heap.size) := ⟨_, rfl⟩
        rw [unhide HW1, ← unhide HHB] at HX0
        have hgr1 : wr.grownBy w1 none := (unhide HX0).grown
        have hsrcC : Src w1 (.slice none 0 0) hb ao m C := by
          have h1 := (unhide HLC).more (unhide hg)
          rw [← unhide HM] at h1
          have h2 := h1.src hgr1
          rw [unhide HM, ← unhide HHB] at h2
          exact h2
        have HA1 := hide (implAdd (cap := ca) (unhide HX0) (fun _ _ h => absurd h (by simp)) hsrcC (by simp; omega) ⟨by omega, by omega⟩)
        have HWT := hide ((unhide hlev).weight hfs (by omega))
        have HSL : Hid (∀ x ∈ H, x.ss.length ≤ 200000) := fun x hx => by
          have h1 := (unhide hlev).len x hx
          have h2 : 2 ^ k ≤ 2 ^ 15 := Nat.pow_le_pow_right (by omega) (by omega)
          omega
        clear hgr1 hsrcC hn5
        go_wp2_with fail
        rw [unhide HW1, ← unhide HHB]
        refine (unhide HA1).mono ?_
        rintro e w2 ⟨rfl, v2, L2, hx2, hn2, hp2⟩
        have hg2 := hx2.grown
        have hl2 := (unhide hlst).more hg2
        obtain ⟨bo', cb', e', hrd2, _⟩ := hl2.form
        have hrd3 : RdP w2 bo n H := by
          simp only [Value.slice.injEq] at e'
          obtain ⟨rfl, h3, rfl⟩ := e'
          rw [← h3] at hrd2
          exact hrd2
        have HP := hide (implPairs bo n cb H w2 hrd3 hl2.rd hl2.pos (by have := unhide HN5; omega) (unhide HWT) (unhide HSL))
        have HX2 := hide hx2
        have HN2 := hide hn2
        have HP2 := hide hp2
        clear hx2 hn2 hp2 hg2 hl2 hrd2 hrd3 HA1 HX0 e'
        go_wp2_with fail
        refine (unhide HP).mono ?_
        rintro e w3 ⟨u3, Q, rfl, hown3, hQ⟩
        obtain ⟨qo, qc, rfl⟩ := own_form hown3.own
        have hx3 := (unhide HX2).more hown3.grown
        have hsrc3 := hown3.src (v := v2) (hb := hb) rfl (fun q e => ((unhide HX2).own.lt q e).2) (unhide HX2).lt
        have hQl : Q.length ≤ 256 := by
          have h1 := congrArg List.length hQ
          rw [List.length_map, pairsP_len, List.length_map, unhide hHl] at h1
          have := unhide HN5
          omega
        have hL2l : L2.length = m := by
          have h1 := (unhide HP2).length_eq
          rw [List.nil_append, numH_len, unhide HM] at h1
          exact h1
        have HA3 := hide (implAdd (cap := qc) hx3 (unhide HN2) hsrc3 (by omega) ⟨by omega, by omega⟩)
        have HLQ : Hid (Low s Q) := fun x hx b off e => by
          have h1 := (hown3.away x hx b off e).2
          have h2 := (unhide HX2).grown.size
          have h3 := (unhide hg).size
          dsimp only at h2
          omega
        have HQ := hide hQ
        have HQL := hide hQl
        have HL2L := hide hL2l
        clear hx3 hsrc3 hQl hL2l hown3 hQ HP
        obtain ⟨ql, HQLe⟩ : ∃ ql, Hid (Q.length = ql) := ⟨_, rfl⟩
        rw [unhide HQLe] at HA3 ⊢
        go_wp2_with fail
        refine (unhide HA3).mono ?_
        rintro e w4 ⟨rfl, v4, L4, hx4, hn4, hp4⟩
        have hl4 : L4.length ≤ 900 := by
          have h1 := hp4.length_eq
          rw [List.length_append, numH_len, unhide HL2L] at h1
          have := unhide HQLe
          have := unhide HQL
          omega
        have HTA := hide (implTakeAll hx4 hn4 hl4)
        have HP4 := hide hp4
        clear hx4 hn4 hp4 hl4 HA3
        go_wp2_with fail
        refine (unhide HTA).mono ?_
        rintro e w5 ⟨u5, R, rfl, hlst5, hg5, hp5, hs5, _⟩
        obtain ⟨ro, rc, rfl, _⟩ := hlst5.form
        have HLEV : Hid (Lev fs (k + 1) R) := by
          refine (unhide HC).next (unhide hlev) (unhide HQ) ?_ hs5
          refine hp5.trans ((unhide HP4).trans ?_)
          have h2 := unhide HP2
          rw [List.nil_append] at h2
          have e5 : (0 : Int) + (m : Int) = (C.length : Int) := by rw [unhide HM]; omega
          rw [e5]
          exact h2.append_right _
        have HLR : Hid (Low s R) := fun x hx b off e => by
          have h6 := (hp5.trans (unhide HP4)).subset hx
          rcases List.mem_append.1 h6 with h7 | h7
          · have h8 := (unhide HP2).subset h7
            rw [List.nil_append] at h8
            exact (unhide HLO).num (R := [x]) (c := 0) (fun y hy => by rw [List.mem_singleton] at hy; rw [hy]; exact h8) x (by simp) b off e
          · exact (unhide HLQ).num (R := [x]) (fun y hy => by rw [List.mem_singleton] at hy; rw [hy]; exact h7) x (by simp) b off e
        obtain ⟨rl, HRL⟩ : ∃ rl, Hid (R.length = rl) := ⟨_, rfl⟩
        rw [unhide HRL] at hlst5 ⊢
        have HLST5 := hide hlst5
        have HG5 := hide (grown_trans (unhide hg) hg5)
        clear hlst5 hg5 hp5 hs5 HTA HP4 HP2 HQ HQL HQLe HL2L HN2 HX2 hlst hg hlev
        go_wp2
        go_roundw
        case rel => exact ⟨k + 1, ro, rl, rc, R, by omega, by go_num, rfl, HRL, HLST5, HG5, HLEV, HLR⟩
        case measure => simp [intOf]; omega
      · obtain rfl : k = 15 := by omega
        have hmn : m2 ≤ n := by
          have h1 := (unhide hlev).count
          rw [unhide hHl] at h1
          have := unhide hen
          omega
        obtain ⟨bo', cb', e', _, hc1, hc2⟩ := (unhide hlst).form
        simp only [Value.slice.injEq] at e'
        obtain ⟨rfl, h3, rfl⟩ := e'
        unfold maxLen at hc2
        have hmc : (m2 : Int) ≤ (cb : Int) := by omega
        have hcb : ¬ cb = 0 := by omega
        have HF : Hid ((H.take m2).length = m2 ∧ Lst wr (.slice bo m2 cb) (H.take m2) ∧ Counted fs (H.take m2)) := by
          refine ⟨by rw [List.length_take, unhide hHl]; omega, ?_, .inr ⟨by rw [← unhide HMO]; omega, H, unhide hlev, by rw [← unhide HMO, hm2']⟩⟩
          have h4 := unhide hlst
          rw [h3] at h4
          exact h4.cut (by rw [unhide hHl]; exact hmn)
        have hbo : ∃ bb off, bo = some ⟨bb, off, none⟩ := by
          obtain ⟨bo', cb', e', hrd, _⟩ := (unhide hlst).form
          simp only [Value.slice.injEq] at e'
          obtain ⟨rfl, h4, rfl⟩ := e'
          obtain ⟨bb, off, e5, _⟩ := hrd.2 0 (by omega)
          exact ⟨bb, off, e5⟩
        obtain ⟨bb, off, rfl⟩ := hbo
        clear h3 hc1 hlst hlev hHl
        go_wp2
        go_ret
        exact ⟨_, m2, cb, H.take m2, rfl, (unhide HF).1, (unhide HF).2.1, unhide hg, (unhide HF).2.2, fun x hx => unhide hlow x (List.mem_of_mem_take hx)⟩

end Go.Proofs.Ytcbaiagkdphkeaa
