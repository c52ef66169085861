/-
  The walk of the program's reader of segments: all of it.
-/
import Derived.Test.YticecjodbhhcfaaDoorSegReadImpl2
import Derived.Test.YticecjodbhhcfaaDoorQuietLast
import Derived.WalkMore
namespace Go.Proofs.YticecjodbhhcfaaDoor
open Go.RowKit

/-- What is shown of readPart by itself. -/
def PartSpec : Prop := ∀ (w0 w : World) (R lo : Nat) (bo : Option Addr) (n cap k : Nat) (last : Int) (sv : Value) (ss : List (Int × List Int)) (zs : List Int) (r : Nx), St w0 w R lo bo n cap k last sv ss → Rd .u8 w0 bo n zs → (∀ i, 0 ≤ zs.getD i 0 ∧ zs.getD i 0 ≤ 255) → n ≤ 60000 → n ≤ cap → k + 1 < n → ss.length ≤ 300 → Hid (nextPart zs k = r) →
  Calls Tryd.prog 40 #[.pointer (some ⟨R, 0, none⟩)] w fun e w' => rdPost w0 w R lo bo n cap last ss r e w'

/-- What the program's own look at what comes next says of the specification's. -/
theorem nextK_next (zs : List Int) (k : Nat) (was : Int) (many : Bool) (hw : was = 0 ∨ was = 1 ∨ was = 2 ∨ was = 3) (kd : Int) (f : Option (Int × Nat)) (h : nextK zs k (toI was) many = (kd, f)) (hk : k ≤ zs.length) :
    (∃ c a, f = some (c, a) ∧ nextS zs k was many = .fault c a) ∨
    (f = none ∧ kd = 4 ∧ nextS zs k was many = .fin (k + 2)) ∨
    (f = none ∧ kd = 1 ∧ k < zs.length ∧ nextS zs k was many = (if 20000 < (unst (zs.drop k)).1.length then Nx.fault 5 k else .seg 0 (unst (zs.drop k)).1 (k + (unst (zs.drop k)).2))) ∨
    (f = none ∧ kd = 3 ∧ k + 1 < zs.length ∧ kindOf (zs.getD (k + 1) 0) = 2 ∧ nextS zs k was many = .seg (zs.getD (k + 1) 0) [] (k + 2)) ∨
    (f = none ∧ kd = 2 ∧ k + 1 < zs.length ∧ kindOf (zs.getD (k + 1) 0) = 1 ∧ nextS zs k was many = nextPart zs k) := by
  have hf3 : mayF 1 (toI was) = fitsK was 3 := by rcases hw with rfl | rfl | rfl | rfl <;> rfl
  have hf1 : ∀ kd, kd = 2 → mayF kd (toI was) = fitsK was 1 := by rintro kd rfl; rcases hw with rfl | rfl | rfl | rfl <;> rfl
  have hf2 : ∀ kd, kd = 3 → mayF kd (toI was) = fitsK was 2 := by rintro kd rfl; rcases hw with rfl | rfl | rfl | rfl <;> rfl
  have runCase : ∀ (hlt : k < zs.length) (hrun : isRun zs k), (if mayF 1 (toI was) = false then ((0 : Int), some ((4 : Int), k)) else if many = true then (0, some (6, k)) else (1, none)) = (kd, f) → 
      (∃ c a, f = some (c, a) ∧ nextS zs k was many = .fault c a) ∨ (f = none ∧ kd = 1 ∧ k < zs.length ∧ nextS zs k was many = (if 20000 < (unst (zs.drop k)).1.length then Nx.fault 5 k else .seg 0 (unst (zs.drop k)).1 (k + (unst (zs.drop k)).2))) := by
    intro hlt hrun h
    have e : nextS zs k was many = nextRun zs k was many := by unfold nextS; rw [if_neg (by omega), if_pos hrun]
    rw [hf3] at h
    rw [e]
    unfold nextRun
    cases hft : fitsK was 3
    · rw [hft, if_pos rfl] at h
      cases h
      exact .inl ⟨4, k, rfl, by rw [if_pos rfl]⟩
    · rw [hft, if_neg (by simp)] at h
      cases many
      · rw [if_neg (by simp)] at h
        cases h
        exact .inr ⟨rfl, rfl, hlt, by rw [if_neg (by simp), if_neg (by simp)]⟩
      · rw [if_pos rfl] at h
        cases h
        exact .inl ⟨6, k, rfl, by rw [if_neg (by simp), if_pos rfl]⟩
  unfold nextK at h
  by_cases h1 : k < zs.length ∧ zs.getD k 0 ≠ 255
  · rw [if_pos h1] at h
    rcases runCase h1.1 (.inl h1.2) h with h | h
    · exact .inl h
    · exact .inr (.inr (.inl h))
  · rw [if_neg h1] at h
    by_cases h2 : zs.length ≤ k + 1
    · rw [if_pos h2] at h
      cases h
      refine .inl ⟨3, _, rfl, ?_⟩
      unfold nextS
      by_cases h3 : zs.length ≤ k
      · rw [if_pos h3]
      · rw [if_neg h3, if_neg, if_pos h2]
        intro hr
        rcases hr with hr | hr
        · exact h1 ⟨by omega, hr⟩
        · omega
    · rw [if_neg h2] at h
      have hx : zs.getD k 0 = 255 := Classical.byContradiction fun hne => h1 ⟨by omega, hne⟩
      by_cases h0 : zs.getD (k + 1) 0 = 0
      · rw [h0, show ikOf 0 = 1 from rfl] at h
        have h' : (if mayF 1 (toI was) = false then ((0 : Int), some ((4 : Int), k)) else if many = true then (0, some (6, k)) else (1, none)) = (kd, f) := by
          rw [← h]; simp
        rcases runCase (by omega) (.inr ⟨by omega, h0⟩) h' with h | h
        · exact .inl h
        · exact .inr (.inr (.inl h))
      · have hnr : ¬ isRun zs k := by
          intro hr
          rcases hr with hr | hr
          · exact hr hx
          · exact h0 hr.2
        have e : nextS zs k was many = if zs.getD (k + 1) 0 = 254 then .fin (k + 2) else nextMk zs k was many := by
          unfold nextS; rw [if_neg (by omega), if_neg hnr, if_neg h2]
        rw [e]
        have hik := ikOf_kind (zs.getD (k + 1) 0)
        have hkc := kindOf_cases (zs.getD (k + 1) 0)
        by_cases h254 : zs.getD (k + 1) 0 = 254
        · rw [if_pos h254]
          rw [h254, show ikOf 254 = 4 from rfl] at h
          have hm : mayF 4 (toI was) = true := rfl
          rw [hm, if_neg (by simp), if_neg (fun hh => hh.1 rfl)] at h
          cases h
          exact .inr (.inl ⟨rfl, rfl, rfl⟩)
        · rw [if_neg h254]
          have hn4 : ikOf (zs.getD (k + 1) 0) ≠ 4 := by
            unfold ikOf
            repeat' split
            all_goals first | decide | contradiction
          have hk3 : kindOf (zs.getD (k + 1) 0) ≠ 3 := by
            unfold kindOf; rw [if_neg h0]
            repeat' split
            all_goals decide
          unfold nextMk
          generalize hm : zs.getD (k + 1) 0 = m at *
          have hmk : mayF (ikOf m) (toI was) = decide (¬ (kindOf m = 0 ∨ fitsK was (kindOf m) = false)) := by
            rcases hik with ⟨hz, hi | hi⟩ | ⟨hz, hi⟩
            · rw [hi, hz]; simp [mayF]
            · exact absurd hi hn4
            · rcases hkc with hc | hc | hc | hc
              · exact absurd hc hz
              · rw [hf1 _ (by rw [hi, hc]; rfl), hc]; simp [fitsK]
              · rw [hf2 _ (by rw [hi, hc]; rfl), hc]; cases fitsK was 2 <;> simp
              · exact absurd hc hk3
          rw [hmk] at h
          by_cases hq : kindOf m = 0 ∨ fitsK was (kindOf m) = false
          · rw [if_pos (decide_eq_false (fun hh => hh hq))] at h
            cases h
            exact .inl ⟨4, k, rfl, by rw [if_pos hq]⟩
          · rw [decide_eq_true (p := ¬ (kindOf m = 0 ∨ fitsK was (kindOf m) = false)) hq, if_neg (by simp)] at h
            cases many
            · rw [if_neg (fun hh => by simp at hh)] at h
              cases h
              rw [if_neg hq, if_neg (by simp)]
              have hz : kindOf m ≠ 0 := fun e => hq (.inl e)
              have hi : ikOf m = toI (kindOf m) := by rcases hik with h | h; exact absurd h.1 hz; exact h.2
              rcases hkc with hc | hc | hc | hc
              · exact absurd hc hz
              · exact .inr (.inr (.inr (.inr ⟨rfl, by rw [hi, hc]; rfl, by omega, hc, by rw [if_neg (by rw [hc]; decide)]⟩)))
              · exact .inr (.inr (.inr (.inl ⟨rfl, by rw [hi, hc]; rfl, by omega, hc, by rw [if_pos hc]⟩)))
              · exact absurd hc hk3
            · rw [if_pos ⟨hn4, rfl⟩] at h
              cases h
              exact .inl ⟨6, k, rfl, by rw [if_neg hq, if_pos rfl]⟩

/-- What readAll leaves: no error and what was read, or a fault. -/
def allPost (w0 w : World) (R lo : Nat) (bo : Option Addr) (n cap : Nat) (r : List (Int × List Int) × Int × Nat) (e : Ending) (w' : World) : Prop :=
  (∃ k last sv, r.2.1 = 0 ∧ r.2.2 = 0 ∧ e = .returned .nilIface ∧ St w0 w' R lo bo n cap k last sv r.1 ∧ Fr R lo w w') ∨ (r.1 = [] ∧ r.2.1 ≠ 0 ∧ e = .returned (errV (some (r.2.1, r.2.2))) ∧ Fr R lo w w')

section
variable (w0 w : World) (R lo : Nat) (bo : Option Addr) (n cap : Nat)
set_option maxRecDepth 8000 in
set_option maxHeartbeats 6400000 in
theorem implReadAll (HP : PartSpec) (zs : List Int) (h : St w0 w R lo bo n cap 0 0 (.slice none 0 0) []) (hr : Rd .u8 w0 bo n zs) (hby : ∀ i, 0 ≤ zs.getD i 0 ∧ zs.getD i 0 ≤ 255) (hn : n ≤ 4194304) (hcap : n ≤ cap) :
    Calls Tryd.prog 27 #[.pointer (some ⟨R, 0, none⟩)] w fun e w' => allPost w0 w R lo bo n cap (readS zs) e w' := by
  have hl := hr.1
  have HR := hide hr
  have HBY := hide hby
  have HH := hide h
  have HPP := hide HP
  clear hr hby h HP
  obtain ⟨f, hf⟩ : ∃ f : Option (Int × Nat), (if 60000 < n then some (1, 0) else if begins zs then none else some (2, 0)) = f := ⟨_, rfl⟩
  go_enter Tryd.func27, Tryd.ntmps27
  go_wp2
  go_step3
  go_wp2_with fail
  refine (implBegin w0 w R lo bo n cap 0 0 _ [] zs f (unhide HH) (unhide HR) hn hf).mono ?_
  rintro e w1 ⟨rfl, hfr1, hst1⟩
  by_cases hbig : 60000 < n
  · rw [if_pos hbig] at hf
    subst hf
    have HS : Hid (readS zs = ([], 1, 0)) := by unfold Hid readS; rw [if_pos (by omega)]
    have hev : errV (some (1, 0)) = .iface 48 (.agg #[.int .i64 1, .int .i64 ((0 : Nat) : Int)]) := rfl
    rw [hev]
    go_wp2
    rw [Exit.noGoto_ret]
    go_ret
    exact .inr (by rw [unhide HS]; exact ⟨rfl, by decide, rfl, hfr1⟩)
  · rw [if_neg hbig] at hf
    by_cases hbe : begins zs
    · rw [if_pos hbe] at hf
      subst hf
      have HS : Hid (readS zs = readFrom (n + 1) zs 2 0 []) := by unfold Hid readS; rw [if_neg (by omega), if_pos hbe, hl]
      have hn2 := hbe.1
      have hst := hst1 rfl
      have hev : errV none = .nilIface := rfl
      rw [hev]
      have HST := hide hst
      clear hst hst1 hbe
      go_wp2
      go_step3
      go_wp2
      go_loopw [4] (fun _ wr => ∃ (f k : Nat) (was : Int) (sv : Value) (ss : List (Int × List Int)), 2 ≤ k ∧ k ≤ n ∧ n < f + k ∧ (was = 0 ∨ was = 1 ∨ was = 2 ∨ was = 3) ∧ ss.length ≤ 300 ∧ readS zs = readFrom f zs k was ss ∧ St w0 wr R lo bo n cap k (toI was) sv ss ∧ Fr R lo w wr) (fun _ wr => n - (intOf ((wr.cell? ⟨R, 1, none⟩).getD (.int .i64 0))).toNat)
      case atStart => exact ⟨n + 1, 2, 0, _, [], by omega, by omega, by omega, .inl rfl, by simp, unhide HS, unhide HST, hfr1⟩
      case round =>
        obtain ⟨f, k, was, sv, ss, hk2, hkn, hfk, hwas, hss, hrd, hst, hfr⟩ := hrel
        have hn6 : n ≤ 60000 := by omega
        obtain ⟨many, hmany⟩ : ∃ bb, decide (ss.length = 300) = bb := ⟨_, rfl⟩
        obtain ⟨⟨kd, ff⟩, hr⟩ : ∃ r, nextK zs k (toI was) many = r := ⟨_, rfl⟩
        have hcase := nextK_next zs k was many hwas kd ff hr (by omega)
        have HK := hide hr
        have HMANY := hide hmany
        have HWAS := hide hwas
        have HRD := hide hrd
        have HSTk := hide hst
        obtain ⟨e0, e1, e2, e3⟩ := hst.cells
        have hme : ((wr.cell? ⟨R, 1, none⟩).getD (.int .i64 0)) = .int .i64 k := by rw [e1]; rfl
        have HME := hide hme
        have hfpos : 0 < f := by omega
        clear hr hmany hwas hrd hst hme HS HST e0 e1 e2 e3 hfr1
        go_wp2_with fail
        refine (implNextKind w0 wr R lo bo n cap k (toI was) sv ss zs (kd, ff) many (unhide HSTk) (unhide HR) (unhide HBY) hn6 hkn (toI_cases was) HMANY HK).mono ?_
        rintro e w2 ⟨rfl, g2⟩
        have hst2 := (unhide HSTk).more g2
        have hfr2 := hfr.trans ((unhide HSTk).fr g2)
        have HST2 := hide hst2
        clear g2 hst2 hfr
        rcases hcase with ⟨c, a, rfl, hnx⟩ | ⟨rfl, rfl, hnx⟩ | ⟨rfl, rfl, hlt, hnx⟩ | ⟨rfl, rfl, hlt, hkd, hnx⟩ | ⟨rfl, rfl, hlt, hkd, hnx⟩
        · have hcc := next_fault hnx
          have HS : Hid (readS zs = ([], c, a)) := by unfold Hid; rw [unhide HRD]; exact readFrom_fault hfpos (by rw [unhide HMANY]; exact hnx)
          have hev : errV (some (c, a)) = .iface 48 (.agg #[.int .i64 c, .int .i64 a]) := rfl
          rw [hev]
          clear hnx hev
          go_wp2
          rw [Exit.noGoto_ret]
          go_ret
          exact .inr (by rw [unhide HS]; exact ⟨rfl, by dsimp only; omega, rfl, hfr2⟩)
        · have hfb := fin_bounds hnx
          have hev : errV none = .nilIface := rfl
          rw [hev]
          obtain ⟨fe, hfe⟩ : ∃ fe : Option (Int × Nat), (if k + 2 < n then some (7, k + 2) else none) = fe := ⟨_, rfl⟩
          have HS : Hid (readS zs = if k + 2 < n then ([], 7, k + 2) else (ss, 0, 0)) := by unfold Hid; rw [unhide HRD, ← hl]; exact readFrom_fin hfpos (by rw [unhide HMANY]; exact hnx)
          clear hnx hev
          go_wp2_with fail
          refine (implEnd w0 w2 R lo bo n cap k (toI was) sv ss fe (unhide HST2) hn6 hkn hfe).mono ?_
          rintro e w3 ⟨rfl, hfr3, hst3⟩
          by_cases hrest : k + 2 < n
          · rw [if_pos hrest] at hfe
            subst hfe
            have hev : errV (some (7, k + 2)) = .iface 48 (.agg #[.int .i64 7, .int .i64 ((k + 2 : Nat) : Int)]) := rfl
            rw [hev]
            clear hev
            go_wp2
            rw [Exit.noGoto_ret]
            go_ret
            exact .inr (by rw [unhide HS, if_pos hrest]; exact ⟨rfl, by simp, rfl, hfr2.trans hfr3⟩)
          · rw [if_neg hrest] at hfe
            subst hfe
            have hev : errV none = .nilIface := rfl
            rw [hev]
            clear hev
            go_wp2
            rw [Exit.noGoto_ret]
            go_ret
            exact .inl (by rw [unhide HS, if_neg hrest]; exact ⟨k + 2, toI was, sv, rfl, rfl, rfl, hst3, hfr2.trans hfr3⟩)
        · obtain ⟨rr, hrr⟩ : ∃ rr, (if 20000 < (unst (zs.drop k)).1.length then Nx.fault 5 k else .seg 0 (unst (zs.drop k)).1 (k + (unst (zs.drop k)).2)) = rr := ⟨_, rfl⟩
          rw [hrr] at hnx
          have HNX := hide hnx
          have HRR := hide hrr
          have hev : errV none = .nilIface := rfl
          rw [hev]
          clear hnx hev hrr
          go_wp2_with fail
          refine (implRun w0 w2 R lo bo n cap k (toI was) sv ss zs rr (unhide HST2) (unhide HR) hn6 hcap (by omega) hss HRR).mono ?_
          intro e w3 hpost
          cases rr with
          | fin a => exact hpost.elim
          | fault c a =>
            obtain ⟨rfl, hfr3⟩ := hpost
            have hcc := next_fault (unhide HNX)
            have HS : Hid (readS zs = ([], c, a)) := by unfold Hid; rw [unhide HRD]; exact readFrom_fault hfpos (by rw [unhide HMANY]; exact unhide HNX)
            have hev : errV (some (c, a)) = .iface 48 (.agg #[.int .i64 c, .int .i64 a]) := rfl
            rw [hev]
            clear hev
            go_wp2
            rw [Exit.noGoto_ret]
            go_ret
            exact .inr (by rw [unhide HS]; exact ⟨rfl, by dsimp only; omega, rfl, hfr2.trans hfr3⟩)
          | seg m d nx =>
            obtain ⟨rfl, sv', hst3, hfr3⟩ := hpost
            have hnb := next_bounds (unhide HNX)
            have hkm : kindOf m = 3 := by have h := unhide HRR; split at h <;> cases h; rfl
            have HS : Hid (readS zs = readFrom (f - 1) zs nx (kindOf m) (ss ++ [(m, d)])) := by unfold Hid; rw [unhide HRD]; exact readFrom_seg hfpos (by rw [unhide HMANY]; exact unhide HNX)
            have hss3 : ss.length < 300 := by
              have h := unhide HMANY
              rw [hnb.2.2.2] at h
              have := of_decide_eq_false h
              omega
            obtain ⟨e0, e1, e2, e3⟩ := hst3.cells
            have f2 := hst3.frozen 2
            have HST3 := hide (hst3.set2 1)
            have hfr4 := (hfr2.trans hfr3).trans (Fr.set R lo 2 w3 (.int .i64 1))
            have hm3 : ((w3.setCell ⟨R, 2, none⟩ (.int .i64 1)).cell? ⟨R, 1, none⟩).getD (.int .i64 0) = .int .i64 nx := by rw [(hst3.set2 1).cells.2.1]; rfl
            have HM3 := hide hm3
            clear hst3 hm3 hfr3 hfr2
            go_wp2
            go_roundw
            case rel => exact ⟨f - 1, nx, kindOf m, sv', ss ++ [(m, d)], by omega, by omega, by omega, kindOf_cases m, by simp; omega, unhide HS, by rw [hkm]; exact unhide HST3, hfr4⟩
            case measure => rw [unhide HM3, unhide HME]; simp [intOf]; omega
        · have hev : errV none = .nilIface := rfl
          rw [hev]
          obtain ⟨e0, e1, e2, e3⟩ := (unhide HST2).cells
          have hy := unhide HBY (k + 1)
          obtain ⟨b, off, rfl, _⟩ := (unhide HR).2 0 (by omega)
          have kk : w2.cell? ⟨b, off + (k + 1), none⟩ = some (.int .u8 (zs.getD (k + 1) 0)) := by
            obtain ⟨b', off', e', hcb⟩ := ((unhide HR).grown (unhide HST2).grown).2 (k + 1) (by omega)
            simp only [Option.some.injEq, Addr.mk.injEq] at e'
            rw [e'.1, e'.2.1]
            exact hcb
          have h1n : (k : Int) + 1 < (n : Int) := by omega
          have h1m : k + 1 < n := by omega
          have h1p : (0 : Int) ≤ (k : Int) + 1 := by omega
          have h1w : IntKind.i64.wrap ((k : Int) + 1) = (k : Int) + 1 := i64_in _ (by omega)
          have h2w : IntKind.i64.wrap ((k : Int) + 2) = (k : Int) + 2 := i64_in _ (by omega)
          obtain ⟨k2, hk2e⟩ : ∃ k2 : Nat, k + 2 = k2 := ⟨_, rfl⟩
          have h2e : (k : Int) + 2 = (k2 : Int) := by omega
          have HK2 := hide hk2e
          have hk2b : k2 ≤ n := by omega
          have hk2c : k < k2 := by omega
          clear hk2e
          have HNX := hide hnx
          clear hnx hev
          generalize hx : zs.getD (k + 1) 0 = x1 at *
          go_wp2
          refine wp_region_last 20 _ (by kernel_rfl) rfl rfl (by kernel_rfl) ?_
          dsimp only [List.dropLast]
          repeat (go_big_quiet_step (fail))
          refine wpQuiet_nil ?_
          intro nq
          have HGD : Hid (w2.grownBy (w2.drewN nq) none) := grown_drewN (World.grownBy.refl _ _) nq
          go_wp2_with fail
          refine (implTake w0 _ R lo _ n cap k (toI was) sv ss w2 x1 _ [] k2 (unhide HST2) (unhide HGD) hss (World.ownsRow_nil _ _ _ _)).mono ?_
          rintro e w3 ⟨rfl, sv', hst3, hfr3⟩
          have hfrA := hfr2.trans (((unhide HST2).fr (unhide HGD)).trans hfr3)
          have hnxe : nextS zs k was many = .seg x1 [] k2 := by rw [← unhide HK2]; exact unhide HNX
          have hnb := next_bounds hnxe
          have HS : Hid (readS zs = readFrom (f - 1) zs k2 (kindOf x1) (ss ++ [(x1, [])])) := by unfold Hid; rw [unhide HRD]; exact readFrom_seg hfpos (by rw [unhide HMANY]; exact hnxe)
          have hss3 : ss.length < 300 := by
            have h := unhide HMANY
            rw [hnb.2.2.2] at h
            have := of_decide_eq_false h
            omega
          clear hnxe hnb e0 e1 e2 e3 kk hfr3 hfr2
          obtain ⟨e0, e1, e2, e3⟩ := hst3.cells
          have f2 := hst3.frozen 2
          have HST3 := hide (hst3.set2 3)
          have hfr4 := hfrA.trans (Fr.set R lo 2 w3 (.int .i64 3))
          have hm3 : ((w3.setCell ⟨R, 2, none⟩ (.int .i64 3)).cell? ⟨R, 1, none⟩).getD (.int .i64 0) = .int .i64 k2 := by rw [(hst3.set2 3).cells.2.1]; rfl
          have HM3 := hide hm3
          clear hst3 hm3 hfrA
          go_wp2
          go_roundw
          case rel => exact ⟨f - 1, k2, kindOf x1, sv', ss ++ [(x1, [])], by omega, by omega, by omega, kindOf_cases x1, by simp; omega, unhide HS, by rw [hkd]; exact unhide HST3, hfr4⟩
          case measure => rw [unhide HM3, unhide HME]; simp [intOf]; omega
        · obtain ⟨rr, hrr⟩ : ∃ rr, nextPart zs k = rr := ⟨_, rfl⟩
          rw [hrr] at hnx
          have HNX := hide hnx
          have HRR := hide hrr
          have hev : errV none = .nilIface := rfl
          rw [hev]
          clear hnx hev hrr
          go_wp2_with fail
          refine ((unhide HPP) w0 w2 R lo bo n cap k (toI was) sv ss zs rr (unhide HST2) (unhide HR) (unhide HBY) hn6 hcap (by omega) hss HRR).mono ?_
          intro e w3 hpost
          cases rr with
          | fin a => exact hpost.elim
          | fault c a =>
            obtain ⟨rfl, hfr3⟩ := hpost
            have hcc := next_fault (unhide HNX)
            have HS : Hid (readS zs = ([], c, a)) := by unfold Hid; rw [unhide HRD]; exact readFrom_fault hfpos (by rw [unhide HMANY]; exact unhide HNX)
            have hev : errV (some (c, a)) = .iface 48 (.agg #[.int .i64 c, .int .i64 a]) := rfl
            rw [hev]
            clear hev
            go_wp2
            rw [Exit.noGoto_ret]
            go_ret
            exact .inr (by rw [unhide HS]; exact ⟨rfl, by dsimp only; omega, rfl, hfr2.trans hfr3⟩)
          | seg m d nx =>
            obtain ⟨rfl, sv', hst3, hfr3⟩ := hpost
            have hnb := next_bounds (unhide HNX)
            have hkm : kindOf m = 1 := by
              have h := unhide HRR
              unfold nextPart at h
              repeat' split at h
              all_goals cases h
              exact hkd
            have HS : Hid (readS zs = readFrom (f - 1) zs nx (kindOf m) (ss ++ [(m, d)])) := by unfold Hid; rw [unhide HRD]; exact readFrom_seg hfpos (by rw [unhide HMANY]; exact unhide HNX)
            have hss3 : ss.length < 300 := by
              have h := unhide HMANY
              rw [hnb.2.2.2] at h
              have := of_decide_eq_false h
              omega
            obtain ⟨e0, e1, e2, e3⟩ := hst3.cells
            have f2 := hst3.frozen 2
            have HST3 := hide (hst3.set2 2)
            have hfr4 := (hfr2.trans hfr3).trans (Fr.set R lo 2 w3 (.int .i64 2))
            have hm3 : ((w3.setCell ⟨R, 2, none⟩ (.int .i64 2)).cell? ⟨R, 1, none⟩).getD (.int .i64 0) = .int .i64 nx := by rw [(hst3.set2 2).cells.2.1]; rfl
            have HM3 := hide hm3
            clear hst3 hm3 hfr3 hfr2
            go_wp2
            go_roundw
            case rel => exact ⟨f - 1, nx, kindOf m, sv', ss ++ [(m, d)], by omega, by omega, by omega, kindOf_cases m, by simp; omega, unhide HS, by rw [hkm]; exact unhide HST3, hfr4⟩
            case measure => rw [unhide HM3, unhide HME]; simp [intOf]; omega
    · rw [if_neg hbe] at hf
      subst hf
      have HS : Hid (readS zs = ([], 2, 0)) := by unfold Hid readS; rw [if_neg (by omega), if_neg hbe]
      have hev : errV (some (2, 0)) = .iface 48 (.agg #[.int .i64 2, .int .i64 ((0 : Nat) : Int)]) := rfl
      rw [hev]
      go_wp2
      rw [Exit.noGoto_ret]
      go_ret
      exact .inr (by rw [unhide HS]; exact ⟨rfl, by decide, rfl, hfr1⟩)
end

end Go.Proofs.YticecjodbhhcfaaDoor
