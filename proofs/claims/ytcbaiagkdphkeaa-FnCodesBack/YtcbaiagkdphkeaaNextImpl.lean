/-
  A symbol read from its code, in the program.
-/
import Derived.Test.YtcbaiagkdphkeaaBookImpl
import Derived.Test.YtcbaiagkdphkeaaBitRead
import Derived.Test.YtcbaiagkdphkeaaTextPure
import Derived.Test.YtcbaiagkdphkeaaHeldLast
import Derived.Deep.RegionHeld3
namespace Go.Proofs.Ytcbaiagkdphkeaa
open Go.RowKit Go.Maps

theorem zeroInt8 (w : World) : (zeroValue 3).run Try.prog w = .ok (.int .i64 0) w := by kernel_rfl
/-- Codes are found in the book as the specification finds them. -/
theorem book_find {xs : List Int} (h : lensB xs = true) (l x : Int) (hl : 0 < l) : bookF (codesG xs) (codesG xs).length l x = findC (codesG xs) l x (codesG xs).length := by
  have hcl := codes_len h
  have uniq : ∀ s t, s < (codesG xs).length → t < (codesG xs).length → (codesG xs).getD s (0, 0) = (l, x) → (codesG xs).getD t (0, 0) = (l, x) → s = t := fun s t hs ht h1 h2 => by
    rw [codes_at h s (by omega)] at h1
    rw [codes_at h t (by omega)] at h2
    by_cases e : s = t
    · exact e
    · exfalso
      have l1 : xs.getD s 0 = l := by rw [← code_len, h1]
      have l2 : xs.getD t 0 = l := by rw [← code_len, h2]
      refine code_prefix h (i := s) (k := t) (by omega) (by omega) e (by omega) 0 (by rw [l1, l2]; simp) ?_
      rw [h1, h2]
      simp
  cases hf : findC (codesG xs) l x (codesG xs).length with
  | some s =>
    obtain ⟨h1, h2⟩ := findC_some hf
    cases hb : bookF (codesG xs) (codesG xs).length l x with
    | some t =>
      obtain ⟨h3, h4, _⟩ := bookF_lt hb
      rw [uniq s t h1 h3 h2 h4]
    | none => exact absurd ⟨h2, hl⟩ (bookF_none hb s h1)
  | none =>
    cases hb : bookF (codesG xs) (codesG xs).length l x with
    | some t =>
      obtain ⟨h3, h4, _⟩ := bookF_lt hb
      exact absurd h4 (findC_none hf t h3)
    | none => rfl
theorem symF_end8 {cs : List (Int × Int)} {zs : List Int} {p f l : Nat} (h : 8 * zs.length ≤ p + l) : symF cs zs p f l = none := by
  cases f with
  | zero => rfl
  | succ f => unfold symF; rw [if_pos h]
theorem symF_hit8 {cs : List (Int × Int)} {zs : List Int} {p f l s : Nat} (h : p + l < 8 * zs.length) (hf : findC cs ((l + 1 : Nat) : Int) (numAt zs p (l + 1)) cs.length = some s) : symF cs zs p (f + 1) l = some (s, p + (l + 1)) := by
  unfold symF; rw [if_neg (by omega), hf]
theorem symF_miss8 {cs : List (Int × Int)} {zs : List Int} {p f l : Nat} (h : p + l < 8 * zs.length) (hf : findC cs ((l + 1 : Nat) : Int) (numAt zs p (l + 1)) cs.length = none) : symF cs zs p (f + 1) l = symF cs zs p f (l + 1) := by
  conv => lhs; unfold symF
  rw [if_neg (by omega), hf]

set_option maxRecDepth 20000 in
set_option maxHeartbeats 3200000 in
theorem implBookNext (mb tb : Nat) (ao : Option Addr) (n cap p : Nat) (zs : List Int) (C : List (Int × Int)) (w : World) (ht : Rr w tb ao n cap p) (hr : Rd .u8 w ao n zs) (hne : 0 < n → ∀ b off, ao = some ⟨b, off, none⟩ → b ≠ tb) (hb : ∀ i, 0 ≤ zs.getD i 0 ∧ zs.getD i 0 ≤ 255)
    (hbk : Book w mb C C.length) (hmt : mb ≠ tb) (hfind : ∀ l x : Int, 0 < l → bookF C C.length l x = findC C l x C.length) (hn : n ≤ 4194304) (hp : p ≤ 8 * n) (r : Option (Nat × Nat)) (HRR : Hid (symG C zs p = r)) :
    Calls Try.prog 53 #[.map (some mb), .pointer (some ⟨tb, 0, none⟩)] w fun e w' => ∃ (s q : Nat) (ok : Bool), e = .returned (.tuple #[.int .i64 s, .bool ok]) ∧ (ok = true → r = some (s, q) ∧ Rr w' tb ao n cap q ∧ q ≤ 8 * n ∧ s < C.length) ∧ (ok = false → r = none) ∧ w.grownBy w' (some tb) := by
  have hzl := hr.1
  have htl := ht.lt
  obtain ⟨cb, hcb⟩ : ∃ cb, cb = w.heap.size := ⟨_, rfl⟩
  obtain ⟨w1, HW1⟩ : ∃ w1, Hid (w.alloc (.cells #[.int .i64 0, .int .i64 0] 30) = w1) := ⟨_, rfl⟩
  have g1 : w.grownBy w1 none := by rw [← unhide HW1]; exact World.grownBy_alloc _ _ _
  have HB0 : Hid (w1.heap[cb]? = some (.cells #[.int .i64 ((0 : Nat) : Int), .int .i64 0] 30 (0, 0))) := by unfold Hid; rw [← unhide HW1, hcb]; exact heap_alloc_new w _
  have HT0 := hide (ht.grown g1)
  have HG0 : Hid (w.grownBy w1 (some tb)) := grown_any g1
  have HR := hide hr
  have HNE := hide hne
  have HBY := hide hb
  have HBK := hide hbk
  have HFI := hide hfind
  have HZL := hide hzl
  have hct : cb ≠ tb := by omega
  have hcm : cb ≠ mb := by have := hbk.lt; omega
  have HCB := hide hcb
  clear ht hr hne hb hbk hfind hzl g1 hcb htl
  go_enter Try.func53, Try.ntmps53
  go_wp2
  rw [← unhide HCB, unhide HW1]
  go_loopw [8] (fun _ wr => ∃ (j : Nat) (X : Int), j ≤ 16 ∧ p + j ≤ 8 * n ∧ Hid (wr.heap[cb]? = some (.cells #[.int .i64 (j : Int), .int .i64 X] 30 (0, 0))) ∧ Hid (X = numAt zs p j) ∧ Hid (r = symF C zs p (16 - j) j) ∧ Hid (Rr wr tb ao n cap (p + j)) ∧ Hid (w.grownBy wr (some tb))) (fun _ wr => match wr.cell? ⟨cb, 0, none⟩ with | some (.int _ x) => 16 - x.toNat | _ => 0)
  case atStart => exact ⟨0, 0, by omega, by omega, HB0, rfl, (unhide HRR).symm, HT0, HG0⟩
  case round =>
    clear HB0 HT0 HG0 HW1
    obtain ⟨j, X, hj, hpj, hbx, hX, hS, hT, hg⟩ := hrel
    have c0 : wr.cell? ⟨cb, 0, none⟩ = some (.int .i64 (j : Int)) := by rw [cell_of_row wr _ 0 _ _ (0, 0) (unhide hbx)]; rfl
    have c1 : wr.cell? ⟨cb, 1, none⟩ = some (.int .i64 X) := by rw [cell_of_row wr _ 1 _ _ (0, 0) (unhide hbx)]; rfl
    have hXb := numAt_small zs p j hj
    rw [← unhide hX] at hXb
    by_cases h16 : j < 16
    · have hd1 : decide ((j : Int) < 16) = true := decide_eq_true (by omega)
      by_cases hlt : p + j < 8 * n
      · have hd2 : decide ((0 : Int) < 8 * (n : Int) - ((p + j : Nat) : Int)) = true := decide_eq_true (by omega)
        have HRw : Hid (Rd .u8 wr ao n zs) := (unhide HR).beside (unhide hg) (unhide HNE)
        have HBKw := hide ((unhide HBK).kept (unhide hg) (by intro e; exact hmt (Option.some.inj e)))
        have HNX : Hid (numAt zs p (j + 1) = 2 * X + bitAt zs (p + j)) := by unfold Hid; rw [unhide hX]; rfl
        have hbit := bitAt_01 zs (p + j)
        have e1 := i64_in ((j : Int) + 1) (by omega)
        have e2 := i64_in (2 * X) (by omega)
        have e3 := i64_in (2 * X + bitAt zs (p + j)) (by omega)
        have HL := hide (implLeftR tb ao n cap (p + j) wr (unhide hT) hn hpj)
        go_wp2_with fail
        refine (unhide HL).mono ?_
        rintro e w2 ⟨rfl, qd, rfl⟩
        have d0 : (wr.drewN qd).cell? ⟨cb, 0, none⟩ = some (.int .i64 (j : Int)) := c0
        have d1 : (wr.drewN qd).cell? ⟨cb, 1, none⟩ = some (.int .i64 X) := c1
        have HBd : Hid ((wr.drewN qd).drew.heap[cb]? = some (.cells #[.int .i64 (j : Int), .int .i64 X] 30 (0, 0))) := unhide hbx
        have HGd : Hid (w.grownBy (wr.drewN qd).drew (some tb)) := grown_drew (grown_drewN (unhide hg) qd)
        have HGe : Hid (wr.grownBy (wr.drewN qd).drew none) := grown_drew (grown_drewN (World.grownBy.refl _ _) qd)
        have HTd := hide ((unhide hT).grown (unhide HGe))
        have HRd := hide ((unhide HRw).grown (unhide HGe))
        have HKd := hide ((unhide HBKw).kept (unhide HGe) (by simp))
        obtain ⟨W, HW⟩ : ∃ W, Hid (wr.drewN qd = W) := ⟨_, rfl⟩
        rw [unhide HW] at d0 d1 HBd HGd HGe HTd HRd HKd
        clear HL c0 c1
        go_wp2_with fail
        rw [unhide HW]
        refine wp_region_noPanic ?_
        refine wp_region_tailL 4 (fun w' => w'.cell? ⟨cb, 0, none⟩ = some (.int .i64 (j : Int)) ∧ w'.cell? ⟨cb, 1, none⟩ = some (.int .i64 X)) [true, true, true, true, true, true, true, false, false, false, false] (by kernel_rfl) (fun _ _ _ _ _ h => h) rfl (by decide) (by kernel_rfl) ⟨d0, d1⟩ ?_
        iterate 7
          refine heldF_take (v := ?_) (Or.inl ⟨by rfl, ?_⟩) ?_
          rotate_left 1
          · intro w' hSw
            try dsimp only at hSw
            obtain ⟨z0, z1⟩ := hSw
            go_simp
            try with_reducible rfl
          simp only [Act.put, List.setIfInBounds_toArray, List.set_cons_zero, List.set_cons_succ]
        iterate 4 refine heldF_skip ?_
        refine heldF_nil ?_
        iterate 7 refine tailL_skip ?_
        refine tailL_step (fun K hK => ?_)
        go_simp
        refine (implNext tb ao n cap (p + j) zs W.drew (unhide HTd) (unhide HRd) (unhide HBY) hn hlt).mono ?_
        rintro e w5 ⟨rfl, r5, g5⟩
        have hcs : some cb ≠ some tb := fun e => hct (Option.some.inj e)
        have b5 : w5.heap[cb]? = some (.cells #[.int .i64 (j : Int), .int .i64 X] 30 (0, 0)) := (g5.block cb (Array.getElem?_eq_some_iff.1 (unhide HBd)).1 hcs).trans (unhide HBd)
        have q0 : w5.cell? ⟨cb, 0, none⟩ = some (.int .i64 (j : Int)) := by rw [cell_of_row w5 _ 0 _ _ (0, 0) b5]; rfl
        have q1 : w5.cell? ⟨cb, 1, none⟩ = some (.int .i64 X) := by rw [cell_of_row w5 _ 1 _ _ (0, 0) b5]; rfl
        have f0 : w5.frozen? ⟨cb, 0, none⟩ = false := frozen_of_row w5 cb 0 _ _ b5
        have f1 : w5.frozen? ⟨cb, 1, none⟩ = false := frozen_of_row w5 cb 1 _ _ b5
        have HK5 := hide ((unhide HKd).kept g5 (fun e => hmt (Option.some.inj e)))
        have HG5 := hide (grown_trans (unhide HGd) g5)
        have HR5 := hide r5
        have HB5 := hide b5
        clear r5 g5 b5 HTd HRd HKd HGd HGe HBd hT
        generalize bitAt zs (p + j) = bt at *
        go_simp
        refine hK.out _ _ (.inr ⟨q0, q1⟩) ?_
        clear hK K
        try simp only [Act.put, List.setIfInBounds_toArray, List.set_cons_zero, List.set_cons_succ]
        refine tailL_step (fun K hK => ?_)
        go_simp
        refine hK.out _ _ (.inr ⟨q0, q1⟩) ?_
        clear hK K
        try simp only [Act.put, List.setIfInBounds_toArray, List.set_cons_zero, List.set_cons_succ]
        obtain ⟨Y, HY⟩ : ∃ Y, Hid (2 * X + bt = Y) := ⟨_, rfl⟩
        rw [unhide HY]
        refine tailL_step (fun K hK => ?_)
        go_simp
        refine hK.out _ _ (.inr ⟨q0, q1⟩) ?_
        clear hK K
        try simp only [Act.put, List.setIfInBounds_toArray, List.set_cons_zero, List.set_cons_succ]
        refine tailL_step (fun K hK => ?_)
        go_simp
        refine hK.out _ _ (.inl rfl) ?_
        clear hK K
        refine tailL_nil (NoPanic.normal ?_)
        obtain ⟨W6, hW6⟩ : ∃ W6, (w5.setCell ⟨cb, 0, none⟩ (.int .i64 ((j : Int) + 1))).setCell ⟨cb, 1, none⟩ (.int .i64 Y) = W6 := ⟨_, rfl⟩
        rw [hW6]
        have g6 : w5.grownBy W6 (some cb) := by rw [← hW6]; exact grown_trans (grown_set w5 cb 0 _) (grown_set _ cb 1 _)
        have b6 : W6.heap[cb]? = some (.cells #[.int .i64 ((j : Int) + 1), .int .i64 Y] 30 (0, 0)) := by
          rw [← hW6]
          exact heap_setCell_same _ cb 1 _ _ _ (heap_setCell_same w5 cb 0 _ _ _ (unhide HB5))
        have HG6 : Hid (w.grownBy W6 (some tb)) := by
          refine ⟨g6.os.trans (unhide HG5).os, g6.tape.trans (unhide HG5).tape, g6.output.trans (unhide HG5).output, Nat.le_trans (unhide HG5).size g6.size, fun k hk hkt => ?_⟩
          have hkc : some k ≠ some cb := fun e => by have := Option.some.inj e; have := unhide HCB; omega
          exact (g6.block k (Nat.lt_of_lt_of_le hk (unhide HG5).size) hkc).trans ((unhide HG5).block k hk hkt)
        have HR6 : Hid (Rr W6 tb ao n cap (p + (j + 1))) := by
          have h := unhide HR5
          have e : p + (j + 1) = p + j + 1 := by omega
          rw [e]
          exact (g6.block tb h.lt (fun e => hct (Option.some.inj e).symm)).trans h
        have HK6 := hide ((unhide HK5).kept g6 (fun e => hcm (Option.some.inj e).symm))
        have k0 : W6.cell? ⟨cb, 0, none⟩ = some (.int .i64 ((j : Int) + 1)) := by rw [cell_of_row W6 _ 0 _ _ (0, 0) b6]; rfl
        have k1 : W6.cell? ⟨cb, 1, none⟩ = some (.int .i64 Y) := by rw [cell_of_row W6 _ 1 _ _ (0, 0) b6]; rfl
        have HB6 : Hid (W6.heap[cb]? = some (.cells #[.int .i64 ((j + 1 : Nat) : Int), .int .i64 Y] 30 (0, 0))) := by
          unfold Hid
          rw [show ((j + 1 : Nat) : Int) = (j : Int) + 1 by omega]
          exact b6
        have HYN : Hid (Y = numAt zs p (j + 1)) := by unfold Hid; rw [unhide HNX, unhide HY]
        have hYb := numAt_small zs p (j + 1) (by omega)
        rw [← unhide HYN] at hYb
        obtain ⟨D, hown, hD⟩ := unhide HK6
        have hDY := hD ((j : Int) + 1) Y (by omega) (by omega)
        have hfi := unhide HFI ((j : Int) + 1) Y (by omega)
        have HKEY := hide (keyField (a := (j : Int) + 1) (b := Y) (wf_small (by omega)) (wf_small (by omega)))
        have HOWN := hide hown
        have hsl : 8 * zs.length = 8 * n := by rw [unhide HZL]
        have e16 : 16 - j = (16 - (j + 1)) + 1 := by omega
        have hS2 := unhide hS
        rw [e16] at hS2
        cases hbf : bookF C C.length ((j : Int) + 1) Y with
        | some s =>
          rw [hbf] at hDY hfi
          have hhas : Maps.has D (fieldKey ((j : Int) + 1) Y) = true := hDY.1
          have hval := hDY.2 s rfl
          have HFIN : Hid (r = some (s, p + (j + 1))) := by
            unfold Hid
            rw [hS2]
            refine symF_hit8 (by rw [hsl]; exact hlt) ?_
            rw [← unhide HYN, show ((j + 1 : Nat) : Int) = (j : Int) + 1 by omega]
            exact hfi.symm
          have hsm := (bookF_lt hbf).1
          have HSM := hide hsm
          have HHAS := hide hhas
          have HVAL := hide hval
          clear hown hD hDY hfi hW6 g6 b6 hS2 hS hX hbx HB5 HR5 HK5 hsm hhas hval hbf HRw HBKw HNX
          go_wp2_with (at_lookup; refine wpList_lookup_own_ok_int _ rfl _ _ 65 rfl 30 3 .i64 lawField Try.underlying65 Try.underlying3 (zeroInt8 _) mb C.length D rfl (unhide HOWN) _ _ rfl (unhide HKEY) ?_)
          intro c hat _
          rw [unhide HVAL] at hat
          have hcs : c = (s : Int) := by simpa using hat.symm
          subst hcs
          rw [unhide HHAS]
          clear hat
          go_wp2
          refine bodyPost_ret (v := .tuple #[.int .i64 s, .bool true]) (by simp [results, Try.results53, go_sem]) rfl ⟨s, p + (j + 1), true, rfl, fun _ => ⟨unhide HFIN, unhide HR6, by omega, unhide HSM⟩, fun h => absurd h (by simp), unhide HG6⟩
        | none =>
          rw [hbf] at hDY hfi
          have hhas : Maps.has D (fieldKey ((j : Int) + 1) Y) = false := hDY.1
          have HS6 : Hid (r = symF C zs p (16 - (j + 1)) (j + 1)) := by
            unfold Hid
            rw [hS2]
            refine symF_miss8 (by rw [hsl]; exact hlt) ?_
            rw [← unhide HYN, show ((j + 1 : Nat) : Int) = (j : Int) + 1 by omega]
            exact hfi.symm
          have HHAS := hide hhas
          have HC0 : Hid (wr.cell? ⟨cb, 0, none⟩ = some (.int .i64 (j : Int))) := by unfold Hid; rw [cell_of_row wr _ 0 _ _ (0, 0) (unhide hbx)]; rfl
          clear hown hD hDY hfi hW6 g6 b6 hS2 hS hX hbx HB5 HR5 HK5 hhas hbf HRw HBKw HNX
          go_wp2_with (at_lookup; refine wpList_lookup_own_ok_int _ rfl _ _ 65 rfl 30 3 .i64 lawField Try.underlying65 Try.underlying3 (zeroInt8 _) mb C.length D rfl (unhide HOWN) _ _ rfl (unhide HKEY) ?_)
          intro c _ _
          rw [unhide HHAS]
          go_wp2
          go_roundw
          case rel => exact ⟨j + 1, Y, by omega, by omega, HB6, HYN, HS6, HR6, HG6⟩
          case measure =>
            have h0 := unhide HC0
            simp only [k0, h0]
            omega
      · have hd2 : decide ((0 : Int) < 8 * (n : Int) - ((p + j : Nat) : Int)) = false := decide_eq_false (by omega)
        have HFIN : Hid (r = none) := by unfold Hid; rw [unhide hS]; exact symF_end8 (by rw [unhide HZL]; omega)
        have HL := hide (implLeftR tb ao n cap (p + j) wr (unhide hT) hn hpj)
        go_wp2_with fail
        refine (unhide HL).mono ?_
        rintro e w2 ⟨rfl, qd, rfl⟩
        have HGq := hide (grown_drewN (unhide hg) qd)
        clear HL
        go_wp2
        refine bodyPost_ret (v := .tuple #[.int .i64 ((0 : Nat) : Int), .bool false]) (by simp [results, Try.results53, go_sem]) rfl ⟨0, 0, false, rfl, fun h => absurd h (by simp), fun _ => unhide HFIN, unhide HGq⟩
    · have hd1 : decide ((j : Int) < 16) = false := decide_eq_false (by omega)
      have HFIN : Hid (r = none) := by
        unfold Hid
        rw [unhide hS, show 16 - j = 0 by omega]
        rfl
      go_wp2
      refine bodyPost_ret (v := .tuple #[.int .i64 ((0 : Nat) : Int), .bool false]) (by simp [results, Try.results53, go_sem]) rfl ⟨0, 0, false, rfl, fun h => absurd h (by simp), fun _ => unhide HFIN, unhide hg⟩

end Go.Proofs.Ytcbaiagkdphkeaa
