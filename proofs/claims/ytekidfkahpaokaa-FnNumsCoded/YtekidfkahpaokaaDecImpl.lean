/-
  The bit coder of the program: bits that are read.
-/
import Derived.Test.YtekidfkahpaokaaEncImpl4
import Derived.Test.YtekidfkahpaokaaCoderDec
namespace Go.Proofs.Ytekidfkahpaokaa
open Go.RowKit

structure Cd (B : World) (rb : Nat) (w : World) (bs : Value) (m : Nat) (P : List Nat) (s : De) : Prop where
  co : Co w rb 77 s.rang P [.int .i64 (s.code : Int), bs, .int .i64 ((min s.at_ m : Nat) : Int)]
  base : B.heap.size ≤ rb
  grown : B.grownBy w none
theorem Cd.cells {B w : World} {rb m : Nat} {bs : Value} {P : List Nat} {s : De} (h : Cd B rb w bs m P s) : w.cell? ⟨rb, 0, none⟩ = some (.int .i64 (s.rang : Int)) ∧ w.cell? ⟨rb, 401, none⟩ = some (.int .i64 (s.code : Int)) ∧ w.cell? ⟨rb, 402, none⟩ = some bs ∧ w.cell? ⟨rb, 403, none⟩ = some (.int .i64 ((min s.at_ m : Nat) : Int)) := ⟨h.co.c0, h.co.cT 0, h.co.cT 1, h.co.cT 2⟩
theorem Cd.drewN {B w w' : World} {rb m : Nat} {bs : Value} {P : List Nat} {s : De} (h : Cd B rb w bs m P s) (g : w.grownBy w' none) : Cd B rb w' bs m P s := ⟨h.co.kept g (by simp), h.base, grown_trans h.grown g⟩
theorem Cd.turnC {B w w' : World} {rb m r : Nat} {bs : Value} {P P' : List Nat} {s : De} (h : Cd B rb w bs m P s) (g : w.grownBy w' (some rb)) (hc : Co w' rb 77 r P' [.int .i64 (s.code : Int), bs, .int .i64 ((min s.at_ m : Nat) : Int)]) : Cd B rb w' bs m P' ⟨s.code, r, s.at_⟩ :=
  ⟨hc, h.base, grown_new h.grown g (fun k e => by have := Option.some.inj e; have := h.base; omega)⟩
theorem Cd.setR {B w : World} {rb m : Nat} {bs : Value} {P : List Nat} {s : De} (h : Cd B rb w bs m P s) (x : Nat) : Cd B rb (w.setCell ⟨rb, 0, none⟩ (.int .i64 (x : Int))) bs m P ⟨s.code, x, s.at_⟩ := h.turnC (grown_set _ _ _ _) (h.co.set0 x)
theorem Cd.setC {B w : World} {rb m : Nat} {bs : Value} {P : List Nat} {s : De} (h : Cd B rb w bs m P s) (x : Nat) : Cd B rb (w.setCell ⟨rb, 401, none⟩ (.int .i64 (x : Int))) bs m P ⟨x, s.rang, s.at_⟩ :=
  ⟨h.co.setT 0 _, h.base, grown_new h.grown (grown_set _ _ _ _) (fun k e => by have := Option.some.inj e; have := h.base; omega)⟩
theorem Cd.setA {B w : World} {rb m : Nat} {bs : Value} {P : List Nat} {s : De} (h : Cd B rb w bs m P s) (x : Nat) (hx : x ≤ m) : Cd B rb (w.setCell ⟨rb, 403, none⟩ (.int .i64 (x : Int))) bs m P ⟨s.code, s.rang, x⟩ := by
  refine ⟨?_, h.base, grown_new h.grown (grown_set _ _ _ _) (fun k e => by have := Option.some.inj e; have := h.base; omega)⟩
  have h1 := h.co.setT 2 (.int .i64 (x : Int))
  have e : min x m = x := by omega
  dsimp only
  rw [e]
  exact h1
theorem Cd.far {B w : World} {rb m : Nat} {bs : Value} {P : List Nat} {s : De} (h : Cd B rb w bs m P s) (hx : m ≤ s.at_) : Cd B rb w bs m P ⟨s.code, s.rang, s.at_ + 1⟩ := by
  refine ⟨?_, h.base, h.grown⟩
  have h1 := h.co
  have e : min (s.at_ + 1) m = min s.at_ m := by omega
  dsimp only
  rw [e]
  exact h1

set_option maxRecDepth 20000 in
set_option maxHeartbeats 3200000 in
theorem implShift {B w : World} {rb : Nat} {P : List Nat} {s : De} (ao : Option Addr) (m cap : Nat) (bz : List Int) (h : Cd B rb w (.slice ao m cap) m P s) (hr : Rd .u8 B ao m bz) (hb : ∀ i, 0 ≤ bz.getD i 0 ∧ bz.getD i 0 ≤ 255) (hcd : s.code < 4294967296) (hm : m ≤ 1048576) :
    Calls Try.prog 62 #[.pointer (some ⟨rb, 0, none⟩)] w fun e w' => e = .returned (.tuple #[]) ∧ Cd B rb w' (.slice ao m cap) m P ⟨s.code % 16777216 * 256 + byteS bz s.at_, s.rang, s.at_ + 1⟩ ∧ w.grownBy w' (some rb) := by
  have k1 := h.cells.2.1
  have f1 := h.co.fz 401
  have e1 : (s.code : Int).tmod 16777216 = ((s.code % 16777216 : Nat) : Int) := tmodN s.code 16777216
  obtain ⟨md, hmd⟩ : ∃ md, s.code % 16777216 = md := ⟨_, rfl⟩
  rw [hmd] at e1 ⊢
  obtain ⟨c1, hc1⟩ : ∃ c1, md * 256 = c1 := ⟨_, rfl⟩
  have e3 := i64_in (md : Int) (by omega)
  have e5 : (md : Int) * 256 = (c1 : Int) := by omega
  have e4 := i64_in (c1 : Int) (by omega)
  rw [hc1]
  have HC1 := hide (h.setC c1)
  have HG1 : Hid (w.grownBy (w.setCell ⟨rb, 401, none⟩ (.int .i64 (c1 : Int))) (some rb)) := grown_set _ _ _ _
  have HR := hide hr
  have hba := hb s.at_
  have hl := hr.1
  obtain ⟨a, HA⟩ : ∃ a, Hid (s.at_ = a) := ⟨_, rfl⟩
  obtain ⟨code, rang, at_⟩ := s
  dsimp only at k1 hcd e1 hmd hba HC1 HA ⊢
  obtain rfl := unhide HA
  obtain ⟨W1, HW1⟩ : ∃ W1, Hid (w.setCell ⟨rb, 401, none⟩ (.int .i64 (c1 : Int)) = W1) := ⟨_, rfl⟩
  rw [unhide HW1] at HC1 HG1
  have kk := (unhide HC1).cells
  obtain ⟨r0, r1, r2, r3⟩ := kk
  dsimp only at r0 r1 r2 r3
  have fr1 := (unhide HC1).co.fz 401
  have fr3 := (unhide HC1).co.fz 403
  by_cases hlt : at_ < m
  · have hmin : min at_ m = at_ := by omega
    rw [hmin] at r3
    obtain ⟨b, off, rfl, hcb⟩ := ((unhide HR).grown (unhide HC1).grown).2 at_ hlt
    have hBY : ((byteS bz at_ : Nat) : Int) = bz.getD at_ 0 := by unfold byteS; omega
    obtain ⟨x, HX⟩ : ∃ x, Hid (byteS bz at_ = x) := ⟨_, rfl⟩
    rw [unhide HX] at hBY ⊢
    rw [← hBY] at hcb hba
    have hd : decide ((at_ : Int) < (m : Int)) = true := decide_eq_true (by omega)
    have haI : (at_ : Int) < (m : Int) := by omega
    have e6 := i64_in (x : Int) (by omega)
    have e7 := i64_in ((c1 : Int) + (x : Int)) (by omega)
    have e8 := i64_in ((at_ : Int) + 1) (by omega)
    have HS : Hid (∀ nq, Cd B rb (((W1.drewN nq).setCell ⟨rb, 401, none⟩ (.int .i64 ((c1 : Int) + (x : Int)))).setCell ⟨rb, 403, none⟩ (.int .i64 ((at_ : Int) + 1))) (.slice (some ⟨b, off, none⟩) m cap) m P ⟨c1 + x, rang, at_ + 1⟩ ∧ w.grownBy (((W1.drewN nq).setCell ⟨rb, 401, none⟩ (.int .i64 ((c1 : Int) + (x : Int)))).setCell ⟨rb, 403, none⟩ (.int .i64 ((at_ : Int) + 1))) (some rb)) := fun nq => by
      have g1 := grown_drewN (World.grownBy.refl W1 none) nq
      have h1 := (((unhide HC1).drewN g1).setC (c1 + x)).setA (at_ + 1) hlt
      rw [show ((c1 + x : Nat) : Int) = (c1 : Int) + (x : Int) by omega, show ((at_ + 1 : Nat) : Int) = (at_ : Int) + 1 by omega] at h1
      exact ⟨h1, grown_trans (grown_trans (grown_trans (unhide HG1) (grown_any g1)) (grown_set _ _ _ _)) (grown_set _ _ _ _)⟩
    clear h hr hb hBY hmin hmd HX
    go_enter Try.func62, Try.ntmps62
    go_wp2
    rw [unhide HW1]
    clear HW1
    go_quiet (fail)
    go_wp2
    refine wp_region_last 20 _ (by kernel_rfl) rfl rfl (by kernel_rfl) ?_
    dsimp only [List.dropLast]
    repeat (go_big_quiet_step (fail))
    refine wpQuiet_nil ?_
    intro nq2
    have HSN := hide (unhide HS (nq + nq2))
    clear HS HC1 HG1
    go_wp2
    exact bodyPost_end (v := .tuple #[]) (by simp [results, Try.results62, go_sem]) rfl ⟨rfl, (unhide HSN).1, (unhide HSN).2⟩
  · have hmin : min at_ m = m := by omega
    rw [hmin] at r3
    have hBY : byteS bz at_ = 0 := by
      unfold byteS
      rw [List.getD_eq_getElem?_getD, List.getElem?_eq_none (by omega)]; rfl
    rw [hBY, Nat.add_zero]
    have HF : Hid (∀ nq, Cd B rb (W1.drewN nq) (.slice ao m cap) m P ⟨c1, rang, at_ + 1⟩ ∧ w.grownBy (W1.drewN nq) (some rb)) := fun nq => by
      have g1 := grown_drewN (World.grownBy.refl W1 none) nq
      exact ⟨((unhide HC1).drewN g1).far (by dsimp only; omega), grown_trans (unhide HG1) (grown_any g1)⟩
    clear h hr hb hBY hmin hmd
    go_enter Try.func62, Try.ntmps62
    go_wp2
    rw [unhide HW1]
    clear HW1 HC1 HG1
    go_quiet (fail)
    have HFN := hide (unhide HF nq)
    clear HF
    go_wp2
    exact bodyPost_end (v := .tuple #[]) (by simp [results, Try.results62, go_sem]) rfl ⟨rfl, (unhide HFN).1, (unhide HFN).2⟩

theorem coCells_setT (r : Nat) (P : List Nat) (T : List Value) (hl : P.length = 400) (j : Nat) (x : Value) : (coCells r P T).setIfInBounds (401 + j) x = coCells r P (T.set j x) := by
  have e : 401 + j = (400 + j) + 1 := by omega
  rw [e, coCells, coCells, List.setIfInBounds_toArray, List.set_cons_succ, List.set_append_right _ _ (by rw [pCells_len]; omega), pCells_len, hl]
  have e2 : 400 + j - 400 = j := by omega
  rw [e2]

set_option maxRecDepth 100000 in
theorem zeroDec (w : World) : (zeroValue 77).run Try.prog w = .ok (.agg (coCells 0 (List.replicate 400 0) [.int .i64 0, .slice none 0 0, .int .i64 0])) w := by kernel_rfl

set_option maxRecDepth 100000 in
set_option maxHeartbeats 1600000 in
theorem implNewDec (ao : Option Addr) (m cap : Nat) (bz : List Int) (w : World) (hr : Rd .u8 w ao m bz) (hb : ∀ i, 0 ≤ bz.getD i 0 ∧ bz.getD i 0 ≤ 255) (hm : m ≤ 1048576) :
    Calls Try.prog 41 #[.slice ao m cap] w fun e w' => ∃ rb, e = .returned (.pointer (some ⟨rb, 0, none⟩)) ∧ Cd w rb w' (.slice ao m cap) m (List.replicate 400 2048) ⟨prefV (byteS bz) 4, 4294967295, 4⟩ := by
  have hz := zeroDec w
  obtain ⟨Z, HZ⟩ : ∃ Z, Hid (coCells 0 (List.replicate 400 0) [.int .i64 0, .slice none 0 0, .int .i64 0] = Z) := ⟨_, rfl⟩
  rw [unhide HZ] at hz
  have hzs : Z.size = 404 := by rw [← unhide HZ]; simp [coCells, pCells]
  have HR := hide hr
  have HB := hide hb
  have HBB := hide (byteS_le hb)
  clear hr hb
  have HST : Hid (Calls Try.prog 61 #[.pointer (some ⟨w.heap.size, 0, none⟩)] (w.alloc (.cells (Z.setIfInBounds 402 (.slice ao m cap)) 77)) fun e w' => e = .returned (.tuple #[]) ∧ Cd w w.heap.size w' (.slice ao m cap) m (List.replicate 400 2048) ⟨prefV (byteS bz) 0, 4294967295, 0⟩) := by
    have hc : Co (w.alloc (.cells (Z.setIfInBounds 402 (.slice ao m cap)) 77)) w.heap.size 77 0 (List.replicate 400 0) [.int .i64 0, .slice ao m cap, .int .i64 0] := ⟨by rw [← unhide HZ, coCells_setT 0 _ _ (by simp) 1]; exact heap_alloc_new w _, by simp⟩
    refine (implStart hc).mono ?_
    rintro e w' ⟨rfl, hco, g⟩
    refine ⟨rfl, ?_, Nat.le_refl _, grown_new (World.grownBy_alloc w (.cells (Z.setIfInBounds 402 (.slice ao m cap)) 77) none) g (fun k e => by have := Option.some.inj e; omega)⟩
    have e0 : min 0 m = 0 := by omega
    dsimp only
    rw [e0]
    exact hco
  go_enter Try.func41, Try.ntmps41
  go_wp2_with fail
  refine (unhide HST).mono ?_
  rintro e w1 ⟨rfl, hw1⟩
  have HW1 := hide hw1
  clear hw1 HST hz hzs HZ
  obtain ⟨rb, HRB⟩ : ∃ rb, Hid (w.heap.size = rb) := ⟨_, rfl⟩
  rw [unhide HRB] at HW1 ⊢
  go_wp2
  go_loopw [11] (fun kv wr => ∃ k : Nat, k ≤ 4 ∧ kv = .int .i64 k ∧ Hid (Cd w rb wr (.slice ao m cap) m (List.replicate 400 2048) ⟨prefV (byteS bz) k, 4294967295, k⟩)) (fun kv _ => 4 - (intOf kv).toNat)
  case atStart => exact ⟨0, Nat.zero_le _, rfl, HW1⟩
  case round =>
    clear HW1
    obtain ⟨k, hk, rfl, hw⟩ := hrel
    by_cases hlt : k < 4
    · have hd : decide ((k : Int) < 4) = true := decide_eq_true (by omega)
      have hpb := pref_bound (unhide HBB) k
      have hp4 : (256 : Nat) ^ k ≤ 256 ^ 3 := Nat.pow_le_pow_right (by decide) (by omega)
      have hpv : prefV (byteS bz) k < 16777216 := by
        have : (256 : Nat) ^ 3 = 16777216 := by decide
        omega
      have HSH := hide (implShift ao m cap bz (unhide hw) (unhide HR) (unhide HB) (by dsimp only; omega) hm)
      have HPS : Hid (prefV (byteS bz) k % 16777216 * 256 + byteS bz k = prefV (byteS bz) (k + 1)) := by
        unfold Hid
        rw [Nat.mod_eq_of_lt hpv, prefV, Nat.mul_comm]
      dsimp only at HSH
      rw [unhide HPS] at HSH
      clear hpb hp4 hpv HPS
      go_wp2_with fail
      refine (unhide HSH).mono ?_
      rintro e w2 ⟨rfl, hw2, _⟩
      have HW2 := hide hw2
      clear hw2 HSH hw
      go_wp2
      go_roundw
      case rel => exact ⟨k + 1, by omega, by go_num, HW2⟩
      case measure => simp [intOf]; omega
    · obtain rfl : k = 4 := by omega
      go_wp2
      go_ret
      exact ⟨_, rfl, unhide hw⟩

end Go.Proofs.Ytekidfkahpaokaa
