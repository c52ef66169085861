/-
  The reader of the bit coder, in the specification: its box, a byte, and the start.
-/
import Derived.Test.YtekidfkahpaokaaCoderBack
import Derived.Test.YtekidfkahpaokaaCoderEnc
namespace Go.Proofs.Ytekidfkahpaokaa
open Go.RowKit

/-- Byte i of a row, and 0 beyond its end. -/
def byteS (bz : List Int) (i : Nat) : Nat := (bz.getD i 0).toNat
theorem byteS_le {bz : List Int} (hb : ∀ i, 0 ≤ bz.getD i 0 ∧ bz.getD i 0 ≤ 255) (i : Nat) : byteS bz i ≤ 255 := by have := hb i; unfold byteS; omega

/-- What lies beside the reader stays. -/
def Fr (W w : World) (xb rb : Nat) (v : Value) : Prop := ∀ k, k < W.heap.size → k ≠ xb → k ≠ rb → v.ownBlock ≠ some k → w.heap[k]? = W.heap[k]?
theorem Fr.next {W w w' : World} {xb rb : Nat} {v : Value} {row : Option Nat} (h : Fr W w xb rb v) (hs : W.heap.size ≤ w.heap.size) (g : w.grownBy w' row) (hr : row = none ∨ row = some xb ∨ row = some rb ∨ row = v.ownBlock) : Fr W w' xb rb v := fun k hk h1 h2 h3 => by
  refine (g.block k (by omega) ?_).trans (h k hk h1 h2 h3)
  intro e
  rcases hr with r | r | r | r
  · rw [r] at e; cases e
  · rw [r] at e; exact h1 (Option.some.inj e)
  · rw [r] at e; exact h2 (Option.some.inj e)
  · rw [r] at e; exact h3 e.symm

structure Iw (B W : World) (xb rb : Nat) (w : World) (v bs : Value) (P : List Nat) (s : De) : Prop where
  lk : Lk B xb w v P
  box : w.heap[rb]? = some (.cells #[.pointer (some ⟨xb, 0, none⟩), bs, .int .i64 (s.at_ : Int), .int .i64 (s.code : Int), .int .i64 (s.rang : Int)] 83 (0, 0))
  n1 : v.ownBlock ≠ some rb
  n4 : xb ≠ rb
  base : B.heap.size ≤ rb
  sz : W.heap.size ≤ w.heap.size
  fr : Fr W w xb rb v
theorem Iw.cells {B W w : World} {xb rb : Nat} {v bs : Value} {P : List Nat} {s : De} (h : Iw B W xb rb w v bs P s) : w.cell? ⟨rb, 0, none⟩ = some (.pointer (some ⟨xb, 0, none⟩)) ∧ w.cell? ⟨rb, 1, none⟩ = some bs ∧ w.cell? ⟨rb, 2, none⟩ = some (.int .i64 (s.at_ : Int)) ∧ w.cell? ⟨rb, 3, none⟩ = some (.int .i64 (s.code : Int)) ∧ w.cell? ⟨rb, 4, none⟩ = some (.int .i64 (s.rang : Int)) ∧ w.cell? ⟨xb, 0, none⟩ = some v := by
  refine ⟨?_, ?_, ?_, ?_, ?_, ?_⟩
  · rw [cell_of_row w rb 0 _ _ (0, 0) h.box]; rfl
  · rw [cell_of_row w rb 1 _ _ (0, 0) h.box]; rfl
  · rw [cell_of_row w rb 2 _ _ (0, 0) h.box]; rfl
  · rw [cell_of_row w rb 3 _ _ (0, 0) h.box]; rfl
  · rw [cell_of_row w rb 4 _ _ (0, 0) h.box]; rfl
  · rw [cell_of_row w xb 0 _ _ (0, 0) h.lk.box]; rfl
theorem Iw.fz {B W w : World} {xb rb : Nat} {v bs : Value} {P : List Nat} {s : De} (h : Iw B W xb rb w v bs P s) (j : Nat) : w.frozen? ⟨rb, j, none⟩ = false := frozen_of_row w rb j _ _ h.box
theorem Iw.drewN {B W w : World} {xb rb : Nat} {v bs : Value} {P : List Nat} {s : De} (h : Iw B W xb rb w v bs P s) {w' : World} (g : w.grownBy w' none) : Iw B W xb rb w' v bs P s :=
  ⟨h.lk.beside g (by simp) (fun _ _ => by simp) (fun k e => by simp at e), grown_atC g h.box (by simp), h.n1, h.n4, h.base, Nat.le_trans h.sz g.size, h.fr.next h.sz g (.inl rfl)⟩
theorem Iw.setLk {B W w : World} {xb rb : Nat} {v bs : Value} {P : List Nat} {s : De} (h : Iw B W xb rb w v bs P s) (j : Nat) (u : Value) : Lk B xb (w.setCell ⟨rb, j, none⟩ u) v P ∧ W.heap.size ≤ (w.setCell ⟨rb, j, none⟩ u).heap.size ∧ Fr W (w.setCell ⟨rb, j, none⟩ u) xb rb v := by
  have G := grown_set w rb j u
  exact ⟨h.lk.beside G (fun e => h.n4 (Option.some.inj e).symm) (fun k e e2 => h.n1 (by rw [e2]; exact e)) (fun k e => by have := Option.some.inj e; have := h.base; omega), Nat.le_trans h.sz G.size, h.fr.next h.sz G (.inr (.inr (.inl rfl)))⟩
theorem Iw.set2 {B W w : World} {xb rb : Nat} {v bs : Value} {P : List Nat} {s : De} (h : Iw B W xb rb w v bs P s) (x : Nat) : Iw B W xb rb (w.setCell ⟨rb, 2, none⟩ (.int .i64 (x : Int))) v bs P ⟨s.code, s.rang, x⟩ := by
  obtain ⟨a, b, c⟩ := h.setLk 2 (.int .i64 (x : Int))
  exact ⟨a, heap_setCell_same w rb 2 _ _ _ h.box, h.n1, h.n4, h.base, b, c⟩
theorem Iw.set3 {B W w : World} {xb rb : Nat} {v bs : Value} {P : List Nat} {s : De} (h : Iw B W xb rb w v bs P s) (x : Nat) : Iw B W xb rb (w.setCell ⟨rb, 3, none⟩ (.int .i64 (x : Int))) v bs P ⟨x, s.rang, s.at_⟩ := by
  obtain ⟨a, b, c⟩ := h.setLk 3 (.int .i64 (x : Int))
  exact ⟨a, heap_setCell_same w rb 3 _ _ _ h.box, h.n1, h.n4, h.base, b, c⟩
theorem Iw.set4 {B W w : World} {xb rb : Nat} {v bs : Value} {P : List Nat} {s : De} (h : Iw B W xb rb w v bs P s) (x : Nat) : Iw B W xb rb (w.setCell ⟨rb, 4, none⟩ (.int .i64 (x : Int))) v bs P ⟨s.code, x, s.at_⟩ := by
  obtain ⟨a, b, c⟩ := h.setLk 4 (.int .i64 (x : Int))
  exact ⟨a, heap_setCell_same w rb 4 _ _ _ h.box, h.n1, h.n4, h.base, b, c⟩
theorem Iw.like {B W w w' : World} {xb rb : Nat} {v bs : Value} {P P' : List Nat} {s : De} (h : Iw B W xb rb w v bs P s) (hl : Lk B xb w' v P') (g : w.grownBy w' v.ownBlock) : Iw B W xb rb w' v bs P' s :=
  ⟨hl, grown_atC g h.box h.n1, h.n1, h.n4, h.base, Nat.le_trans h.sz g.size, h.fr.next h.sz g (.inr (.inr (.inr rfl)))⟩
/-- From here on. -/
theorem Iw.here {B W w : World} {xb rb : Nat} {v bs : Value} {P : List Nat} {s : De} (h : Iw B W xb rb w v bs P s) : Iw B w xb rb w v bs P s := ⟨h.lk, h.box, h.n1, h.n4, h.base, Nat.le_refl _, fun _ _ _ _ _ => rfl⟩
/-- Another row was written. -/
theorem Iw.aside {B W w w' : World} {xb rb : Nat} {v bs : Value} {P : List Nat} {s : De} {row : Option Nat} (h : Iw B W xb rb w v bs P s) (g : w.grownBy w' row) (h1 : row ≠ some xb) (h2 : row ≠ some rb) (h3 : ∀ k, v.ownBlock = some k → row ≠ some k) (h4 : ∀ k, row = some k → B.heap.size ≤ k) : Iw B w' xb rb w' v bs P s :=
  ⟨h.lk.beside g h1 h3 h4, grown_atC g h.box h2, h.n1, h.n4, h.base, Nat.le_refl _, fun _ _ _ _ _ => rfl⟩

set_option maxRecDepth 20000 in
set_option maxHeartbeats 1600000 in
theorem specNext {B W w : World} {xb rb : Nat} {v : Value} {P : List Nat} {s : De} (ao : Option Addr) (n cap : Nat) (bz : List Int) (h : Iw B W xb rb w v (.slice ao n cap) P s) (hr : Rd .u8 w ao n bz) (hb : ∀ i, 0 ≤ bz.getD i 0 ∧ bz.getD i 0 ≤ 255) (hat : s.at_ ≤ 4000000) :
    Calls Try.prog 71 #[.pointer (some ⟨rb, 0, none⟩)] w fun e w' => e = .returned (.int .i64 ((byteS bz s.at_ : Nat) : Int)) ∧ Iw B W xb rb w' v (.slice ao n cap) P ⟨s.code, s.rang, s.at_ + 1⟩ := by
  obtain ⟨c0, c1, c2, c3, c4, c5⟩ := h.cells
  have f2 := h.fz 2
  obtain ⟨a, HA⟩ : ∃ a, Hid (s.at_ = a) := ⟨_, rfl⟩
  have HS : Hid (∀ nq, Iw B W xb rb ((w.drewN nq).setCell ⟨rb, 2, none⟩ (.int .i64 ((a : Int) + 1))) v (.slice ao n cap) P ⟨s.code, s.rang, a + 1⟩) := fun nq => by
    have h1 := (h.drewN (grown_drewN (World.grownBy.refl _ _) nq)).set2 (a + 1)
    have e : ((a + 1 : Nat) : Int) = (a : Int) + 1 := by omega
    rw [e] at h1
    exact h1
  rw [unhide HA] at c2 hat ⊢
  have e1 := i64_in ((a : Int) + 1) (by omega)
  obtain ⟨hl, hc⟩ := hr
  have hba := hb a
  by_cases hlt : a < n
  · obtain ⟨b, off, rfl, hcb⟩ := hc a hlt
    have HB : Hid (((byteS bz a : Nat) : Int) = bz.getD a 0) := by unfold Hid byteS; omega
    rw [unhide HB]
    clear HB
    generalize bz.getD a 0 = x at hcb hba
    have hd : decide ((a : Int) < (n : Int)) = true := decide_eq_true (by omega)
    have e2 := i64_in x (by omega)
    have haI : (a : Int) < (n : Int) := by omega
    clear hc hb h
    go_enter Try.func71, Try.ntmps71
    go_wp2
    go_quiet (fail)
    go_wp2
    go_quiet (fail)
    go_wp2
    go_ret
    exact ⟨rfl, unhide HS _⟩
  · have HB : Hid (((byteS bz a : Nat) : Int) = 0) := by
      unfold Hid byteS
      rw [List.getD_eq_getElem?_getD, List.getElem?_eq_none (by omega)]; rfl
    rw [unhide HB]
    have hd : decide ((a : Int) < (n : Int)) = false := decide_eq_false (by omega)
    clear hc hb h
    go_enter Try.func71, Try.ntmps71
    go_wp2
    go_quiet (fail)
    go_wp2
    go_ret
    exact ⟨rfl, unhide HS _⟩

theorem pref_bound {B : Nat → Nat} (hB : ∀ i, B i ≤ 255) : ∀ k, prefV B k < 256 ^ k
  | 0 => by simp [prefV]
  | k + 1 => by have := pref_bound hB k; have := hB k; rw [prefV, Nat.pow_succ]; omega

set_option maxRecDepth 20000 in
set_option maxHeartbeats 1600000 in
theorem specReader (ao : Option Addr) (n cap : Nat) (bz : List Int) (w : World) (hr : Rd .u8 w ao n bz) (hb : ∀ i, 0 ≤ bz.getD i 0 ∧ bz.getD i 0 ≤ 255) :
    Calls Try.prog 49 #[.slice ao n cap] w fun e w' => ∃ xb rb v, e = .returned (.pointer (some ⟨rb, 0, none⟩)) ∧ Iw w w xb rb w' v (.slice ao n cap) (List.replicate 400 2048) ⟨prefV (byteS bz) 4, 4294967295, 4⟩ := by
  have HR := hide hr
  have HB := hide hb
  have HBB := hide (byteS_le hb)
  clear hr hb
  go_enter Try.func49, Try.ntmps49
  go_wp2_with fail
  refine (specNew w).mono ?_
  rintro e w1 ⟨v, rfl, hk⟩
  have hs := hk.lt
  have G : w1.grownBy (w1.alloc (.cells #[.pointer (some ⟨w.heap.size, 0, none⟩), .slice ao n cap, .int .i64 0, .int .i64 0, .int .i64 4294967295] 83)) none := World.grownBy_alloc _ _ _
  have H0 : Hid (Iw w w w.heap.size w1.heap.size (w1.alloc (.cells #[.pointer (some ⟨w.heap.size, 0, none⟩), .slice ao n cap, .int .i64 0, .int .i64 0, .int .i64 4294967295] 83)) v (.slice ao n cap) (List.replicate 400 2048) ⟨prefV (byteS bz) 0, 4294967295, 0⟩) := by
    have hl := hk.beside G (by simp) (fun _ _ => by simp) (fun k e => by simp at e)
    refine ⟨hl, heap_alloc_new w1 _, fun e => ?_, by omega, hk.grown.size, hl.grown.size, fun k h1 _ _ _ => hl.grown.block k h1 (by simp)⟩
    have := (hk.own.lt _ e).2
    omega
  clear hk G
  go_wp2
  go_loopw [4] (fun kv wr => ∃ k : Nat, k ≤ 4 ∧ kv = .int .i64 k ∧ Hid (Iw w w w.heap.size w1.heap.size wr v (.slice ao n cap) (List.replicate 400 2048) ⟨prefV (byteS bz) k, 4294967295, k⟩)) (fun kv _ => 4 - (intOf kv).toNat)
  case atStart => exact ⟨0, Nat.zero_le _, rfl, H0⟩
  case round =>
    clear H0
    obtain ⟨k, hk, rfl, hw⟩ := hrel
    by_cases hlt : k < 4
    · have hd : decide ((k : Int) < 4) = true := decide_eq_true (by omega)
      have HN := hide (specNext ao n cap bz (unhide hw) ((unhide HR).grown (unhide hw).lk.grown) (unhide HB) (by dsimp only; omega))
      have hpb := pref_bound (unhide HBB) k
      have hp4 : (256 : Nat) ^ k ≤ 256 ^ 3 := Nat.pow_le_pow_right (by decide) (by omega)
      have hbk := unhide HBB k
      have HPS : Hid (prefV (byteS bz) (k + 1) = 256 * prefV (byteS bz) k + byteS bz k) := rfl
      generalize byteS bz k = x at *
      generalize prefV (byteS bz) k = pv at *
      have hpv : pv < 16777216 := by have : (256 : Nat) ^ 3 = 16777216 := by decide
                                     omega
      have e1 := i64_in (256 * (pv : Int)) (by omega)
      have e2 := i64_in (256 * (pv : Int) + (x : Int)) (by omega)
      clear hpb hp4 hw
      go_wp2_with fail
      refine (unhide HN).mono ?_
      rintro e w2 ⟨rfl, hw2⟩
      have c3 := hw2.cells.2.2.2.1
      dsimp only at c3
      have f3 := hw2.fz 3
      have HW2 : Hid (Iw w w w.heap.size w1.heap.size (w2.setCell ⟨w1.heap.size, 3, none⟩ (.int .i64 (256 * (pv : Int) + (x : Int)))) v (.slice ao n cap) (List.replicate 400 2048) ⟨prefV (byteS bz) (k + 1), 4294967295, k + 1⟩) := by
        have h1 := hw2.set3 (256 * pv + x)
        have e : ((256 * pv + x : Nat) : Int) = 256 * (pv : Int) + (x : Int) := by omega
        rw [e] at h1
        unfold Hid
        rw [unhide HPS]
        exact h1
      clear hw2 HN HPS
      go_wp2
      go_roundw
      case rel => exact ⟨k + 1, by omega, by go_num, HW2⟩
      case measure => simp [intOf]; omega
    · obtain rfl : k = 4 := by omega
      go_wp2
      go_ret
      exact ⟨_, _, _, rfl, unhide hw⟩

end Go.Proofs.Ytekidfkahpaokaa
