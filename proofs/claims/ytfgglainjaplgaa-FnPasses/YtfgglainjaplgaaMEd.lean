/-
  Cur, CurOnce, CurOdd, BlockDraw, AnyDraw, PassDraw, ScanDraw, FirstDraw, LawAid, LeftPure, DeepA, DeepR2, TreeGA, AppIntS.
-/
import Derived.Test.YtfgglainjaplgaaRows
import Derived.Deep.QuietTactic
import Derived.BigQuiet
import Derived.Outline
import Derived.Deep.AppendLies
import Derived.Maps.AppendAt
import Derived.Test.YtfgglainjaplgaaMEc

namespace Go.Proofs.Ytfgglainjaplgaa
open Go.RowKit

/-- The cursor, as it lies in memory. -/
def Cu (w : World) (tb : Nat) (ao : Option Addr) (n cap p s : Nat) : Prop := w.heap[tb]? = some (.cells #[.slice ao n cap, .int .i64 p, .int .i64 s] 69 (0, 0))

section
variable {w : World} {tb : Nat} {ao : Option Addr} {n cap p s : Nat}
theorem Cu.c0 (h : Cu w tb ao n cap p s) : w.cell? ⟨tb, 0, none⟩ = some (.slice ao n cap) := by rw [cell_of_row w tb 0 _ _ (0, 0) h]; rfl
theorem Cu.c1 (h : Cu w tb ao n cap p s) : w.cell? ⟨tb, 1, none⟩ = some (.int .i64 p) := by rw [cell_of_row w tb 1 _ _ (0, 0) h]; rfl
theorem Cu.c2 (h : Cu w tb ao n cap p s) : w.cell? ⟨tb, 2, none⟩ = some (.int .i64 s) := by rw [cell_of_row w tb 2 _ _ (0, 0) h]; rfl
theorem Cu.fz (h : Cu w tb ao n cap p s) (j : Nat) : w.frozen? ⟨tb, j, none⟩ = false := frozen_of_row w tb j _ _ h
theorem Cu.lt (h : Cu w tb ao n cap p s) : tb < w.heap.size := by obtain ⟨h, _⟩ := Array.getElem?_eq_some_iff.1 h; exact h
theorem Cu.at (h : Cu w tb ao n cap p s) (q : Nat) : Cu (w.setCell ⟨tb, 1, none⟩ (.int .i64 q)) tb ao n cap q s := heap_setCell_same w tb 1 _ _ _ h
theorem Cu.seed (h : Cu w tb ao n cap p s) (q : Nat) : Cu (w.setCell ⟨tb, 2, none⟩ (.int .i64 q)) tb ao n cap p q := heap_setCell_same w tb 2 _ _ _ h
theorem Cu.grown {w' : World} (h : Cu w tb ao n cap p s) (hg : w.grownBy w' none) : Cu w' tb ao n cap p s := (hg.block tb h.lt (by simp)).trans h
theorem Cu.beside {w' : World} {row : Option Nat} (h : Cu w tb ao n cap p s) (hg : w.grownBy w' row) (hne : row ≠ some tb) : Cu w' tb ao n cap p s := (hg.block tb h.lt (fun e => hne e.symm)).trans h
end
/-- What a pick leaves. -/
def Picked (w : World) (tb : Nat) (ao : Option Addr) (n cap p : Nat) (k : Int) (e : Ending) (w' : World) : Prop :=
  ∃ (x : Int) (p' s' : Nat), e = .returned (.int .i64 x) ∧ 0 ≤ x ∧ x < k ∧ Cu w' tb ao n cap p' s' ∧ p' ≤ p + 2 ∧ s' < 65521 ∧ w.grownBy w' (some tb)

theorem picked_of {w w' : World} {tb : Nat} {ao : Option Addr} {n cap p p' s' : Nat} {k y : Int} {v : Value} (hv : v = .int .i64 (y % k)) (hk : 2 ≤ k) (hc : Cu w' tb ao n cap p' s') (hp : p' ≤ p + 2) (hs : s' < 65521) (hg : w.grownBy w' (some tb)) :
    Picked w tb ao n cap p k (.returned v) w' :=
  ⟨y % k, p', s', by rw [hv], Int.emod_nonneg _ (by omega), Int.emod_lt_of_pos _ (by omega), hc, hp, hs, hg⟩

set_option maxHeartbeats 1600000 in
theorem curPick_in (tb : Nat) (ao : Option Addr) (n cap p s : Nat) (k : Int) (zs : List Int) (w : World) (ht : Cu w tb ao n cap p s) (hr : Rd .u8 w ao n zs) (hne : 0 < n → ∀ b off, ao = some ⟨b, off, none⟩ → b ≠ tb)
    (hb : ∀ i, 0 ≤ zs.getD i 0 ∧ zs.getD i 0 ≤ 255) (hn : n ≤ 1048576) (hs : s < 65521) (hk : 2 ≤ k) (hk2 : k ≤ 256) (hpn : p < n) :
    Calls Try.prog 51 #[.pointer (some ⟨tb, 0, none⟩), .int .i64 k] w (Picked w tb ao n cap p k) := by
  obtain ⟨hl, hc⟩ := hr
  obtain ⟨b, off, rfl, hcb⟩ := hc p hpn
  have hbt : ¬ b = tb := hne (by omega) b off rfl
  have hbb := hb p
  have c0 := ht.c0
  have c1 := ht.c1
  have f1 := ht.fz 1
  clear hc hb hne
  generalize zs.getD p 0 = x at hcb hbb
  obtain ⟨hx0, hx1⟩ := hbb
  have hlt2 : decide (k < 2) = false := by simp; omega
  have hgt : decide (256 < k) = false := by simp; omega
  have hik : (p : Int) < (n : Int) := by omega
  go_enter Try.func51, Try.ntmps51
  go_wp2
  go_quiet (fail)
  go_wp2
  go_quiet (fail)
  go_wp2
  go_quiet (fail)
  go_wp2
  go_ret
  exact picked_of (y := x) rfl hk (Cu.at (w := w.drewN _) ht (p + 1)) (by omega) hs (grown_set' _ _ _ _ _)

set_option maxHeartbeats 1600000 in
theorem curPick_in3 (tb : Nat) (ao : Option Addr) (n cap p s : Nat) (k : Int) (zs : List Int) (w : World) (ht : Cu w tb ao n cap p s) (hr : Rd .u8 w ao n zs) (hne : 0 < n → ∀ b off, ao = some ⟨b, off, none⟩ → b ≠ tb)
    (hb : ∀ i, 0 ≤ zs.getD i 0 ∧ zs.getD i 0 ≤ 255) (hn : n ≤ 1048576) (hs : s < 65521) (hk : 2 ≤ k) (hk2 : 256 < k) (hk3 : k ≤ 2147483648) (hpn : p < n) (hp1 : n ≤ p + 1) :
    Calls Try.prog 51 #[.pointer (some ⟨tb, 0, none⟩), .int .i64 k] w (Picked w tb ao n cap p k) := by
  obtain ⟨hl, hc⟩ := hr
  obtain ⟨b, off, rfl, hcb⟩ := hc p hpn
  have hbt : ¬ b = tb := hne (by omega) b off rfl
  have hbb := hb p
  have c0 := ht.c0
  have c1 := ht.c1
  have f1 := ht.fz 1
  clear hc hb hne
  generalize zs.getD p 0 = x at hcb hbb
  obtain ⟨hx0, hx1⟩ := hbb
  have hlt2 : decide (k < 2) = false := by simp; omega
  have hgt : decide (256 < k) = true := by simp; omega
  have hge : decide ((p : Int) + 1 < (n : Int)) = false := by simp; omega
  have hik : (p : Int) < (n : Int) := by omega
  go_enter Try.func51, Try.ntmps51
  go_wp2
  go_quiet (fail)
  go_wp2
  go_quiet (fail)
  go_wp2
  go_quiet (fail)
  go_wp2
  go_ret
  exact picked_of (y := x) rfl hk (Cu.at (w := w.drewN _) ht (p + 1)) (by omega) hs (grown_set' _ _ _ _ _)

set_option maxHeartbeats 1600000 in
theorem curPick_in2 (tb : Nat) (ao : Option Addr) (n cap p s : Nat) (k : Int) (zs : List Int) (w : World) (ht : Cu w tb ao n cap p s) (hr : Rd .u8 w ao n zs) (hne : 0 < n → ∀ b off, ao = some ⟨b, off, none⟩ → b ≠ tb)
    (hb : ∀ i, 0 ≤ zs.getD i 0 ∧ zs.getD i 0 ≤ 255) (hn : n ≤ 1048576) (hs : s < 65521) (hk : 2 ≤ k) (hk2 : 256 < k) (hk3 : k ≤ 2147483648) (hp1 : p + 1 < n) :
    Calls Try.prog 51 #[.pointer (some ⟨tb, 0, none⟩), .int .i64 k] w (Picked w tb ao n cap p k) := by
  obtain ⟨hl, hc⟩ := hr
  obtain ⟨b, off, rfl, hcb⟩ := hc p (by omega)
  obtain ⟨b', off', hao, hcb'⟩ := hc (p + 1) hp1
  simp at hao
  obtain ⟨rfl, rfl⟩ := hao
  have hbb' := hb (p + 1)
  have hbt : ¬ b = tb := hne (by omega) b off rfl
  have hbb := hb p
  have c0 := ht.c0
  have c1 := ht.c1
  have f1 := ht.fz 1
  clear hc hb hne
  generalize zs.getD (p + 1) 0 = x' at hcb' hbb'
  obtain ⟨hx0', hx1'⟩ := hbb'
  generalize zs.getD p 0 = x at hcb hbb
  obtain ⟨hx0, hx1⟩ := hbb
  have hlt2 : decide (k < 2) = false := by simp; omega
  have hgt : decide (256 < k) = true := by simp; omega
  have hge : decide ((p : Int) + 1 < (n : Int)) = true := by simp; omega
  have hik1 : (p : Int) + 1 < (n : Int) := by omega
  have hik : (p : Int) < (n : Int) := by omega
  go_enter Try.func51, Try.ntmps51
  go_wp2
  go_quiet (fail)
  go_wp2
  go_quiet (fail)
  go_wp2
  go_quiet (fail)
  go_wp2
  go_quiet (fail)
  go_wp2
  go_ret
  exact picked_of (y := 256 * x + x') rfl hk (Cu.at (w := World.drewN (World.setCell (w.drewN _) _ _) _) (Cu.at (w := w.drewN _) ht (p + 1)) (p + 1 + 1)) (by omega) hs (grown_trans (grown_set' _ _ _ _ _) (grown_set' _ _ _ _ _))

set_option maxHeartbeats 1600000 in
theorem curPick_none (tb : Nat) (ao : Option Addr) (cap p s : Nat) (k : Int) (w : World) (ht : Cu w tb ao 0 cap p s) (hp : p ≤ 1000000000000) (hs : s < 65521) (hk : 2 ≤ k) (hk3 : k ≤ 2147483648) :
    Calls Try.prog 51 #[.pointer (some ⟨tb, 0, none⟩), .int .i64 k] w (Picked w tb ao 0 cap p k) := by
  have c0 := ht.c0
  have c1 := ht.c1
  have c2 := ht.c2
  have f1 := ht.fz 1
  have f2 := ht.fz 2
  have hlt2 : decide (k < 2) = false := by simp; omega
  have hpn : decide ((p : Int) < 0) = false := by simp
  go_enter Try.func51, Try.ntmps51
  go_wp2
  go_quiet (fail)
  go_wp2
  go_ret
  have e : ((s : Int) * 1103 + 12345) % 65521 = (((s * 1103 + 12345) % 65521 : Nat) : Int) := by omega
  rw [e]
  exact picked_of (y := (((s * 1103 + 12345) % 65521 : Nat) : Int) / 3) (by rw [← e]; rfl) hk (Cu.at (Cu.seed (w := w.drewN _) ht ((s * 1103 + 12345) % 65521)) (p + 1)) (by omega) (Nat.mod_lt _ (by omega)) (grown_trans (grown_set' _ _ _ _ _) (grown_set _ _ _ _))

set_option maxHeartbeats 1600000 in
theorem curPick_out (tb : Nat) (ao : Option Addr) (n cap p s : Nat) (k : Int) (zs : List Int) (w : World) (ht : Cu w tb ao n cap p s) (hr : Rd .u8 w ao n zs) (hne : 0 < n → ∀ b off, ao = some ⟨b, off, none⟩ → b ≠ tb)
    (hb : ∀ i, 0 ≤ zs.getD i 0 ∧ zs.getD i 0 ≤ 255) (hn : n ≤ 1048576) (hp : p ≤ 1000000000000) (hs : s < 65521) (hk : 2 ≤ k) (hk3 : k ≤ 2147483648) (hn0 : 0 < n) (hpn : n ≤ p) :
    Calls Try.prog 51 #[.pointer (some ⟨tb, 0, none⟩), .int .i64 k] w (Picked w tb ao n cap p k) := by
  obtain ⟨hl, hc⟩ := hr
  have hm : p % n < n := Nat.mod_lt _ hn0
  obtain ⟨b, off, rfl, hcb⟩ := hc (p % n) hm
  have hbt : ¬ b = tb := hne (by omega) b off rfl
  have hbb := hb (p % n)
  have c0 := ht.c0
  have c1 := ht.c1
  have c2 := ht.c2
  have f1 := ht.fz 1
  have f2 := ht.fz 2
  clear hc hb hne
  generalize zs.getD (p % n) 0 = x at hcb hbb
  obtain ⟨hx0, hx1⟩ := hbb
  have hlt2 : decide (k < 2) = false := by simp; omega
  have hge : decide ((p : Int) < (n : Int)) = false := by simp; omega
  have hpos : decide ((0 : Int) < (n : Int)) = true := by simp; omega
  have hmi : ((p : Int) % (n : Int)) < (n : Int) := Int.emod_lt_of_pos _ (by omega)
  have hmi0 : 0 ≤ ((p : Int) % (n : Int)) := Int.emod_nonneg _ (by omega)
  go_enter Try.func51, Try.ntmps51
  go_wp2
  go_quiet (fail)
  go_wp2
  go_quiet (fail)
  go_wp2
  go_ret
  have e : ((s : Int) * 1103 + 12345) % 65521 = (((s * 1103 + 12345) % 65521 : Nat) : Int) := by omega
  rw [e]
  exact picked_of (y := (((s * 1103 + 12345) % 65521 : Nat) : Int) / 3 + x) (by rw [← e]; rfl) hk (Cu.at (w := World.drewN (World.setCell (w.drewN _) _ _) _) (Cu.seed (w := w.drewN _) ht ((s * 1103 + 12345) % 65521)) (p + 1)) (by omega) (Nat.mod_lt _ (by omega)) (grown_trans (grown_set' _ _ _ _ _) (grown_set' _ _ _ _ _))

/-- A pick of two or more. -/
theorem curPick (tb : Nat) (ao : Option Addr) (n cap p s : Nat) (k : Int) (zs : List Int) (w : World) (ht : Cu w tb ao n cap p s) (hr : Rd .u8 w ao n zs) (hne : 0 < n → ∀ b off, ao = some ⟨b, off, none⟩ → b ≠ tb)
    (hb : ∀ i, 0 ≤ zs.getD i 0 ∧ zs.getD i 0 ≤ 255) (hn : n ≤ 1048576) (hp : p ≤ 1000000000000) (hs : s < 65521) (hk : 2 ≤ k) (hk3 : k ≤ 2147483648) :
    Calls Try.prog 51 #[.pointer (some ⟨tb, 0, none⟩), .int .i64 k] w (Picked w tb ao n cap p k) := by
  by_cases hpn : p < n
  · by_cases hk2 : k ≤ 256
    · exact curPick_in tb ao n cap p s k zs w ht hr hne hb hn hs hk hk2 hpn
    · by_cases hp1 : p + 1 < n
      · exact curPick_in2 tb ao n cap p s k zs w ht hr hne hb hn hs hk (by omega) hk3 hp1
      · exact curPick_in3 tb ao n cap p s k zs w ht hr hne hb hn hs hk (by omega) hk3 hpn (by omega)
  · by_cases hn0 : 0 < n
    · exact curPick_out tb ao n cap p s k zs w ht hr hne hb hn hp hs hk hk3 hn0 (by omega)
    · obtain rfl : n = 0 := by omega
      exact curPick_none tb ao cap p s k w ht hp hs hk hk3

/-- All that a call with a cursor wants of it, told in one. -/
structure Cur (w : World) (tb : Nat) (ao : Option Addr) (n cap : Nat) (zs : List Int) (p : Nat) : Prop where
  cu : ∃ s, Cu w tb ao n cap p s ∧ s < 65521
  rd : Rd .u8 w ao n zs
  ne : 0 < n → ∀ b off, ao = some ⟨b, off, none⟩ → b ≠ tb
  byte : ∀ i, 0 ≤ zs.getD i 0 ∧ zs.getD i 0 ≤ 255
  len : n ≤ 1048576

theorem Cur.lt {w : World} {tb : Nat} {ao : Option Addr} {n cap p : Nat} {zs : List Int} (h : Cur w tb ao n cap zs p) : tb < w.heap.size := by obtain ⟨s, h, _⟩ := h.cu; exact h.lt
theorem Cur.grown {w w' : World} {tb : Nat} {ao : Option Addr} {n cap p : Nat} {zs : List Int} (h : Cur w tb ao n cap zs p) (hg : w.grownBy w' none) : Cur w' tb ao n cap zs p :=
  ⟨by obtain ⟨s, h1, h2⟩ := h.cu; exact ⟨s, h1.grown hg, h2⟩, h.rd.grown hg, h.ne, h.byte, h.len⟩
/-- A row that is written, neither the cursor nor its code. -/
theorem Cur.beside {w w' : World} {tb : Nat} {ao : Option Addr} {n cap p : Nat} {zs : List Int} {row : Option Nat} (h : Cur w tb ao n cap zs p) (hg : w.grownBy w' row) (hrow : ∀ g, row = some g → g ≠ tb ∧ (0 < n → ∀ b off, ao = some ⟨b, off, none⟩ → b ≠ g)) : Cur w' tb ao n cap zs p := by
  cases row with
  | none => exact h.grown hg
  | some g =>
    have h1 := hrow g rfl
    exact ⟨by obtain ⟨s, h2, h3⟩ := h.cu; exact ⟨s, h2.beside hg (by simp; exact h1.1), h3⟩, h.rd.beside hg h1.2, h.ne, h.byte, h.len⟩

theorem pick_of (tb : Nat) (ao : Option Addr) (n cap p : Nat) (k : Int) (zs : List Int) (w : World) (h : Cur w tb ao n cap zs p) (hp : p ≤ 1000000000000) (hk : 2 ≤ k) (hk3 : k ≤ 2147483648) :
    Calls Try.prog 51 #[.pointer (some ⟨tb, 0, none⟩), .int .i64 k] w fun e w' => ∃ (x : Int) (p' : Nat), e = .returned (.int .i64 x) ∧ 0 ≤ x ∧ x < k ∧ Cur w' tb ao n cap zs p' ∧ p' ≤ p + 2 ∧ w.grownBy w' (some tb) := by
  obtain ⟨s, h1, h2⟩ := h.cu
  refine (curPick tb ao n cap p s k zs w h1 h.rd h.ne h.byte h.len hp h2 hk hk3).mono ?_
  rintro e w' ⟨x, p', s', he, hx0, hx1, hc, hp', hs', hg⟩
  exact ⟨x, p', he, hx0, hx1, ⟨⟨s', hc, hs'⟩, h.rd.beside hg h.ne, h.ne, h.byte, h.len⟩, hp', hg⟩

theorem pick_small (tb : Nat) (k : Int) (w : World) (hk : k < 2) :
    Calls Try.prog 51 #[.pointer (some ⟨tb, 0, none⟩), .int .i64 k] w fun e w' => e = .returned (.int .i64 0) ∧ w = w' := by
  have hlt2 : decide (k < 2) = true := by simp; omega
  go_enter Try.func51, Try.ntmps51
  go_wp2
  go_ret
  exact ⟨rfl, rfl⟩

theorem open_of (ao : Option Addr) (n cap : Nat) (zs : List Int) (w : World) (hr : Rd .u8 w ao n zs) (hb : ∀ i, 0 ≤ zs.getD i 0 ∧ zs.getD i 0 ≤ 255) (hn : n ≤ 1048576) :
    Calls Try.prog 32 #[.slice ao n cap] w fun e w' => e = .returned (.pointer (some ⟨w.heap.size, 0, none⟩)) ∧ Cur w' w.heap.size ao n cap zs 0 ∧ w.grownBy w' none := by
  have hlt := hr.lt
  have HR := hide hr
  have HB := hide hb
  clear hr hb
  go_enter Try.func32, Try.ntmps32
  go_wp2
  go_ret
  have e : 13 + (n : Int) % 1000 = ((13 + n % 1000 : Nat) : Int) := by omega
  rw [e]
  exact ⟨rfl, ⟨⟨13 + n % 1000, heap_alloc_new w _, by omega⟩, (unhide HR).grown (World.grownBy_alloc _ _ _), fun h b off e => by have := hlt h b off e; omega, unhide HB, hn⟩, World.grownBy_alloc _ _ _⟩

end Go.Proofs.Ytfgglainjaplgaa

namespace Go.Proofs.Ytfgglainjaplgaa
open Go.RowKit

set_option maxHeartbeats 800000 in
theorem once_of (tb : Nat) (ao : Option Addr) (n cap p : Nat) (k : Int) (zs : List Int) (w : World) (h : Cur w tb ao n cap zs p) (hp : p ≤ 1000000000000) (hk : 2 ≤ k) (hk3 : k ≤ 2147483648) :
    Calls Try.prog 49 #[.pointer (some ⟨tb, 0, none⟩), .int .i64 k] w fun e w' => ∃ (t : Bool) (p' : Nat), e = .returned (.bool t) ∧ Cur w' tb ao n cap zs p' ∧ p' ≤ p + 2 ∧ w.grownBy w' (some tb) := by
  have H := hide h
  clear h
  go_enter Try.func49, Try.ntmps49
  go_wp2_with fail
  refine (pick_of tb ao n cap p k zs w (unhide H) hp hk hk3).mono ?_
  rintro e w1 ⟨x, p', rfl, hx0, hx1, hc, hp', hg⟩
  go_wp2
  go_ret
  exact ⟨_, p', rfl, hc, hp', hg⟩

/-- A pick, whatever it is asked. -/
theorem pick_any (tb : Nat) (ao : Option Addr) (n cap p : Nat) (k : Int) (zs : List Int) (w : World) (h : Cur w tb ao n cap zs p) (hp : p ≤ 1000000000000) (hk : 1 ≤ k) (hk3 : k ≤ 2147483648) :
    Calls Try.prog 51 #[.pointer (some ⟨tb, 0, none⟩), .int .i64 k] w fun e w' => ∃ (x : Int) (p' : Nat), e = .returned (.int .i64 x) ∧ 0 ≤ x ∧ x < k ∧ Cur w' tb ao n cap zs p' ∧ p' ≤ p + 2 ∧ w.grownBy w' (some tb) := by
  by_cases h2 : 2 ≤ k
  · exact pick_of tb ao n cap p k zs w h hp h2 hk3
  · refine (pick_small tb k w (by omega)).mono ?_
    rintro e w' ⟨rfl, rfl⟩
    exact ⟨0, p, rfl, by omega, by omega, h, by omega, World.grownBy.refl _ _⟩

end Go.Proofs.Ytfgglainjaplgaa

namespace Go.Proofs.Ytfgglainjaplgaa
open Go.RowKit

set_option maxHeartbeats 800000 in
theorem odd_of (tb : Nat) (ao : Option Addr) (n cap p : Nat) (zs : List Int) (w : World) (h : Cur w tb ao n cap zs p) (hp : p ≤ 1000000000) :
    Calls Try.prog 59 #[.pointer (some ⟨tb, 0, none⟩)] w fun e w' => ∃ (y : Int) (p' : Nat), e = .returned (.int .i64 y) ∧ Cur w' tb ao n cap zs p' ∧ p' ≤ p + 2 ∧ w.grownBy w' (some tb) := by
  have H := hide h
  have htb := h.lt
  clear h
  go_enter Try.func59, Try.ntmps59
  go_wp2_with fail
  obtain ⟨cs, hcs, hlen⟩ : ∃ cs : List Int, (#[.int .i64 (-1), .int .i64 0, .int .i64 1, .int .i64 2, .int .i64 255, .int .i64 256, .int .i64 65535, .int .i64 9223372036854775807, .int .i64 (-9223372036854775808), .int .i64 17, .int .i64 8, .int .i64 12] : Array Value) = (cs.map (Value.int .i64)).toArray ∧ cs.length = 12 :=
    ⟨[-1, 0, 1, 2, 255, 256, 65535, 9223372036854775807, -9223372036854775808, 17, 8, 12], rfl, rfl⟩
  rw [hcs]
  clear hcs
  have hc1 := (unhide H).grown (World.grownBy_alloc w (.cells (cs.map (Value.int .i64)).toArray 3) none)
  refine (pick_of tb ao n cap p 12 zs _ hc1 (by omega) (by omega) (by omega)).mono ?_
  rintro e w1 ⟨x, p', rfl, hx0, hx1, hc, hp', hg⟩
  obtain ⟨i, rfl⟩ := Int.eq_ofNat_of_zero_le hx0
  have hblk : w1.heap[w.heap.size]? = some (.cells (cs.map (Value.int .i64)).toArray 3 (0, 0)) :=
    (hg.block w.heap.size (by simp) (by simp; omega)).trans (heap_alloc_new w _)
  have hcell : w1.cell? ⟨w.heap.size, i, none⟩ = some (.int .i64 (cs.getD i 0)) := by
    rw [cell_of_row w1 _ i _ _ (0, 0) hblk]
    simp [show i < cs.length by omega]
  have G := grown_trans (World.grownBy_alloc w (.cells (cs.map (Value.int .i64)).toArray 3) (some tb)) hg
  generalize cs.getD i 0 = y at hcell
  clear hblk hc1 hx0 hlen
  go_wp2
  go_ret
  exact ⟨y, p', rfl, hc, hp', G⟩

end Go.Proofs.Ytfgglainjaplgaa

namespace Go.Proofs.Ytfgglainjaplgaa
open Go.RowKit

theorem info_bd : (Try.prog.info? 3).map (fun i => (i.zero, i.size, i.bytes)) = some (some (.int .i64 0), 1, 8) := by kernel_rfl

theorem specClip (n lo hi : Int) (h : lo ≤ hi) (w : World) :
    Calls Try.prog 58 #[.int .i64 n, .int .i64 lo, .int .i64 hi] w fun e w' => e = .returned (.int .i64 (min (max n lo) hi)) ∧ w = w' := by
  by_cases h1 : n < lo
  · go_enter Try.func58, Try.ntmps58
    go_wp2
    go_ret
    exact ⟨ret_int (by omega), rfl⟩
  · by_cases h2 : hi < n
    · go_enter Try.func58, Try.ntmps58
      go_wp2
      go_ret
      exact ⟨ret_int (by omega), rfl⟩
    · go_enter Try.func58, Try.ntmps58
      go_wp2
      go_ret
      exact ⟨ret_int (by omega), rfl⟩

theorem grown_newR {a b c : World} {r row : Option Nat} (h : a.grownBy b r) (hg : b.grownBy c row) (hge : ∀ g, row = some g → a.heap.size ≤ g) : a.grownBy c r :=
  ⟨hg.os.trans h.os, hg.tape.trans h.tape, hg.output.trans h.output, Nat.le_trans h.size hg.size, fun k hk hr => (hg.block k (Nat.lt_of_lt_of_le hk h.size) (by intro e; have := hge k e.symm; omega)).trans (h.block k hk hr)⟩

theorem append_intR {w : World} {ops : Array Oper} {rest : List Oper} {o : Oper} {a : Act} {Q : Exit → Act → World → Prop} (hgd : o.guard = none) (s x : Operand)
    (ho : o.op = .call { callee := .builtin .append, args := #[s, x], argTypes := #[24, 24] })
    (B : World) (r : Option Nat) (v : Value) (n : Nat) (xs : List Int) (hs : a.eval s = v) (hown : w.ownsRow B.heap.size 3 1 v n (xs.map (Value.int .i64))) (z : Int) (hx : a.eval x = .slice (some ⟨w.heap.size, 0, none⟩) 1 1)
    (hb : n + 1 ≤ 1000000) (hB : B.grownBy w r)
    (h : ∀ v' w', w'.ownsRow B.heap.size 3 1 v' (n + 1) ((xs ++ [z]).map (Value.int .i64)) → B.grownBy w' r → w.grownBy w' v.ownBlock → wpList Try.prog ops Q rest (a.put o.dst v') w') :
    wpList Try.prog ops Q (o :: rest) a (w.alloc (.cells #[.int .i64 z] 3)) := by
  obtain ⟨i0, hi, hz0, hz1, hz2⟩ := info_parts info_bd
  refine wpList_append_own _ hgd s x 24 ho B.heap.size 3 i0 (.int .i64 0) 1 8 Try.underlying24 hi hz0 hz1 hz2 rfl (by decide) v n _ hs (hown.alloc _) ⟨w.heap.size, 0, none⟩ 1 1 [.int .i64 z] hx rfl (cell_one_new _ _ _) (by intro u hu; simp at hu; subst hu; rfl) (by unfold maxLen; omega) (by omega) (by have := hB.size; simp; omega) ?_
  intro v' w' h1 h2 _
  exact h v' w' (by rw [List.map_append]; exact h1) (grown_newR (grown_trans hB (World.grownBy_alloc _ _ _)) h2 (fun g e => (hown.lt g e).1)) (grown_trans (World.grownBy_alloc _ _ _) h2)

/-- What a block's drawing leaves behind k rounds. -/
structure Dr (w : World) (tb : Nat) (ao : Option Addr) (n cap : Nat) (zs : List Int) (p : Nat) (wr : World) (v : Value) (k : Nat) : Prop where
  own : ∃ xs : List Int, wr.ownsRow w.heap.size 3 1 v k (xs.map (Value.int .i64))
  cur : ∃ q, q ≤ p + 8 * k ∧ Cur wr tb ao n cap zs q
  grown : w.grownBy wr (some tb)

set_option maxRecDepth 20000 in
set_option maxHeartbeats 1600000 in
theorem drawBlock (tb : Nat) (ao : Option Addr) (n cap p : Nat) (zs : List Int) (w : World) (h : Cur w tb ao n cap zs p) (hp : p ≤ 1000000) (most : Int) (hm : 1 ≤ most ∧ most ≤ 100000) :
    Calls Try.prog 48 #[.pointer (some ⟨tb, 0, none⟩), .int .i64 most] w fun e w' => ∃ v, e = .returned v ∧ Dr w tb ao n cap zs p w' v 64 := by
  have hlt := h.lt
  have HAL := hide h.rd.lt
  have e1 := i64_in (2 * most) (by omega)
  have e2 := i64_in (2 * most + 1) (by omega)
  have HD0 : Hid (Dr w tb ao n cap zs p (w.alloc (.cells #[] 3)) (.slice (some ⟨w.heap.size, 0, none⟩) 0 0) 0) :=
    ⟨⟨[], World.ownsRow_lit w #[] 0 (Nat.le_refl _) (by unfold maxLen; omega) rfl⟩, ⟨p, by omega, h.grown (World.grownBy_alloc _ _ _)⟩, World.grownBy_alloc _ _ _⟩
  clear h
  go_enter Try.func48, Try.ntmps48
  go_wp2
  go_loopw [5, 6] (fun o i wr => ∃ k : Nat, k ≤ 64 ∧ i = .int .i64 k ∧ Hid (Dr w tb ao n cap zs p wr o k)) (fun _ i _ => 64 - (intOf i).toNat)
  case atStart => exact ⟨0, Nat.zero_le _, rfl, HD0⟩
  case round =>
    obtain ⟨k, hk, rfl, hM⟩ := hrel
    obtain ⟨⟨xs, hown⟩, ⟨q, hq, hcur⟩, hgr⟩ := unhide hM
    obtain ⟨so2, sc2, rfl⟩ := own_form hown
    have HO := hide hown
    have HC := hide hcur
    have HG := hide hgr
    have HSL : Hid (∀ g, (Value.slice so2 k sc2).ownBlock = some g → w.heap.size ≤ g) := fun g e => (hown.lt g e).1
    clear hM hown hcur hgr
    have HEND : Hid (∀ (wx wy : World) (v' : Value) (ys : List Int) (q' : Nat), q' ≤ q + 8 → Cur wx tb ao n cap zs q' → wx.grownBy wy (Value.slice so2 k sc2).ownBlock → w.grownBy wy (some tb) → wy.ownsRow w.heap.size 3 1 v' (k + 1) (ys.map (Value.int .i64)) → Dr w tb ao n cap zs p wy v' (k + 1)) := by
      intro wx wy v' ys q' h1 h2 h3 h4 h5
      refine ⟨⟨ys, h5⟩, ⟨q', by omega, h2.beside h3 (fun g e => ?_)⟩, h4⟩
      have hg := unhide HSL g e
      exact ⟨by omega, fun hn b off e2 => by have := unhide HAL hn b off e2; omega⟩
    have HOW : Hid (∀ wx, wr.grownBy wx (some tb) → wx.ownsRow w.heap.size 3 1 (.slice so2 k sc2) k (xs.map (Value.int .i64))) := fun wx hg => own_beneath (unhide HO) hg (fun g g' e1 e2 => by have := unhide HSL g e1; simp at e2; omega)
    by_cases hlt64 : k < 64
    · go_wp2_with fail
      refine (pick_of tb ao n cap q 4 zs wr (unhide HC) (by omega) (by omega) (by omega)).mono ?_
      rintro e w1 ⟨x, q1, rfl, hx0, hx1, hc1, hq1, g1⟩
      have HC1 := hide hc1
      have HG1 := hide g1
      clear hc1 g1 HC
      by_cases hx : x = 0
      · subst hx
        go_wp2_with fail
        refine (pick_of tb ao n cap q1 (2 * most + 1) zs w1 (unhide HC1) (by omega) (by omega) (by omega)).mono ?_
        rintro e w2 ⟨y, q2, rfl, hy0, hy1, hc2, hq2, g2⟩
        have HC2 := hide hc2
        have HG2 := hide (grown_trans (unhide HG1) g2)
        clear hc2 g2 HC1 HG1
        go_wp2_with fail
        refine (once_of tb ao n cap q2 2 zs w2 (unhide HC2) (by omega) (by omega) (by omega)).mono ?_
        rintro e w3 ⟨t, q3, rfl, hc3, hq3, g3⟩
        have HC3 := hide hc3
        have HG3 := hide (grown_trans (unhide HG2) g3)
        clear hc3 g3 HC2 HG2
        cases t with
        | true =>
          go_wp2_with fail
          refine (pick_of tb ao n cap q3 9 zs w3 (unhide HC3) (by omega) (by omega) (by omega)).mono ?_
          rintro e w4 ⟨z, q4, rfl, hz0, hz1, hc4, hq4, g4⟩
          have HC4 := hide hc4
          have HG4 := hide (grown_trans (unhide HG3) g4)
          clear hc4 g4 HC3 HG3
          go_wp2_with fail
          refine (specClip (z - 4) (-most) most (by omega) w4).mono ?_
          rintro e w5 ⟨rfl, rfl⟩
          go_wp2_with (at_builtin; refine append_intR rfl _ _ rfl w (some tb) _ k xs rfl (unhide HOW _ (unhide HG4)) _ rfl (by omega) (grown_trans (unhide HG) (unhide HG4)) ?_; intro v' w' ho hg hg2)
          go_roundw
          case rel => exact ⟨k + 1, by omega, by go_num, unhide HEND _ _ _ _ q4 (by omega) (unhide HC4) hg2 hg ho⟩
          case measure => simp [intOf]; omega
        | false =>
          go_wp2_with fail
          refine (specClip (y - most) (-most) most (by omega) w3).mono ?_
          rintro e w5 ⟨rfl, rfl⟩
          go_wp2_with (at_builtin; refine append_intR rfl _ _ rfl w (some tb) _ k xs rfl (unhide HOW _ (unhide HG3)) _ rfl (by omega) (grown_trans (unhide HG) (unhide HG3)) ?_; intro v' w' ho hg hg2)
          go_roundw
          case rel => exact ⟨k + 1, by omega, by go_num, unhide HEND _ _ _ _ q3 (by omega) (unhide HC3) hg2 hg ho⟩
          case measure => simp [intOf]; omega
      · go_wp2_with fail
        refine (specClip 0 (-most) most (by omega) w1).mono ?_
        rintro e w5 ⟨rfl, rfl⟩
        go_wp2_with (at_builtin; refine append_intR rfl _ _ rfl w (some tb) _ k xs rfl (unhide HOW _ (unhide HG1)) _ rfl (by omega) (grown_trans (unhide HG) (unhide HG1)) ?_; intro v' w' ho hg hg2)
        go_roundw
        case rel => exact ⟨k + 1, by omega, by go_num, unhide HEND _ _ _ _ q1 (by omega) (unhide HC1) hg2 hg ho⟩
        case measure => simp [intOf]; omega
    · obtain rfl : k = 64 := by omega
      go_wp2
      go_ret
      exact ⟨_, rfl, ⟨⟨xs, unhide HO⟩, ⟨q, hq, unhide HC⟩, unhide HG⟩⟩

theorem own_cap {w : World} {base : Nat} {e : TypeId} {ao : Option Addr} {n cap : Nat} {xs : List Value} (h : w.ownsRow base e 1 (.slice ao n cap) n xs) : n ≤ cap := by
  rcases h.2 with ⟨h1, h2⟩ | ⟨g, cap', cur, h1, _, _, h4, _⟩
  · omega
  · simp only [Value.slice.injEq, true_and] at h1
    omega

end Go.Proofs.Ytfgglainjaplgaa

namespace Go.Proofs.Ytfgglainjaplgaa
open Go.RowKit

theorem rd_take {k : IntKind} {w : World} {ao : Option Addr} {n : Nat} {zs : List Int} (h : Rd k w ao n zs) (m : Nat) (hm : m ≤ n) : Rd k w ao m (zs.take m) := by
  refine ⟨by rw [List.length_take, h.1]; omega, fun i hi => ?_⟩
  obtain ⟨b, off, e, hc⟩ := h.2 i (by omega)
  refine ⟨b, off, e, ?_⟩
  rw [hc]
  have : (zs.take m).getD i 0 = zs.getD i 0 := by simp [List.getD_eq_getElem?_getD, hi]
  rw [this]

/-- What a drawing of a list leaves. -/
structure Drawn (w : World) (tb : Nat) (ao : Option Addr) (n cap : Nat) (zs : List Int) (p : Nat) (w' : World) (so : Option Addr) (m : Nat) : Prop where
  rd : ∃ xs, Rd .i64 w' so m xs
  len : m ≤ 65
  new : ∀ b off, so = some ⟨b, off, none⟩ → w.heap.size ≤ b
  cur : ∃ q, q ≤ p + 600 ∧ Cur w' tb ao n cap zs q
  grown : w.grownBy w' (some tb)
  frz : ∀ b off, so = some ⟨b, off, none⟩ → ∀ j, w'.frozen? ⟨b, j, none⟩ = false

set_option maxRecDepth 20000 in
set_option maxHeartbeats 1600000 in
theorem drawAny5 (tb : Nat) (ao : Option Addr) (n cap p : Nat) (zs : List Int) (w : World) (h : Cur w tb ao n cap zs p) (hp : p ≤ 1000000) (most : Int) (hm : 1 ≤ most ∧ most ≤ 100000) :
    Calls Try.prog 50 #[.pointer (some ⟨tb, 0, none⟩), .int .i64 most] w fun e w' => ∃ so m sc, e = .returned (.slice so m sc) ∧ Drawn w tb ao n cap zs p w' so m := by
  have hlt := h.lt
  have HAL := hide h.rd.lt
  have H := hide h
  clear h
  go_enter Try.func50, Try.ntmps50
  go_wp2_with fail
  refine (drawBlock tb ao n cap p zs w (unhide H) hp most hm).mono ?_
  rintro e w1 ⟨v, rfl, ⟨xs, hown⟩, ⟨q, hq, hcur⟩, hgr⟩
  obtain ⟨so, sc, rfl⟩ := own_form hown
  obtain ⟨g, rfl, hg0, hg1⟩ := own_at hown (by omega)
  have hcap := own_cap hown
  have HO := hide hown
  have HC := hide hcur
  have HG := hide hgr
  clear hown hcur hgr H
  go_wp2_with fail
  refine (pick_of tb ao n cap q 12 zs w1 (unhide HC) (by omega) (by omega) (by omega)).mono ?_
  rintro e w2 ⟨x, q2, rfl, hx0, hx1, hc2, hq2, g2⟩
  have HC2 := hide hc2
  have HG2 := hide (grown_trans (unhide HG) g2)
  have HO2 := hide (own_beneath (unhide HO) g2 (fun a b e1 e2 => by have := ((unhide HO).lt a e1).1; simp at e2; omega))
  have s2 := g2.size
  clear hc2 g2 HC HG HO
  have HEND : Hid (∀ (w' : World) (m : Nat) (ys : List Int) (q' : Nat), q' ≤ q2 + 10 → m ≤ 65 → Rd .i64 w' (some ⟨g, 0, none⟩) m ys → Cur w' tb ao n cap zs q' → w.grownBy w' (some tb) → (∀ j, w'.frozen? ⟨g, j, none⟩ = false) → Drawn w tb ao n cap zs p w' (some ⟨g, 0, none⟩) m) := by
    intro w' m ys q' h1 h2 h3 h4 h5 h6
    refine ⟨⟨ys, h3⟩, h2, fun b off e => by simp at e; omega, ⟨q', by omega, h4⟩, h5, fun b off e j => ?_⟩
    have e9 : g = b := by simp at e; exact e.1
    rw [← e9]
    exact h6 j
  by_cases h0 : x = 0
  · subst h0
    go_wp2_with fail
    refine (pick_of tb ao n cap q2 64 zs w2 (unhide HC2) (by omega) (by omega) (by omega)).mono ?_
    rintro e w3 ⟨y, q3, rfl, hy0, hy1, hc3, hq3, g3⟩
    obtain ⟨yn, rfl⟩ : ∃ yn : Nat, y = yn := ⟨y.toNat, by omega⟩
    have HO3 := hide (own_beneath (unhide HO2) g3 (fun a b e1 e2 => by have := ((unhide HO2).lt a e1).1; simp at e2; omega))
    have HC3 := hide hc3
    have HG3 := hide (grown_trans (unhide HG2) g3)
    have s3 := g3.size
    clear hc3 g3 HC2 HG2 HO2
    go_wp2_with fail
    refine (odd_of tb ao n cap q3 zs w3 (unhide HC3) (by omega)).mono ?_
    rintro e w4 ⟨o, q4, rfl, hc4, hq4, g4⟩
    have HO4 := hide (own_beneath (unhide HO3) g4 (fun a b e1 e2 => by have := ((unhide HO3).lt a e1).1; simp at e2; omega))
    have HC4 := hide (hc4.grown (World.grownBy_alloc w4 (.cells #[.int .i64 32767, .int .i64 (-32767), .int .i64 32768, .int .i64 (-32768), .int .i64 o] 3) none))
    have HG4 := hide (grown_trans (unhide HG3) g4)
    have s4 := g4.size
    have hg4 : g < w4.heap.size := by omega
    clear hc4 g4 HC3 HG3 HO3
    go_wp2_with fail
    refine (pick_of tb ao n cap q4 5 zs _ (unhide HC4) (by omega) (by omega) (by omega)).mono ?_
    rintro e w5 ⟨z, q5, rfl, hz0, hz1, hc5, hq5, g5⟩
    obtain ⟨zn, rfl⟩ : ∃ zn : Nat, z = zn := ⟨z.toNat, by omega⟩
    have hL := (g5.block w4.heap.size (by simp) (by simp; omega)).trans (heap_alloc_new w4 _)
    obtain ⟨u, hu⟩ : ∃ u : Int, w5.cell? ⟨w4.heap.size, zn, none⟩ = some (.int .i64 u) := by
      rw [cell_of_row w5 _ zn _ _ (0, 0) hL]
      have : zn = 0 ∨ zn = 1 ∨ zn = 2 ∨ zn = 3 ∨ zn = 4 := by omega
      rcases this with rfl | rfl | rfl | rfl | rfl
      · exact ⟨_, rfl⟩
      · exact ⟨_, rfl⟩
      · exact ⟨_, rfl⟩
      · exact ⟨_, rfl⟩
      · exact ⟨_, rfl⟩
    have ho5 := own_beneath ((unhide HO4).alloc _) g5 (fun a b e1 e2 => by have := ((unhide HO4).lt a e1).1; simp at e2; omega)
    have hold : ∃ v, w5.cell? ⟨g, yn, none⟩ = some v := by rw [ho5.cellAt yn (by omega)]; exact ⟨_, List.getElem?_eq_getElem (by rw [ho5.1]; omega)⟩
    obtain ⟨v, hv⟩ := hold
    have hfr := ho5.frozenAt yn
    have st := ho5.stored yn (.int .i64 u)
    have HST : Hid (Drawn w tb ao n cap zs p (w5.setCell ⟨g, yn, none⟩ (.int .i64 u)) (some ⟨g, 0, none⟩) 64) := by
      have e : (xs.map (Value.int .i64)).set yn (.int .i64 u) = (xs.set yn u).map (Value.int .i64) := by rw [List.map_set]
      rw [e] at st
      have g6 := grown_set w5 g yn (.int .i64 u)
      refine unhide HEND _ 64 _ q5 (by omega) (by omega) (own_rd st.1) (hc5.beside g6 (fun a e => ?_)) (grown_newR (grown_trans (grown_trans (unhide HG4) (World.grownBy_alloc _ _ _)) g5) g6 (fun a e => by simp at e; omega)) (fun j => st.1.frozenAt j)
      simp at e
      exact ⟨by omega, fun hn b off e2 => by have := unhide HAL hn b off e2; omega⟩
    clear hL ho5 st hc5 g5 HO4 HC4 HG4 HEND
    go_wp2
    go_ret
    exact ⟨_, _, _, rfl, unhide HST⟩
  · by_cases h1 : x = 1
    · subst h1
      go_wp2_with (at_builtin; refine append_intR rfl _ _ rfl w (some tb) _ 64 xs rfl (unhide HO2) _ rfl (by omega) (unhide HG2) ?_; intro v' w' ho hg hg2)
      obtain ⟨so', sc', rfl⟩ := own_form ho
      go_ret
      refine ⟨_, _, _, rfl, ⟨_, own_rd ho⟩, by omega, fun b off e => ?_, ⟨q2, by omega, (unhide HC2).beside hg2 (fun a e => ?_)⟩, hg, fun b off e j => ?_⟩
      · subst e
        have := (ho.lt b (by simp [Value.ownBlock])).1
        omega
      · have hh := ((unhide HO2).lt a e).1
        exact ⟨by omega, fun hn b off e2 => by have := unhide HAL hn b off e2; omega⟩
      · subst e
        obtain ⟨g9, e9, _, _⟩ := own_at ho (by omega)
        obtain ⟨rfl, rfl⟩ : b = g9 ∧ off = 0 := by simpa using e9
        exact ho.frozenAt j
    · by_cases h2 : x = 2
      · subst h2
        go_wp2_with fail
        refine (pick_of tb ao n cap q2 64 zs w2 (unhide HC2) (by omega) (by omega) (by omega)).mono ?_
        rintro e w3 ⟨y, q3, rfl, hy0, hy1, hc3, hq3, g3⟩
        obtain ⟨yn, rfl⟩ : ∃ yn : Nat, y = yn := ⟨y.toNat, by omega⟩
        have HO3 := hide (own_beneath (unhide HO2) g3 (fun a b e1 e2 => by have := ((unhide HO2).lt a e1).1; simp at e2; omega))
        have HC3 := hide hc3
        have HG3 := hide (grown_trans (unhide HG2) g3)
        have hyc : (yn : Int) ≤ (sc : Int) := by omega
        clear hc3 g3 HC2 HG2 HO2
        go_wp2
        go_ret
        exact ⟨_, _, _, rfl, unhide HEND _ yn _ q3 (by omega) (by omega) (rd_take (own_rd (unhide HO3)) yn (by omega)) (unhide HC3) (unhide HG3) (fun j => (unhide HO3).frozenAt j)⟩
      · go_wp2
        go_ret
        exact ⟨_, _, _, rfl, unhide HEND _ 64 _ q2 (by omega) (by omega) (own_rd (unhide HO2)) (unhide HC2) (unhide HG2) (fun j => (unhide HO2).frozenAt j)⟩

end Go.Proofs.Ytfgglainjaplgaa

namespace Go.Proofs.Ytfgglainjaplgaa
open Go.RowKit

/-- A block while it is drawn. -/
structure Pb (w : World) (tb : Nat) (ao : Option Addr) (n cap : Nat) (zs : List Int) (q : Nat) (W : World) (so : Option Addr) (m : Nat) : Prop where
  rd : ∃ xs, Rd .i64 W so m xs
  len : m ≤ 65
  new : ∀ b off, so = some ⟨b, off, none⟩ → w.heap.size ≤ b
  frz : 0 < m → ∀ b off, so = some ⟨b, off, none⟩ → ∀ j, W.frozen? ⟨b, j, none⟩ = false
  cur : Cur W tb ao n cap zs q
  grown : w.grownBy W (some tb)
section
variable {w : World} {tb : Nat} {ao : Option Addr} {n cap : Nat} {zs : List Int} {q : Nat} {W : World} {so : Option Addr} {m : Nat}
theorem frz_over {W' : World} {row : Option Nat} {b : Nat} (h : ∀ j, W.frozen? ⟨b, j, none⟩ = false) (g : W.grownBy W' row) (hb : b < W.heap.size) (hne : some b ≠ row) : ∀ j, W'.frozen? ⟨b, j, none⟩ = false := by
  intro j
  have e := g.block b hb hne
  have := h j
  unfold World.frozen? at this ⊢
  dsimp only at this ⊢
  rw [e]
  exact this
theorem Pb.over {W' : World} {q' : Nat} {row : Option Nat} (h : Pb w tb ao n cap zs q W so m) (hc : Cur W' tb ao n cap zs q') (g : W.grownBy W' row) (hr : ∀ b off, so = some ⟨b, off, none⟩ → some b ≠ row) (hg : w.grownBy W' (some tb)) : Pb w tb ao n cap zs q' W' so m := by
  obtain ⟨xs, hx⟩ := h.rd
  refine ⟨⟨xs, hx.1, fun i hi => ?_⟩, h.len, h.new, fun hm b' off' e' => ?_, hc, hg⟩
  · obtain ⟨b1, off1, e1, hc1⟩ := hx.2 i hi
    exact ⟨b1, off1, e1, g.cell hc1 (hr b1 off1 e1)⟩
  · obtain ⟨b, off, e, hc0⟩ := hx.2 0 hm
    have hb : b < W.heap.size := by
      cases h9 : W.heap[b]? with
      | none => simp [World.cell?, h9] at hc0
      | some o => exact (Array.getElem?_eq_some_iff.1 h9).1
    have : b = b' := by rw [e] at e'; simp at e'; exact e'.1
    subst this
    exact frz_over (h.frz hm b off e) g hb (hr b off e)
theorem Pb.pick {W' : World} {q' : Nat} (h : Pb w tb ao n cap zs q W so m) (ht : tb < w.heap.size) (hc : Cur W' tb ao n cap zs q') (g : W.grownBy W' (some tb)) : Pb w tb ao n cap zs q' W' so m :=
  h.over hc g (fun b off e => by have := h.new b off e; intro e2; injection e2 with e2; omega) (grown_trans h.grown g)
/-- Its first number is written. -/
theorem Pb.put {b off : Nat} (h : Pb w tb ao n cap zs q W (some ⟨b, off, none⟩) m) (hm : 0 < m) (ht : tb < w.heap.size) (hal : 0 < n → ∀ b off, ao = some ⟨b, off, none⟩ → b < w.heap.size) (u : Int) : Pb w tb ao n cap zs q (W.setCell ⟨b, off, none⟩ (.int .i64 u)) (some ⟨b, off, none⟩) m := by
  obtain ⟨xs, hx⟩ := h.rd
  have hnb := h.new b off rfl
  have g := grown_set W b off (.int .i64 u)
  have hl := hx.1
  refine ⟨⟨xs.set 0 u, by rw [List.length_set]; exact hx.1, fun i hi => ?_⟩, h.len, h.new, fun hm b' off' e' j => ?_, h.cur.beside g (fun a e => ?_), grown_newR h.grown g (fun a e => by injection e with e; omega)⟩
  · obtain ⟨b1, off1, e1, hc1⟩ := hx.2 i hi
    obtain ⟨rfl, rfl⟩ : b = b1 ∧ off = off1 := by simpa using e1
    refine ⟨b, off, rfl, ?_⟩
    by_cases hi0 : i = 0
    · subst hi0
      rw [Nat.add_zero] at hc1 ⊢
      rw [World.cell?_setCell_same _ _ _ hc1]
      simp [show 0 < xs.length by omega]
    · rw [World.cell?_setCell_other _ _ _ _ (by simp <;> omega), hc1]
      simp [Ne.symm hi0]
  · rw [World.frozen?_setCell]
    exact h.frz hm b' off' e' j
  · injection e with e
    exact ⟨by omega, fun hn b2 off2 e2 => by have := hal hn b2 off2 e2; omega⟩
end

set_option maxRecDepth 20000 in
set_option maxHeartbeats 1600000 in
theorem drawPassBlock (tb : Nat) (ao : Option Addr) (n cap p : Nat) (zs : List Int) (w : World) (h : Cur w tb ao n cap zs p) (hp : p ≤ 900000) :
    Calls Try.prog 33 #[.pointer (some ⟨tb, 0, none⟩)] w fun e w' => ∃ so m sc q, e = .returned (.slice so m sc) ∧ q ≤ p + 1400 ∧ Pb w tb ao n cap zs q w' so m := by
  have hlt := h.lt
  have HAL := hide h.rd.lt
  have H := hide h
  clear h
  go_enter Try.func33, Try.ntmps33
  go_wp2_with fail
  refine (drawBlock tb ao n cap p zs w (unhide H) (by omega) 900 (by omega)).mono ?_
  rintro e w1 ⟨v, rfl, ⟨xs, hown⟩, ⟨q, hq, hcur⟩, hgr⟩
  obtain ⟨so, sc, rfl⟩ := own_form hown
  obtain ⟨g, rfl, hg0, hg1⟩ := own_at hown (by omega)
  have HP1 : Hid (Pb w tb ao n cap zs q w1 (some ⟨g, 0, none⟩) 64) := ⟨⟨xs, own_rd hown⟩, by omega, fun b off e => by simp at e; omega, fun _ b off e j => by
    have e9 : g = b := by simp at e; exact e.1
    rw [← e9]
    exact hown.frozenAt j, hcur, hgr⟩
  clear hown hcur hgr H
  go_wp2_with fail
  refine (once_of tb ao n cap q 20 zs w1 (unhide HP1).cur (by omega) (by omega) (by omega)).mono ?_
  rintro e w2 ⟨t1, q2, rfl, hc2, hq2, g2⟩
  have HP2 := hide ((unhide HP1).pick hlt hc2 g2)
  have hs2 := (unhide HP2).grown.size
  clear hc2 g2 HP1
  cases t1 with
  | false =>
    have HP3 := HP2
    clear HP2
    have hlen3 := (unhide HP3).len
    by_cases hm0 : 64 = 0
    · exact absurd hm0 (by decide)
    · have hd : decide ((0 : Int) < (64 : Int)) = true := decide_eq_true (by omega)
      have hd2 : decide (0 < 64) = true := decide_eq_true (by omega)
      go_wp2_with fail
      refine (once_of tb ao n cap q2 20 zs w2 (unhide HP3).cur (by omega) (by omega) (by omega)).mono ?_
      rintro e w4 ⟨t2, q4, rfl, hc4, hq4, g4⟩
      have HP4 := hide ((unhide HP3).pick hlt hc4 g4)
      clear hc4 g4 HP3
      cases t2 with
      | false =>
        go_wp2
        go_ret
        exact ⟨_, _, _, q4, rfl, by omega, unhide HP4⟩
      | true =>
        have gL := World.grownBy_alloc w4 (.cells #[.int .i64 16383, .int .i64 (-16383), .int .i64 16384] 3) (some tb)
        have HP5 := hide ((unhide HP4).over ((unhide HP4).cur.grown (World.grownBy_alloc w4 (.cells #[.int .i64 16383, .int .i64 (-16383), .int .i64 16384] 3) none)) (World.grownBy_alloc w4 (.cells #[.int .i64 16383, .int .i64 (-16383), .int .i64 16384] 3) none) (fun _ _ _ => by simp) (grown_trans (unhide HP4).grown gL))
        have hs4 := (unhide HP4).grown.size
        clear gL HP4
        go_wp2_with fail
        refine (pick_of tb ao n cap q4 3 zs _ (unhide HP5).cur (by omega) (by omega) (by omega)).mono ?_
        rintro e w6 ⟨x, q6, rfl, hx0, hx1, hc6, hq6, g6⟩
        obtain ⟨xn, rfl⟩ : ∃ xn : Nat, x = xn := ⟨x.toNat, by omega⟩
        have hL := (g6.block w4.heap.size (by simp) (by simp; omega)).trans (heap_alloc_new w4 _)
        obtain ⟨u, hu⟩ : ∃ u : Int, w6.cell? ⟨w4.heap.size, xn, none⟩ = some (.int .i64 u) := by
          rw [cell_of_row w6 _ xn _ _ (0, 0) hL]
          have : xn = 0 ∨ xn = 1 ∨ xn = 2 := by omega
          rcases this with rfl | rfl | rfl
          · exact ⟨_, rfl⟩
          · exact ⟨_, rfl⟩
          · exact ⟨_, rfl⟩
        have HP6 := hide ((unhide HP5).pick hlt hc6 g6)
        clear hc6 g6 HP5 hL
        obtain ⟨ys, hys⟩ := (unhide HP6).rd
        obtain ⟨b9, off9, e9, hcb⟩ := hys.2 0 (by omega)
        obtain ⟨hb9, ho9⟩ : b9 = g ∧ off9 = 0 := by simp at e9; omega
        rw [hb9, ho9] at hcb
        clear e9 hb9 ho9
        have hfr := (unhide HP6).frz (by omega) g 0 rfl 0
        have HP7 := hide ((unhide HP6).put (by omega) hlt (unhide HAL) u)
        rw [Nat.add_zero] at hcb
        have hM1 : (0 : Int) < (64 : Int) := by omega
        have hM2 : 0 < 64 := by omega
        clear hys
        go_wp2
        go_ret
        exact ⟨_, _, _, q6, rfl, by omega, unhide HP7⟩
  | true =>
    go_wp2_with fail
    refine (drawAny5 tb ao n cap q2 zs w2 (unhide HP2).cur (by omega) 900 (by omega)).mono ?_
    rintro e w3 ⟨so, m, sc3, rfl, dr⟩
    obtain ⟨q3, hq3, hc3⟩ := dr.cur
    have HP3 : Hid (Pb w tb ao n cap zs q3 w3 so m) := ⟨dr.rd, dr.len, fun b off e => by have := dr.new b off e; omega, fun _ => dr.frz, hc3, grown_trans (unhide HP2).grown dr.grown⟩
    clear dr hc3 HP2
    have hlen3 := (unhide HP3).len
    by_cases hm0 : m = 0
    · subst hm0
      go_wp2
      go_ret
      exact ⟨_, _, _, q3, rfl, by omega, unhide HP3⟩
    · have hd : decide ((0 : Int) < (m : Int)) = true := decide_eq_true (by omega)
      have hd2 : decide (0 < m) = true := decide_eq_true (by omega)
      go_wp2_with fail
      refine (once_of tb ao n cap q3 20 zs w3 (unhide HP3).cur (by omega) (by omega) (by omega)).mono ?_
      rintro e w4 ⟨t2, q4, rfl, hc4, hq4, g4⟩
      have HP4 := hide ((unhide HP3).pick hlt hc4 g4)
      clear hc4 g4 HP3
      cases t2 with
      | false =>
        go_wp2
        go_ret
        exact ⟨_, _, _, q4, rfl, by omega, unhide HP4⟩
      | true =>
        have gL := World.grownBy_alloc w4 (.cells #[.int .i64 16383, .int .i64 (-16383), .int .i64 16384] 3) (some tb)
        have HP5 := hide ((unhide HP4).over ((unhide HP4).cur.grown (World.grownBy_alloc w4 (.cells #[.int .i64 16383, .int .i64 (-16383), .int .i64 16384] 3) none)) (World.grownBy_alloc w4 (.cells #[.int .i64 16383, .int .i64 (-16383), .int .i64 16384] 3) none) (fun _ _ _ => by simp) (grown_trans (unhide HP4).grown gL))
        have hs4 := (unhide HP4).grown.size
        clear gL HP4
        go_wp2_with fail
        refine (pick_of tb ao n cap q4 3 zs _ (unhide HP5).cur (by omega) (by omega) (by omega)).mono ?_
        rintro e w6 ⟨x, q6, rfl, hx0, hx1, hc6, hq6, g6⟩
        obtain ⟨xn, rfl⟩ : ∃ xn : Nat, x = xn := ⟨x.toNat, by omega⟩
        have hL := (g6.block w4.heap.size (by simp) (by simp; omega)).trans (heap_alloc_new w4 _)
        obtain ⟨u, hu⟩ : ∃ u : Int, w6.cell? ⟨w4.heap.size, xn, none⟩ = some (.int .i64 u) := by
          rw [cell_of_row w6 _ xn _ _ (0, 0) hL]
          have : xn = 0 ∨ xn = 1 ∨ xn = 2 := by omega
          rcases this with rfl | rfl | rfl
          · exact ⟨_, rfl⟩
          · exact ⟨_, rfl⟩
          · exact ⟨_, rfl⟩
        have HP6 := hide ((unhide HP5).pick hlt hc6 g6)
        clear hc6 g6 HP5 hL
        obtain ⟨ys, hys⟩ := (unhide HP6).rd
        obtain ⟨b9, off9, e9, hcb⟩ := hys.2 0 (by omega)
        subst e9
        have hfr := (unhide HP6).frz (by omega) b9 off9 rfl off9
        have HP7 := hide ((unhide HP6).put (by omega) hlt (unhide HAL) u)
        rw [Nat.add_zero] at hcb
        have hM1 : (0 : Int) < (m : Int) := by omega
        have hM2 : 0 < m := by omega
        clear hys
        go_wp2
        go_ret
        exact ⟨_, _, _, q6, rfl, by omega, unhide HP7⟩

end Go.Proofs.Ytfgglainjaplgaa

namespace Go.Proofs.Ytfgglainjaplgaa
open Go.RowKit

/-- A scan in a box while it is drawn. -/
structure Sd (w : World) (tb : Nat) (ao : Option Addr) (n cap : Nat) (zs : List Int) (q : Nat) (W : World) (b : Nat) (x0 x1 x2 x3 : Int) : Prop where
  box : W.heap[b]? = some (.cells #[.slice none 0 0, .int .i64 x0, .int .i64 x1, .int .i64 x2, .int .i64 x3] 26 (0, 0))
  rb : W.heap[w.heap.size]? = some (.cells #[.slice none 0 0, .int .i64 0, .int .i64 0, .int .i64 0, .int .i64 0] 26 (0, 0))
  lo : w.heap.size < b
  tl : tb < w.heap.size
  al : 0 < n → ∀ b off, ao = some ⟨b, off, none⟩ → b < w.heap.size
  cur : Cur W tb ao n cap zs q
  grown : w.grownBy W (some tb)
section
variable {w : World} {tb : Nat} {ao : Option Addr} {n cap : Nat} {zs : List Int} {q : Nat} {W : World} {b : Nat} {x0 x1 x2 x3 : Int}
theorem Sd.at1 (h : Sd w tb ao n cap zs q W b x0 x1 x2 x3) : W.cell? ⟨b, 1, none⟩ = some (.int .i64 x0) := (scanCells h.box).2.1
theorem Sd.at2 (h : Sd w tb ao n cap zs q W b x0 x1 x2 x3) : W.cell? ⟨b, 2, none⟩ = some (.int .i64 x1) := (scanCells h.box).2.2.1
theorem Sd.at3 (h : Sd w tb ao n cap zs q W b x0 x1 x2 x3) : W.cell? ⟨b, 3, none⟩ = some (.int .i64 x2) := (scanCells h.box).2.2.2.1
theorem Sd.at4 (h : Sd w tb ao n cap zs q W b x0 x1 x2 x3) : W.cell? ⟨b, 4, none⟩ = some (.int .i64 x3) := (scanCells h.box).2.2.2.2
theorem Sd.pick {W' : World} {q' : Nat} (h : Sd w tb ao n cap zs q W b x0 x1 x2 x3) (hc : Cur W' tb ao n cap zs q') (g : W.grownBy W' (some tb)) : Sd w tb ao n cap zs q' W' b x0 x1 x2 x3 := by
  have h1 := h.lo
  have h2 := h.tl
  exact ⟨grown_atT g h.box (by simp; omega), grown_atT g h.rb (by simp; omega), h.lo, h.tl, h.al, hc, grown_trans h.grown g⟩
theorem Sd.new {W' : World} (h : Sd w tb ao n cap zs q W b x0 x1 x2 x3) (g : W.grownBy W' none) : Sd w tb ao n cap zs q W' b x0 x1 x2 x3 :=
  ⟨grown_atT g h.box (by simp), grown_atT g h.rb (by simp), h.lo, h.tl, h.al, h.cur.grown g, grown_trans h.grown (grown_any g)⟩
theorem Sd.side (h : Sd w tb ao n cap zs q W b x0 x1 x2 x3) (j : Nat) (v : Value) : Cur (W.setCell ⟨b, j, none⟩ v) tb ao n cap zs q ∧ w.grownBy (W.setCell ⟨b, j, none⟩ v) (some tb) ∧ (W.setCell ⟨b, j, none⟩ v).heap[w.heap.size]? = some (.cells #[.slice none 0 0, .int .i64 0, .int .i64 0, .int .i64 0, .int .i64 0] 26 (0, 0)) := by
  have h1 := h.lo
  have h2 := h.tl
  have g := grown_set W b j v
  exact ⟨h.cur.beside g (fun g e => by have e9 := Option.some.inj e; exact ⟨by omega, fun hn b2 off2 e2 => by have := h.al hn b2 off2 e2; omega⟩), grown_newR h.grown g (fun g e => by have e9 := Option.some.inj e; omega), grown_atT g h.rb (by simp; omega)⟩
theorem Sd.put2 (h : Sd w tb ao n cap zs q W b x0 x1 x2 x3) (y : Int) : Sd w tb ao n cap zs q (W.setCell ⟨b, 2, none⟩ (.int .i64 y)) b x0 y x2 x3 :=
  ⟨heap_setCell_same W b 2 _ _ _ h.box, (h.side 2 _).2.2, h.lo, h.tl, h.al, (h.side 2 _).1, (h.side 2 _).2.1⟩
theorem Sd.put3 (h : Sd w tb ao n cap zs q W b x0 x1 x2 x3) (y : Int) : Sd w tb ao n cap zs q (W.setCell ⟨b, 3, none⟩ (.int .i64 y)) b x0 x1 y x3 :=
  ⟨heap_setCell_same W b 3 _ _ _ h.box, (h.side 3 _).2.2, h.lo, h.tl, h.al, (h.side 3 _).1, (h.side 3 _).2.1⟩
theorem Sd.put4 (h : Sd w tb ao n cap zs q W b x0 x1 x2 x3) (y : Int) : Sd w tb ao n cap zs q (W.setCell ⟨b, 4, none⟩ (.int .i64 y)) b x0 x1 x2 y :=
  ⟨heap_setCell_same W b 4 _ _ _ h.box, (h.side 4 _).2.2, h.lo, h.tl, h.al, (h.side 4 _).1, (h.side 4 _).2.1⟩
end
theorem lit3 {W W' : World} {a b c : Int} {tb : Nat} (g : (W.alloc (.cells #[.int .i64 a, .int .i64 b, .int .i64 c] 3)).grownBy W' (some tb)) (ht : tb < W.heap.size) (z : Nat) (hz : z < 3) : ∃ u : Int, W'.cell? ⟨W.heap.size, z, none⟩ = some (.int .i64 u) := by
  have hL := (g.block W.heap.size (by simp) (by simp; omega)).trans (heap_alloc_new W _)
  rw [cell_of_row W' _ z _ _ (0, 0) hL]
  have : z = 0 ∨ z = 1 ∨ z = 2 := by omega
  rcases this with rfl | rfl | rfl
  · exact ⟨_, rfl⟩
  · exact ⟨_, rfl⟩
  · exact ⟨_, rfl⟩

set_option maxRecDepth 20000 in
set_option maxHeartbeats 3200000 in
theorem drawScan13 (tb : Nat) (ao : Option Addr) (n cap p : Nat) (zs : List Int) (w : World) (h : Cur w tb ao n cap zs p) (hp : p ≤ 900000) :
    Calls Try.prog 34 #[.pointer (some ⟨tb, 0, none⟩), .bool true] w fun e w' => ∃ (y0 y1 y2 y3 : Int) (q : Nat), e = .returned (.agg #[.slice none 0 0, .int .i64 y0, .int .i64 y1, .int .i64 y2, .int .i64 y3]) ∧ Cur w' tb ao n cap zs q ∧ q ≤ p + 12 ∧ w.grownBy w' (some tb) := by
  have htl := h.lt
  have HAL := hide h.rd.lt
  have H0 := hide (h.grown (World.grownBy_alloc w (.cells #[.slice none 0 0, .int .i64 0, .int .i64 0, .int .i64 0, .int .i64 0] 26) none))
  have HR0 := hide (heap_alloc_new w (.cells #[.slice none 0 0, .int .i64 0, .int .i64 0, .int .i64 0, .int .i64 0] 26))
  have HG0 : Hid (w.grownBy (w.alloc (.cells #[.slice none 0 0, .int .i64 0, .int .i64 0, .int .i64 0, .int .i64 0] 26)) (some tb)) := World.grownBy_alloc _ _ _
  have hs0 : w.heap.size < (w.alloc (.cells #[.slice none 0 0, .int .i64 0, .int .i64 0, .int .i64 0, .int .i64 0] 26)).heap.size := by simp
  clear h
  go_enter Try.func34, Try.ntmps34
  go_wp2_with fail
  generalize (w.alloc (.cells #[.slice none 0 0, .int .i64 0, .int .i64 0, .int .i64 0, .int .i64 0] 26)) = W0 at *
  refine (pick_of tb ao n cap p 64 zs W0 (unhide H0) (by omega) (by omega) (by omega)).mono ?_
  rintro e w1 ⟨x0, q1, rfl, hx0, hx1, hc1, hq1, g1⟩
  have H1 := hide hc1
  have HR1 := hide (grown_atT g1 (unhide HR0) (by simp; omega))
  have HG1 := hide (grown_trans (unhide HG0) g1)
  have hs1 := g1.size
  clear hc1 g1 H0 HR0 HG0
  go_wp2_with fail
  refine (pick_of tb ao n cap q1 5 zs w1 (unhide H1) (by omega) (by omega) (by omega)).mono ?_
  rintro e w2 ⟨x3, q2, rfl, hy0, hy1, hc2, hq2, g2⟩
  have H2 := hide hc2
  have HR2 := hide (grown_atT g2 (unhide HR1) (by simp; omega))
  have HG2 := hide (grown_trans (unhide HG1) g2)
  have hs2 := g2.size
  clear hc2 g2 H1 HR1 HG1
  go_wp2_with (refine store_row rfl 26 _ _ rfl w2.heap.size rfl #[.slice none 0 0, .int .i64 x0, .int .i64 0, .int .i64 0, .int .i64 x3] rfl #[.slice none 0 0, .int .i64 0, .int .i64 0, .int .i64 0, .int .i64 0] 26 (heap_alloc_new _ _) rfl (by kernel_rfl) (by simp [Value.oneCell']) ?_; intro w3 hB3 g3)
  obtain ⟨b, HB⟩ : ∃ b, Hid (w2.heap.size = b) := ⟨_, rfl⟩
  have S3 : Hid (Sd w tb ao n cap zs q2 w3 b x0 0 0 x3) := by
    rw [← unhide HB]
    have ga := World.grownBy_alloc w2 (.cells #[.slice none 0 0, .int .i64 0, .int .i64 0, .int .i64 0, .int .i64 0] 26) none
    exact ⟨hB3, grown_atT g3 (grown_atT ga (unhide HR2) (by simp)) (by simp; omega), by omega, htl, unhide HAL, ((unhide H2).grown ga).beside g3 (fun g e => by have e9 := Option.some.inj e; exact ⟨by omega, fun hn b2 off2 e2 => by have := unhide HAL hn b2 off2 e2; omega⟩), grown_newR (grown_trans (unhide HG2) (grown_any ga)) g3 (fun g e => by have e9 := Option.some.inj e; omega)⟩
  rw [unhide HB]
  have hlo := (unhide S3).lo
  clear hB3 g3 H2 HR2 HG2 hs0 hs1 hs2 HB
  have e1 := i64_in (64 - x0) (by omega)
  refine wp_region_noPanic ?_
  refine wp_region_raw (fun W => W.cell? ⟨b, 1, none⟩ = some (.int .i64 x0)) [true, true, true, true, true, true, false, false, false, false] (by kernel_rfl) (fun _ _ _ _ _ h => h) rfl (by kernel_rfl) (unhide S3).at1 ?_
  have S4 := hide ((unhide S3).new (grown_drew (World.grownBy.refl w3 none)))
  clear S3
  generalize w3.drew = w4 at *
  iterate 6
    refine heldF_take (v := ?_) (Or.inl ⟨by rfl, ?_⟩) ?_
    rotate_left 1
    · intro w' hSw
      try dsimp only at hSw
      go_simp
      try with_reducible rfl
    simp only [Act.put, List.setIfInBounds_toArray, List.set_cons_zero, List.set_cons_succ]
  refine heldF_skip (heldF_skip (heldF_skip (heldF_skip (heldF_nil ?_))))
  refine anyH_step1 (i := 6) rfl (by kernel_rfl) (fun K hK => ?_)
  go_simp
  refine (pick_any tb ao n cap q2 (64 - x0) zs w4 (unhide S4).cur (by omega) (by omega) (by omega)).mono ?_
  rintro e w5 ⟨y, q5, rfl, hz0, hz1, hc5, hq5, g5⟩
  have S5 := hide ((unhide S4).pick hc5 g5)
  clear hc5 g5 S4
  have e2 := i64_in (x0 + y) (by omega)
  refine hK.out _ _ (unhide S5).at1 ?_
  clear hK K
  try simp only [Act.put, List.setIfInBounds_toArray, List.set_cons_zero, List.set_cons_succ]
  refine anyH_step1 (i := 7) rfl (by kernel_rfl) (fun K hK => ?_)
  go_simp
  refine hK.out _ _ (unhide S5).at1 ?_
  clear hK K
  try simp only [Act.put, List.setIfInBounds_toArray, List.set_cons_zero, List.set_cons_succ]
  refine anyH_step1 (i := 8) rfl (by kernel_rfl) (fun K hK => ?_)
  go_simp
  refine hK.out _ _ (unhide S5).at1 ?_
  clear hK K
  try simp only [Act.put, List.setIfInBounds_toArray, List.set_cons_zero, List.set_cons_succ]
  have k2 := (unhide S5).at2
  have f2 := frozen_of_row w5 b 2 _ _ (unhide S5).box
  refine anyH_step1 (i := 9) rfl (by kernel_rfl) (fun K hK => ?_)
  go_simp
  have S6 := hide ((unhide S5).put2 (x0 + y))
  refine hK.out _ _ (unhide S6).at1 ?_
  clear hK K k2 f2 S5
  try simp only [Act.put]
  refine wpAnyH_done (by kernel_rfl) (NoPanic.normal ?_) _
  generalize (w5.setCell ⟨b, 2, none⟩ (.int .i64 (x0 + y))) = w6 at *
  obtain ⟨z1, HZ1⟩ : ∃ z1, Hid (x0 + y = z1) := ⟨_, rfl⟩
  rw [unhide HZ1] at S6
  rw [unhide HZ1]
  clear HZ1 e2
  go_wp2_with fail
  refine (pick_of tb ao n cap q5 20 zs w6 (unhide S6).cur (by omega) (by omega) (by omega)).mono ?_
  rintro e w7 ⟨r, q7, rfl, hr0, hr1, hc7, hq7, g7⟩
  have S7 := hide ((unhide S6).pick hc7 g7)
  clear hc7 g7 S6
  by_cases hc0 : r = 0
  · subst hc0
    have e3 := i64_in (x0 - 1) (by omega)
    go_wp2
    refine wp_region_noPanic ?_
    refine wp_region_raw (fun W => W.cell? ⟨b, 1, none⟩ = some (.int .i64 x0)) [true, true, true, false, true, false, false, false, false, false] (by kernel_rfl) (fun _ _ _ _ _ h => h) rfl (by kernel_rfl) (unhide S7).at1 ?_
    have S8 := hide ((unhide S7).new (grown_drew (World.grownBy.refl w7 none)))
    clear S7
    generalize w7.drew = w8 at *
    have hs8 := (unhide S8).cur.lt
    refine heldF_take (v := ?_) (Or.inl ⟨by rfl, ?_⟩) ?_
    rotate_left 1
    · intro w' hSw
      try dsimp only at hSw
      go_simp
      try with_reducible rfl
    simp only [Act.put, List.setIfInBounds_toArray, List.set_cons_zero, List.set_cons_succ]
    refine heldF_take (v := ?_) (Or.inl ⟨by rfl, ?_⟩) ?_
    rotate_left 1
    · intro w' hSw
      try dsimp only at hSw
      go_simp
      try with_reducible rfl
    simp only [Act.put, List.setIfInBounds_toArray, List.set_cons_zero, List.set_cons_succ]
    refine heldF_take (v := ?_) (Or.inl ⟨by rfl, ?_⟩) ?_
    rotate_left 1
    · intro w' hSw
      try dsimp only at hSw
      go_simp
      try with_reducible rfl
    simp only [Act.put, List.setIfInBounds_toArray, List.set_cons_zero, List.set_cons_succ]
    refine heldF_skip ?_
    refine heldF_take (v := ?_) (Or.inl ⟨by rfl, ?_⟩) ?_
    rotate_left 1
    · intro w' hSw
      try dsimp only at hSw
      go_simp
      try with_reducible rfl
    simp only [Act.put, List.setIfInBounds_toArray, List.set_cons_zero, List.set_cons_succ]
    refine heldF_skip (heldF_skip (heldF_skip (heldF_skip (heldF_skip (heldF_nil ?_)))))
    refine anyH_step2 (i := 3) (j := 5) rfl rfl (by kernel_rfl) (fun K hK => ?_) (fun K hK => ?_)
    · go_simp
      have S9 := hide ((unhide S8).new (World.grownBy_alloc w8 (.cells #[.int .i64 64, .int .i64 (x0 - 1), .int .i64 63] 3) none))
      refine hK.out _ _ (unhide S9).at1 ?_
      clear hK K
      try simp only [Act.put, List.setIfInBounds_toArray, List.set_cons_zero, List.set_cons_succ]
      refine anyH_step1 (i := 5) rfl (by kernel_rfl) (fun K hK => ?_)
      go_simp
      refine (pick_of tb ao n cap q7 3 zs _ (unhide S9).cur (by omega) (by omega) (by omega)).mono ?_
      rintro e w10 ⟨z, q10, rfl, hu0, hu1, hc10, hq10, g10⟩
      obtain ⟨z, rfl⟩ := Int.eq_ofNat_of_zero_le hu0
      obtain ⟨u, hu⟩ := lit3 g10 hs8 z (by omega)
      have S10 := hide ((unhide S9).pick hc10 g10)
      clear hc10 g10 S9 S8
      refine hK.out _ _ (unhide S10).at1 ?_
      clear hK K
      try simp only [Act.put, List.setIfInBounds_toArray, List.set_cons_zero, List.set_cons_succ]
      have iz : (z : Int) < 3 := by omega
      refine anyH_step1 (i := 6) rfl (by kernel_rfl) (fun K hK => ?_)
      go_simp
      refine hK.out _ _ (unhide S10).at1 ?_
      clear hK K
      try simp only [Act.put, List.setIfInBounds_toArray, List.set_cons_zero, List.set_cons_succ]
      refine anyH_step1 (i := 7) rfl (by kernel_rfl) (fun K hK => ?_)
      go_simp
      refine hK.out _ _ (unhide S10).at1 ?_
      clear hK K
      try simp only [Act.put, List.setIfInBounds_toArray, List.set_cons_zero, List.set_cons_succ]
      refine anyH_step1 (i := 8) rfl (by kernel_rfl) (fun K hK => ?_)
      go_simp
      refine hK.out _ _ (unhide S10).at1 ?_
      clear hK K
      try simp only [Act.put, List.setIfInBounds_toArray, List.set_cons_zero, List.set_cons_succ]
      have k2 := (unhide S10).at2
      have f2 := frozen_of_row w10 b 2 _ _ (unhide S10).box
      refine anyH_step1 (i := 9) rfl (by kernel_rfl) (fun K hK => ?_)
      go_simp
      have S11 := hide ((unhide S10).put2 u)
      refine hK.out _ _ (unhide S11).at1 ?_
      clear hK K k2 f2 S10 hu
      try simp only [Act.put]
      refine wpAnyH_done (by kernel_rfl) (NoPanic.normal ?_) _
      generalize (w10.setCell ⟨b, 2, none⟩ (.int .i64 u)) = w11 at *
      have HBX := hide (unhide S11).box
      have HRB := hide (unhide S11).rb
      go_wp2_with (first | (refine load_row rfl 26 _ rfl b rfl #[.slice none 0 0, .int .i64 x0, .int .i64 u, .int .i64 0, .int .i64 x3] 26 (unhide HBX) _ Try.underlying26 rfl (by kernel_rfl) ?_) | (refine store_row rfl 26 _ _ rfl w.heap.size rfl #[.slice none 0 0, .int .i64 x0, .int .i64 u, .int .i64 0, .int .i64 x3] rfl #[.slice none 0 0, .int .i64 0, .int .i64 0, .int .i64 0, .int .i64 0] 26 (unhide HRB) rfl (by kernel_rfl) (by simp [Value.oneCell']) ?_; intro wz hBz gz))
      refine bodyPost_ret (v := .agg #[.slice none 0 0, .int .i64 x0, .int .i64 u, .int .i64 0, .int .i64 x3]) ?_ rfl ?_
      · rw [results_c1 rfl]
        exact run_loadVar_row wz _ 26 26 _ (0, 0) _ hBz Try.underlying26 rfl (by kernel_rfl)
      · exact ⟨_, _, _, _, q10, rfl, (unhide S11).cur.beside gz (fun g e => by have e9 := Option.some.inj e; exact ⟨by omega, fun hn b2 off2 e2 => by have := unhide HAL hn b2 off2 e2; omega⟩), by omega, grown_newR (unhide S11).grown gz (fun g e => by have e9 := Option.some.inj e; omega)⟩
    · go_simp
      refine (pick_of tb ao n cap q7 3 zs w8 (unhide S8).cur (by omega) (by omega) (by omega)).mono ?_
      rintro e w9 ⟨z, q10, rfl, hu0, hu1, hc9, hq10, g9⟩
      obtain ⟨z, rfl⟩ := Int.eq_ofNat_of_zero_le hu0
      have S9 := hide ((unhide S8).pick hc9 g9)
      have hs9 : tb < w9.heap.size := hc9.lt
      clear hc9 g9 S8
      refine hK.out _ _ (unhide S9).at1 ?_
      clear hK K
      try simp only [Act.put, List.setIfInBounds_toArray, List.set_cons_zero, List.set_cons_succ]
      refine anyH_step1 (i := 3) rfl (by kernel_rfl) (fun K hK => ?_)
      go_simp
      have S10 := hide ((unhide S9).new (World.grownBy_alloc w9 (.cells #[.int .i64 64, .int .i64 (x0 - 1), .int .i64 63] 3) none))
      obtain ⟨u, hu⟩ := lit3 (World.grownBy.refl (w9.alloc (.cells #[.int .i64 64, .int .i64 (x0 - 1), .int .i64 63] 3)) (some tb)) hs9 z (by omega)
      clear S9
      obtain ⟨w10, HW10⟩ : ∃ W, Hid ((w9.alloc (.cells #[.int .i64 64, .int .i64 (x0 - 1), .int .i64 63] 3)) = W) := ⟨_, rfl⟩
      rw [unhide HW10] at S10 hu
      rw [unhide HW10]
      clear HW10
      refine hK.out _ _ (unhide S10).at1 ?_
      clear hK K
      try simp only [Act.put, List.setIfInBounds_toArray, List.set_cons_zero, List.set_cons_succ]
      have iz : (z : Int) < 3 := by omega
      refine anyH_step1 (i := 6) rfl (by kernel_rfl) (fun K hK => ?_)
      go_simp
      refine hK.out _ _ (unhide S10).at1 ?_
      clear hK K
      try simp only [Act.put, List.setIfInBounds_toArray, List.set_cons_zero, List.set_cons_succ]
      refine anyH_step1 (i := 7) rfl (by kernel_rfl) (fun K hK => ?_)
      go_simp
      refine hK.out _ _ (unhide S10).at1 ?_
      clear hK K
      try simp only [Act.put, List.setIfInBounds_toArray, List.set_cons_zero, List.set_cons_succ]
      refine anyH_step1 (i := 8) rfl (by kernel_rfl) (fun K hK => ?_)
      go_simp
      refine hK.out _ _ (unhide S10).at1 ?_
      clear hK K
      try simp only [Act.put, List.setIfInBounds_toArray, List.set_cons_zero, List.set_cons_succ]
      have k2 := (unhide S10).at2
      have f2 := frozen_of_row w10 b 2 _ _ (unhide S10).box
      refine anyH_step1 (i := 9) rfl (by kernel_rfl) (fun K hK => ?_)
      go_simp
      have S11 := hide ((unhide S10).put2 u)
      refine hK.out _ _ (unhide S11).at1 ?_
      clear hK K k2 f2 S10 hu
      try simp only [Act.put]
      refine wpAnyH_done (by kernel_rfl) (NoPanic.normal ?_) _
      generalize (w10.setCell ⟨b, 2, none⟩ (.int .i64 u)) = w11 at *
      have HBX := hide (unhide S11).box
      have HRB := hide (unhide S11).rb
      go_wp2_with (first | (refine load_row rfl 26 _ rfl b rfl #[.slice none 0 0, .int .i64 x0, .int .i64 u, .int .i64 0, .int .i64 x3] 26 (unhide HBX) _ Try.underlying26 rfl (by kernel_rfl) ?_) | (refine store_row rfl 26 _ _ rfl w.heap.size rfl #[.slice none 0 0, .int .i64 x0, .int .i64 u, .int .i64 0, .int .i64 x3] rfl #[.slice none 0 0, .int .i64 0, .int .i64 0, .int .i64 0, .int .i64 0] 26 (unhide HRB) rfl (by kernel_rfl) (by simp [Value.oneCell']) ?_; intro wz hBz gz))
      refine bodyPost_ret (v := .agg #[.slice none 0 0, .int .i64 x0, .int .i64 u, .int .i64 0, .int .i64 x3]) ?_ rfl ?_
      · rw [results_c1 rfl]
        exact run_loadVar_row wz _ 26 26 _ (0, 0) _ hBz Try.underlying26 rfl (by kernel_rfl)
      · exact ⟨_, _, _, _, q10, rfl, (unhide S11).cur.beside gz (fun g e => by have e9 := Option.some.inj e; exact ⟨by omega, fun hn b2 off2 e2 => by have := unhide HAL hn b2 off2 e2; omega⟩), by omega, grown_newR (unhide S11).grown gz (fun g e => by have e9 := Option.some.inj e; omega)⟩
  · have n0 : (r == 0) = false := by simp [hc0]
    by_cases hc1 : r = 1
    · subst hc1
      have gL := World.grownBy_alloc w7 (.cells #[.int .i64 13, .int .i64 14, .int .i64 (-1)] 3) none
      have S8 := hide ((unhide S7).new gL)
      have hs7 := (unhide S7).cur.lt
      clear S7 gL n0 hc0
      go_wp2_with fail
      refine (pick_of tb ao n cap q7 3 zs _ (unhide S8).cur (by omega) (by omega) (by omega)).mono ?_
      rintro e w10 ⟨z, q10, rfl, hu0, hu1, hc10, hq10, g10⟩
      obtain ⟨z, rfl⟩ := Int.eq_ofNat_of_zero_le hu0
      obtain ⟨u, hu⟩ := lit3 g10 hs7 z (by omega)
      have S10 := hide ((unhide S8).pick hc10 g10)
      have S11 := hide ((unhide S10).put4 u)
      have k4 := (unhide S10).at4
      have f4 := frozen_of_row w10 b 4 _ _ (unhide S10).box
      have iz : (z : Int) < 3 := by omega
      clear hc10 g10 S10 S8
      have HBX := hide (unhide S11).box
      have HRB := hide (unhide S11).rb
      go_wp2_with (first | (generalize (w10.setCell ⟨b, 4, none⟩ (.int .i64 u)) = w11 at *; refine load_row rfl 26 _ rfl b rfl #[.slice none 0 0, .int .i64 x0, .int .i64 z1, .int .i64 0, .int .i64 u] 26 (unhide HBX) _ Try.underlying26 rfl (by kernel_rfl) ?_) | (refine store_row rfl 26 _ _ rfl w.heap.size rfl #[.slice none 0 0, .int .i64 x0, .int .i64 z1, .int .i64 0, .int .i64 u] rfl #[.slice none 0 0, .int .i64 0, .int .i64 0, .int .i64 0, .int .i64 0] 26 (unhide HRB) rfl (by kernel_rfl) (by simp [Value.oneCell']) ?_; intro wz hBz gz))
      refine bodyPost_ret (v := .agg #[.slice none 0 0, .int .i64 x0, .int .i64 z1, .int .i64 0, .int .i64 u]) ?_ rfl ?_
      · rw [results_c1 rfl]
        exact run_loadVar_row wz _ 26 26 _ (0, 0) _ hBz Try.underlying26 rfl (by kernel_rfl)
      · exact ⟨_, _, _, _, q10, rfl, (unhide S11).cur.beside gz (fun g e => by have e9 := Option.some.inj e; exact ⟨by omega, fun hn b2 off2 e2 => by have := unhide HAL hn b2 off2 e2; omega⟩), by omega, grown_newR (unhide S11).grown gz (fun g e => by have e9 := Option.some.inj e; omega)⟩
    · have n1 : (r == 1) = false := by simp [hc1]
      by_cases hc2 : r = 2
      · subst hc2
        clear n0 n1 hc0 hc1
        go_wp2_with fail
        refine (pick_of tb ao n cap q7 4 zs _ (unhide S7).cur (by omega) (by omega) (by omega)).mono ?_
        rintro e w10 ⟨u, q10, rfl, hu0, hu1, hc10, hq10, g10⟩
        have S10 := hide ((unhide S7).pick hc10 g10)
        have S11 := hide ((unhide S10).put3 u)
        have k3 := (unhide S10).at3
        have f3 := frozen_of_row w10 b 3 _ _ (unhide S10).box
        clear hc10 g10 S10 S7
        have HBX := hide (unhide S11).box
        have HRB := hide (unhide S11).rb
        go_wp2_with (first | (generalize (w10.setCell ⟨b, 3, none⟩ (.int .i64 u)) = w11 at *; refine load_row rfl 26 _ rfl b rfl #[.slice none 0 0, .int .i64 x0, .int .i64 z1, .int .i64 u, .int .i64 x3] 26 (unhide HBX) _ Try.underlying26 rfl (by kernel_rfl) ?_) | (refine store_row rfl 26 _ _ rfl w.heap.size rfl #[.slice none 0 0, .int .i64 x0, .int .i64 z1, .int .i64 u, .int .i64 x3] rfl #[.slice none 0 0, .int .i64 0, .int .i64 0, .int .i64 0, .int .i64 0] 26 (unhide HRB) rfl (by kernel_rfl) (by simp [Value.oneCell']) ?_; intro wz hBz gz))
        refine bodyPost_ret (v := .agg #[.slice none 0 0, .int .i64 x0, .int .i64 z1, .int .i64 u, .int .i64 x3]) ?_ rfl ?_
        · rw [results_c1 rfl]
          exact run_loadVar_row wz _ 26 26 _ (0, 0) _ hBz Try.underlying26 rfl (by kernel_rfl)
        · exact ⟨_, _, _, _, q10, rfl, (unhide S11).cur.beside gz (fun g e => by have e9 := Option.some.inj e; exact ⟨by omega, fun hn b2 off2 e2 => by have := unhide HAL hn b2 off2 e2; omega⟩), by omega, grown_newR (unhide S11).grown gz (fun g e => by have e9 := Option.some.inj e; omega)⟩
      · have n2 : (r == 2) = false := by simp [hc2]
        clear hc0 hc1 hc2
        have S11 := S7
        clear S7
        have HBX := hide (unhide S11).box
        have HRB := hide (unhide S11).rb
        go_wp2_with (first | (refine load_row rfl 26 _ rfl b rfl #[.slice none 0 0, .int .i64 x0, .int .i64 z1, .int .i64 0, .int .i64 x3] 26 (unhide HBX) _ Try.underlying26 rfl (by kernel_rfl) ?_) | (refine store_row rfl 26 _ _ rfl w.heap.size rfl #[.slice none 0 0, .int .i64 x0, .int .i64 z1, .int .i64 0, .int .i64 x3] rfl #[.slice none 0 0, .int .i64 0, .int .i64 0, .int .i64 0, .int .i64 0] 26 (unhide HRB) rfl (by kernel_rfl) (by simp [Value.oneCell']) ?_; intro wz hBz gz))
        refine bodyPost_ret (v := .agg #[.slice none 0 0, .int .i64 x0, .int .i64 z1, .int .i64 0, .int .i64 x3]) ?_ rfl ?_
        · rw [results_c1 rfl]
          exact run_loadVar_row wz _ 26 26 _ (0, 0) _ hBz Try.underlying26 rfl (by kernel_rfl)
        · exact ⟨_, _, _, _, q7, rfl, (unhide S11).cur.beside gz (fun g e => by have e9 := Option.some.inj e; exact ⟨by omega, fun hn b2 off2 e2 => by have := unhide HAL hn b2 off2 e2; omega⟩), by omega, grown_newR (unhide S11).grown gz (fun g e => by have e9 := Option.some.inj e; omega)⟩
end Go.Proofs.Ytfgglainjaplgaa

namespace Go.Proofs.Ytfgglainjaplgaa
open Go.RowKit

theorem results_tc {fn : Func} {p q : Tmp} {ty : TypeId} (h : fn.results = #[.tmp q, .cell p ty]) (tmps : Array Value) (P : Program) (w : World) (g : Nat) (hp : tmps.getD p undef = .pointer (some ⟨g, 0, none⟩)) (x : Value) (hl : (loadVar ty ⟨g, 0, none⟩).run P w = .ok x w) :
    (results fn tmps).run P w = .ok (.tuple #[tmps.getD q undef, x]) w := by
  simp only [results, h]
  have ha : (asAddr (.pointer (some ⟨g, 0, none⟩))).run P w = .ok ⟨g, 0, none⟩ w := by simp [asAddr]
  have hp' : tmps[p]?.getD undef = .pointer (some ⟨g, 0, none⟩) := by simpa using hp
  simp [Sem.run_bind, Result.andThen, hp', hl, ha]

set_option maxRecDepth 20000 in
set_option maxHeartbeats 1600000 in
theorem drawFirstOf (ao : Option Addr) (n cap : Nat) (zs : List Int) (w : World) (hr : Rd .u8 w ao n zs) (hb : ∀ i, 0 ≤ zs.getD i 0 ∧ zs.getD i 0 ≤ 255) (hn : n ≤ 1048576) :
    Calls Try.prog 9 #[.slice ao n cap] w fun e w' => ∃ (so : Option Addr) (m sc : Nat) (y0 y1 y2 y3 : Int), e = .returned (.tuple #[.slice so m sc, .agg #[.slice none 0 0, .int .i64 y0, .int .i64 y1, .int .i64 y2, .int .i64 y3]]) ∧ (∃ xs, Rd .i64 w' so m xs) ∧ m ≤ 65 ∧ w.grownBy w' none := by
  have HR := hide (hr.grown (World.grownBy_alloc w (.cells #[.slice none 0 0, .int .i64 0, .int .i64 0, .int .i64 0, .int .i64 0] 26) none))
  have HG0 : Hid (w.grownBy (w.alloc (.cells #[.slice none 0 0, .int .i64 0, .int .i64 0, .int .i64 0, .int .i64 0] 26)) none) := World.grownBy_alloc _ _ _
  have HR0 := hide (heap_alloc_new w (.cells #[.slice none 0 0, .int .i64 0, .int .i64 0, .int .i64 0, .int .i64 0] 26))
  have HB := hide hb
  have hs0 : w.heap.size < (w.alloc (.cells #[.slice none 0 0, .int .i64 0, .int .i64 0, .int .i64 0, .int .i64 0] 26)).heap.size := by simp
  clear hr hb
  go_enter Try.func9, Try.ntmps9
  go_wp2_with fail
  generalize (w.alloc (.cells #[.slice none 0 0, .int .i64 0, .int .i64 0, .int .i64 0, .int .i64 0] 26)) = W0 at *
  refine (open_of ao n cap zs W0 (unhide HR) (unhide HB) hn).mono ?_
  rintro e w1 ⟨rfl, hc1, g1⟩
  have HC1 := hide hc1
  have hlt1 := hc1.lt
  have HR1 := hide (grown_atT g1 (unhide HR0) (by simp))
  have HG1 := hide (grown_trans (unhide HG0) g1)
  have hs1 := g1.size
  clear hc1 g1 HR HG0 HR0
  go_wp2_with fail
  refine (drawPassBlock W0.heap.size ao n cap 0 zs w1 (unhide HC1) (by omega)).mono ?_
  rintro e w2 ⟨so, m, sc, q, rfl, hq, hP⟩
  have HP := hide hP
  have HR2 := hide (grown_atT hP.grown (unhide HR1) (by simp; omega))
  have HG2 : Hid (w.grownBy w2 none) := grown_new (unhide HG1) hP.grown (fun x e => by simp at e; omega)
  have hs2 := hP.grown.size
  clear hP HR1 HG1 HC1
  go_wp2_with fail
  refine (drawScan13 W0.heap.size ao n cap q zs w2 (unhide HP).cur (by omega)).mono ?_
  rintro e w3 ⟨y0, y1, y2, y3, q3, rfl, -, -, g3⟩
  have HRB := hide (grown_atT g3 (unhide HR2) (by simp; omega))
  have HG3 : Hid (w.grownBy w3 none) := grown_new (unhide HG2) g3 (fun x e => by simp at e; omega)
  have hblk : ∀ b off, so = some ⟨b, off, none⟩ → w.heap.size < b := fun b off e => by have := (unhide HP).new b off e; omega
  have HRD : Hid (∃ xs, Rd .i64 w3 so m xs) := by
    obtain ⟨xs, hx⟩ := (unhide HP).rd
    refine ⟨xs, hx.beside g3 (fun hm b off e => ?_)⟩
    have := (unhide HP).new b off e
    omega
  have HB3 : Hid (∀ (W : World), w3.grownBy W (some w.heap.size) → (∃ xs, Rd .i64 W so m xs) ∧ w.grownBy W none) := fun W g => by
    obtain ⟨xs, hx⟩ := unhide HRD
    exact ⟨⟨xs, hx.beside g (fun hm b off e => by have := hblk b off e; omega)⟩, grown_new (unhide HG3) g (fun x e => by simp at e; omega)⟩
  have hm65 := (unhide HP).len
  clear g3 HR2 HG2 HRD hblk HP
  go_wp2_with (refine store_row rfl 26 _ _ rfl w.heap.size rfl #[.slice none 0 0, .int .i64 y0, .int .i64 y1, .int .i64 y2, .int .i64 y3] rfl #[.slice none 0 0, .int .i64 0, .int .i64 0, .int .i64 0, .int .i64 0] 26 (unhide HRB) rfl (by kernel_rfl) (by simp [Value.oneCell']) ?_; intro w4 hB4 g4)
  refine bodyPost_ret (v := .tuple #[.slice so m sc, .agg #[.slice none 0 0, .int .i64 y0, .int .i64 y1, .int .i64 y2, .int .i64 y3]]) ?_ rfl ⟨so, m, sc, y0, y1, y2, y3, rfl, (unhide HB3 w4 g4).1, hm65, (unhide HB3 w4 g4).2⟩
  exact results_tc (p := 3) (q := 2) (ty := 26) rfl _ _ _ w.heap.size rfl _ (run_loadVar_row w4 _ 26 26 _ (0, 0) _ hB4 Try.underlying26 rfl (by kernel_rfl))

end Go.Proofs.Ytfgglainjaplgaa

namespace Go.Proofs.Ytfgglainjaplgaa
open Go.RowKit

theorem lawBig (ao : Option Addr) (n cap : Nat) (t : Bool) (w : World) (h : Hid (decide ((1048576 : Int) < (n : Int)) = t)) :
    Calls Try.prog 8 #[.slice ao n cap] w fun e w' => e = .returned (.bool t) ∧ w = w' := by
  go_enter Try.func8, Try.ntmps8
  go_wp2
  go_ret
  exact ⟨ret_bool (by rw [← unhide h]), rfl⟩

set_option maxHeartbeats 800000 in
theorem lawPick (ao : Option Addr) (n cap a : Nat) (k : Int) (zs : List Int) (w : World) (hr : Rd .u8 w ao n zs) (hb : ∀ i, 0 ≤ zs.getD i 0 ∧ zs.getD i 0 ≤ 255) (hn : n ≤ 1048576) (ha : a ≤ 1000000) (hk : 2 ≤ k) (hk3 : k ≤ 2147483648) :
    Calls Try.prog 11 #[.slice ao n cap, .int .i64 a, .int .i64 k] w fun e w' => (∃ x : Int, e = .returned (.int .i64 x) ∧ 0 ≤ x ∧ x < k) ∧ w = w' := by
  obtain ⟨hl, hc⟩ := hr
  by_cases hn0 : n = 0
  · subst hn0
    go_enter Try.func11, Try.ntmps11
    go_wp2
    go_ret
    exact ⟨⟨0, rfl, by omega, by omega⟩, rfl⟩
  · have h0 : ((n : Int) == 0) = false := by simp; omega
    have h2 : decide (k < 2) = false := by simp; omega
    go_enter Try.func11, Try.ntmps11
    go_wp2
    go_loop [7, 8] (fun v i => ∃ (x : Int) (j : Nat), j ≤ 3 ∧ i = .int .i64 j ∧ v = .int .i64 x ∧ 0 ≤ x ∧ x ≤ 253215 ∧ (j ≤ 2 → x ≤ 8160) ∧ (j ≤ 1 → x ≤ 255) ∧ (j ≤ 0 → x ≤ 0)) (fun _ i => 3 - (intOf i).toNat)
    case atStart => exact ⟨0, 0, by omega, rfl, rfl, by omega, by omega, by omega, by omega, by omega⟩
    case round =>
      obtain ⟨x, j, hj, rfl, rfl, hx0, hx1, hx2, hx3, hx4⟩ := hrel
      by_cases hlt : j < 3
      · have hm : (a + j) % n < n := Nat.mod_lt _ (by omega)
        obtain ⟨b, off, rfl, hcb⟩ := hc ((a + j) % n) hm
        have hbb := hb ((a + j) % n)
        generalize zs.getD ((a + j) % n) 0 = y at hcb hbb
        obtain ⟨hy0, hy1⟩ := hbb
        have hmi : (((a : Int) + (j : Int)) % (n : Int)) < (n : Int) := Int.emod_lt_of_pos _ (by omega)
        have hmi0 : 0 ≤ (((a : Int) + (j : Int)) % (n : Int)) := Int.emod_nonneg _ (by omega)
        have H2 := hide hx2
        have H3 := hide hx3
        have H4 := hide hx4
        have hx8 : x ≤ 8160 := hx2 (by omega)
        clear hc hb hx2 hx3 hx4
        go_wp2
        go_round
        case rel => exact ⟨31 * x + y, j + 1, by omega, by go_num, rfl, by omega, by omega, by have := unhide H3; omega, by have := unhide H4; omega, by omega⟩
        case measure => simp [intOf]; omega
      · go_wp2
        go_ret
        exact ⟨⟨(x + (a : Int)) % k, rfl, Int.emod_nonneg _ (by omega), Int.emod_lt_of_pos _ (by omega)⟩, rfl⟩

/-- What a new row of cells holds. -/
theorem cells_new (w : World) (cs : List Value) (t : TypeId) : ∀ j u, cs[j]? = some u → (w.alloc (.cells cs.toArray t)).cell? ((⟨w.heap.size, 0, none⟩ : Addr).add j) = some u := by
  intro j u h
  rw [Addr.add_lit, Nat.zero_add, cell_of_row _ w.heap.size j _ _ (0, 0) (heap_alloc_new w _)]
  simpa using h

end Go.Proofs.Ytfgglainjaplgaa

namespace Go.Proofs.Ytfgglainjaplgaa

theorem leftRow_app (want lo : Int) : ∀ (m k d : Nat) (row : List Int), leftRow want lo k (m + d) row = (leftRow want lo k m row).bind (leftRow want lo (k + m) d)
  | 0, k, d, row => by rw [Nat.zero_add]; rfl
  | m + 1, k, d, row => by
    have e : m + 1 + d = (m + d) + 1 := by omega
    rw [e]
    simp only [leftRow]
    split
    · rw [leftRow_app want lo m (k + 1) d]
      have e2 : k + 1 + m = k + (m + 1) := by omega
      rw [e2]
    · rfl
theorem leftComps_app (want lo : Int) (k m : Nat) : ∀ (cs ds : List Int) (X : List (List Int)), leftComps want lo k m (cs ++ ds) X = (leftComps want lo k m cs X).bind (leftComps want lo k m ds)
  | [], ds, X => rfl
  | c :: cs, ds, X => by
    simp only [List.cons_append, leftComps]
    cases leftRow want lo k m (X.getD c.toNat []) with
    | none => rfl
    | some row => exact leftComps_app want lo k m cs ds _
/-- One place more. -/
theorem leftRow_next {want lo : Int} {k m : Nat} {row r : List Int} (h : leftRow want lo k m row = some r) (hw : r.getD (k + m) 0 = want) : leftRow want lo k (m + 1) row = some (r.set (k + m) lo) := by
  rw [leftRow_app, h]
  show leftRow want lo (k + m) 1 r = _
  simp only [leftRow, hw, if_true]
theorem leftRow_fails {want lo : Int} {k m M : Nat} {row r : List Int} (h : leftRow want lo k m row = some r) (hw : r.getD (k + m) 0 ≠ want) (hM : m < M) : leftRow want lo k M row = none := by
  obtain ⟨d, rfl⟩ : ∃ d, M = m + (d + 1) := ⟨M - m - 1, by omega⟩
  rw [leftRow_app, h]
  show leftRow want lo (k + m) (d + 1) r = none
  simp only [leftRow, hw, if_false]
theorem leftComps_next {want lo : Int} {k m : Nat} {cs : List Int} {X Y : List (List Int)} (j : Nat) (hj : j < cs.length) (h : leftComps want lo k m (cs.take j) X = some Y) {row : List Int} (hr : leftRow want lo k m (Y.getD (cs.getD j 0).toNat []) = some row) : leftComps want lo k m (cs.take (j + 1)) X = some (Y.set (cs.getD j 0).toNat row) := by
  have e : cs.getD j 0 = cs[j] := by simp [hj]
  rw [List.take_succ_eq_append_getElem hj, leftComps_app, h]
  rw [e] at hr ⊢
  show leftComps want lo k m [cs[j]] Y = _
  simp only [leftComps, hr]
theorem leftComps_fails {want lo : Int} {k m : Nat} {cs : List Int} {X Y : List (List Int)} (j : Nat) (hj : j < cs.length) (h : leftComps want lo k m (cs.take j) X = some Y) (hr : leftRow want lo k m (Y.getD (cs.getD j 0).toNat []) = none) : leftComps want lo k m cs X = none := by
  have e : cs.getD j 0 = cs[j] := by simp [hj]
  have e2 : cs = cs.take j ++ cs[j] :: cs.drop (j + 1) := by rw [List.getElem_cons_drop]; exact (List.take_append_drop j cs).symm
  rw [e] at hr
  rw [e2, leftComps_app, h]
  show leftComps want lo k m (cs[j] :: cs.drop (j + 1)) Y = none
  simp only [leftComps, hr]
theorem leftAll_next {fb : Bool} {n : Nat} {s : List Scn} {X Y Z : List (List Int)} (i : Nat) (hi : i < s.length) (h : leftAll fb n (s.take i) X = some Y) (hb : scanB fb n s[i] = true) (hs : leftScan s[i] Y = some Z) : leftAll fb n (s.take (i + 1)) X = some Z := by
  rw [List.take_succ_eq_append_getElem hi, leftAll_app, h]
  show leftAll fb n [s[i]] Y = _
  simp only [leftAll, hb, if_true, hs]
theorem leftAll_fails {fb : Bool} {n : Nat} {s : List Scn} {X Y : List (List Int)} (i : Nat) (hi : i < s.length) (h : leftAll fb n (s.take i) X = some Y) (hs : scanB fb n s[i] = false ∨ leftScan s[i] Y = none) : leftAll fb n s X = none := by
  have e2 : s = s.take i ++ s[i] :: s.drop (i + 1) := by rw [List.getElem_cons_drop]; exact (List.take_append_drop i s).symm
  rw [e2, leftAll_app, h]
  show leftAll fb n (s[i] :: s.drop (i + 1)) Y = none
  rcases hs with hs | hs
  · simp only [leftAll, hs, Bool.false_eq_true, if_false]
  · simp only [leftAll, hs, ite_self]

end Go.Proofs.Ytfgglainjaplgaa

namespace Go.Proofs.Ytfgglainjaplgaa
open Go.RowKit

theorem append_rowR {α : Type} {P : World → Value → α → List Nat → Prop} (hP : OwOk P) {e T : TypeId} (hT : Try.prog.underlying T = some (.slice e)) (hI : (Try.prog.info? e).map (fun i => (i.zero, i.size, i.bytes)) = some (some (.slice none 0 0), 1, 24))
    {w : World} {ops : Array Oper} {rest : List Oper} {o : Oper} {a : Act} {Q : Exit → Act → World → Prop} (hgd : o.guard = none) (s x : Operand)
    (ho : o.op = .call { callee := .builtin .append, args := #[s, x], argTypes := #[T, T] })
    (v : Value) (L : List α) (F : List Nat) (hs : a.eval s = v) (hown : OwR e P w v L F) (hF : F.Nodup) (u : Value) (b : α) (Fb : List Nat) (hu : P w u b Fb) (hFb : Fb.Nodup) (hd : ∀ x ∈ Fb, x ∉ F) (hx : a.eval x = .slice (some ⟨w.heap.size, 0, none⟩) 1 1) (hb : L.length ≤ 1000000) (R : List α) (hR : L ++ [b] = R)
    (h : ∀ v' w' F', OwR e P w' v' R F' → F'.Nodup → (∀ x ∈ F', x ∈ F ∨ x ∈ Fb ∨ w.heap.size ≤ x) → Wr (blk v) w w' → wpList Try.prog ops Q rest (a.put o.dst v') w') :
    wpList Try.prog ops Q (o :: rest) a (w.alloc (.cells #[u] e)) := by
  subst hR
  obtain ⟨i0, hi, hz0, hz1, hz2⟩ := info_parts hI
  obtain ⟨us, Fs, l1, l2, o1, els, rfl⟩ := hown
  obtain ⟨uo, un, uc, rfl⟩ := hP.form _ _ _ _ hu
  have hn := List.nodup_append.1 hF
  refine wpList_append_own_at _ hgd s x T ho 0 e i0 _ 1 24 hT hi hz0 hz1 hz2 rfl (by decide) v L.length _ hs (o1.alloc _) ⟨w.heap.size, 0, none⟩ 1 1 [.slice uo un uc] hx rfl (World.news_of_block (cs := #[.slice uo un uc]) (t := e) (fr := (0, 0)) (heap_alloc_new w _)) (by intro y hy; simp at hy; subst hy; rfl) (by unfold maxLen; omega) (by omega) (Nat.zero_le _) ?_
  intro v' w' h1 h2 _ h4
  have hga : w.grownBy w' v.ownBlock := ⟨h2.os, h2.tape, h2.output, by have h := h2.size; simp at h; omega, fun k hk hr => (h2.block k (by simp; omega) hr).trans (Below.heap_alloc _ _ _ hk)⟩
  have hw : Wr (blk v) w w' := Wr.ofRow hga (fun g e => mem_blk.2 e)
  have hvb : ∀ y, y ∈ blk v' → y ∈ blk v ∨ w.heap.size ≤ y := fun y hy => by
    rcases h4 with h4 | h4
    · exact .inl (mem_blk.2 (by rw [← h4]; exact mem_blk.1 hy))
    · have e1 := mem_blk.1 hy
      rw [h4] at e1
      have e2 : (w.alloc (.cells #[.slice uo un uc] e)).heap.size = y := Option.some.inj e1
      exact .inr (by simp at e2; omega)
  have hfl : (Fs ++ [Fb]).flatten = Fs.flatten ++ Fb := by simp
  have hlt : ∀ y ∈ Fs.flatten, y < w.heap.size := fun y hy => by
    obtain ⟨l, hl, hyl⟩ := List.mem_flatten.1 hy
    obtain ⟨i, hi, rfl⟩ := List.mem_iff_getElem.1 hl
    exact hP.lt w _ _ _ (els i (by omega)) y (by simpa [hi] using hyl)
  refine h v' w' (blk v' ++ (Fs ++ [Fb]).flatten) ⟨us ++ [.slice uo un uc], Fs ++ [Fb], by simp [l1], by simp [l2], ?_, fun i hi => ?_, rfl⟩ ?_ ?_ hw
  · rw [List.length_append]; exact h1
  · by_cases hil : i < L.length
    · have e1 : (us ++ [Value.slice uo un uc]).getD i (.slice none 0 0) = us.getD i (.slice none 0 0) := by simp [List.getElem?_append_left (show i < us.length by omega)]
      have e2 : (Fs ++ [Fb]).getD i [] = Fs.getD i [] := by simp [List.getElem?_append_left (show i < Fs.length by omega)]
      rw [e1, e2, List.getElem_append_left hil]
      exact hP.wr (els i hil) hw (fun y hy hy2 => hn.2.2 y hy2 y (flat_in (by omega) y hy) rfl)
    · have hie : i = L.length := by rw [List.length_append] at hi; simp at hi; omega
      subst hie
      have e1 : (us ++ [Value.slice uo un uc]).getD L.length (.slice none 0 0) = .slice uo un uc := by rw [← l1]; simp
      have e2 : (Fs ++ [Fb]).getD L.length [] = Fb := by rw [← l2]; simp
      rw [e1, e2, List.getElem_append_right (Nat.le_refl _)]
      simp only [Nat.sub_self, List.getElem_cons_zero]
      exact hP.wr hu hw (fun y hy hy2 => hd y hy (by simp [hy2]))
  · rw [hfl]
    refine List.nodup_append.2 ⟨by unfold blk; cases v'.ownBlock <;> simp, List.nodup_append.2 ⟨hn.2.1, hFb, fun y hy z hz => ?_⟩, fun y hy z hz => ?_⟩
    · rintro rfl
      exact hd y hz (by simp [hy])
    · rintro rfl
      rcases List.mem_append.1 hz with hz | hz
      · rcases hvb y hy with h5 | h5
        · exact hn.2.2 y h5 y hz rfl
        · have := hlt y hz; omega
      · rcases hvb y hy with h5 | h5
        · exact hd y hz (by simp [h5])
        · have := hP.lt w _ _ _ hu y hz; omega
  · intro y hy
    rw [hfl] at hy
    rcases List.mem_append.1 hy with hy | hy
    · rcases hvb y hy with h5 | h5
      · exact .inl (by simp [h5])
      · exact .inr (.inr h5)
    · rcases List.mem_append.1 hy with hy | hy
      · exact .inl (by simp [hy])
      · exact .inr (.inl hy)

/-- The same, in a region that draws its order. -/
theorem step_append_rowR {α : Type} {P : World → Value → α → List Nat → Prop} (hP : OwOk P) {e T : TypeId} (hT : Try.prog.underlying T = some (.slice e)) (hI : (Try.prog.info? e).map (fun i => (i.zero, i.size, i.bytes)) = some (some (.slice none 0 0), 1, 24))
    {w : World} {ops : Array Oper} {o : Oper} {a : Act} {K : Act → World → Prop} {Q : Exit → Act → World → Prop} {E : Prop} (hgd : o.guard = none) (s x : Operand)
    (ho : o.op = .call { callee := .builtin .append, args := #[s, x], argTypes := #[T, T] })
    (v : Value) (L : List α) (F : List Nat) (hs : a.eval s = v) (hown : OwR e P w v L F) (hF : F.Nodup) (u : Value) (b : α) (Fb : List Nat) (hu : P w u b Fb) (hFb : Fb.Nodup) (hd : ∀ x ∈ Fb, x ∉ F) (hx : a.eval x = .slice (some ⟨w.heap.size, 0, none⟩) 1 1) (hb : L.length ≤ 1000000) (R : List α) (hR : L ++ [b] = R)
    (h : ∀ v' w' F', OwR e P w' v' R F' → F'.Nodup → (∀ x ∈ F', x ∈ F ∨ x ∈ Fb ∨ w.heap.size ≤ x) → Wr (blk v) w w' → K (a.put o.dst v') w') :
    if Region.wanted o (yielded ops a.tmps) = true then Oper.wp Try.prog o a (w.alloc (.cells #[u] e)) K Q else E := by
  subst hR
  obtain ⟨i0, hi, hz0, hz1, hz2⟩ := info_parts hI
  obtain ⟨us, Fs, l1, l2, o1, els, rfl⟩ := hown
  obtain ⟨uo, un, uc, rfl⟩ := hP.form _ _ _ _ hu
  have hn := List.nodup_append.1 hF
  refine step_append_lies _ hgd s x T ho 0 e i0 _ 1 24 hT hi hz0 hz1 hz2 rfl (by decide) v L.length _ hs (o1.alloc _) ⟨w.heap.size, 0, none⟩ 1 1 [.slice uo un uc] hx rfl (World.news_of_block (cs := #[.slice uo un uc]) (t := e) (fr := (0, 0)) (heap_alloc_new w _)) (by intro y hy; simp at hy; subst hy; rfl) (by omega) (by unfold maxLen; omega) (by omega) (Nat.zero_le _) _ rfl ?_
  intro g0 cap0 w' h1 h2 h4' _
  obtain ⟨v', hv'⟩ : ∃ v', Value.slice (some ⟨g0, 0, none⟩) (L.length + 1) cap0 = v' := ⟨_, rfl⟩
  have h4 : v'.ownBlock = v.ownBlock ∨ v'.ownBlock = some (w.alloc (.cells #[.slice uo un uc] e)).heap.size := by
    rcases h4' with h5 | h5
    · left; rw [← hv', h5]; rfl
    · right; rw [← hv', ← h5]; rfl
  rw [hv'] at h1 ⊢
  clear hv' h4'
  have hga : w.grownBy w' v.ownBlock := ⟨h2.os, h2.tape, h2.output, by have h := h2.size; simp at h; omega, fun k hk hr => (h2.block k (by simp; omega) hr).trans (Below.heap_alloc _ _ _ hk)⟩
  have hw : Wr (blk v) w w' := Wr.ofRow hga (fun g e => mem_blk.2 e)
  have hvb : ∀ y, y ∈ blk v' → y ∈ blk v ∨ w.heap.size ≤ y := fun y hy => by
    rcases h4 with h4 | h4
    · exact .inl (mem_blk.2 (by rw [← h4]; exact mem_blk.1 hy))
    · have e1 := mem_blk.1 hy
      rw [h4] at e1
      have e2 : (w.alloc (.cells #[.slice uo un uc] e)).heap.size = y := Option.some.inj e1
      exact .inr (by simp at e2; omega)
  have hfl : (Fs ++ [Fb]).flatten = Fs.flatten ++ Fb := by simp
  have hlt : ∀ y ∈ Fs.flatten, y < w.heap.size := fun y hy => by
    obtain ⟨l, hl, hyl⟩ := List.mem_flatten.1 hy
    obtain ⟨i, hi, rfl⟩ := List.mem_iff_getElem.1 hl
    exact hP.lt w _ _ _ (els i (by omega)) y (by simpa [hi] using hyl)
  refine h v' w' (blk v' ++ (Fs ++ [Fb]).flatten) ⟨us ++ [.slice uo un uc], Fs ++ [Fb], by simp [l1], by simp [l2], ?_, fun i hi => ?_, rfl⟩ ?_ ?_ hw
  · rw [List.length_append]; exact h1
  · by_cases hil : i < L.length
    · have e1 : (us ++ [Value.slice uo un uc]).getD i (.slice none 0 0) = us.getD i (.slice none 0 0) := by simp [List.getElem?_append_left (show i < us.length by omega)]
      have e2 : (Fs ++ [Fb]).getD i [] = Fs.getD i [] := by simp [List.getElem?_append_left (show i < Fs.length by omega)]
      rw [e1, e2, List.getElem_append_left hil]
      exact hP.wr (els i hil) hw (fun y hy hy2 => hn.2.2 y hy2 y (flat_in (by omega) y hy) rfl)
    · have hie : i = L.length := by rw [List.length_append] at hi; simp at hi; omega
      subst hie
      have e1 : (us ++ [Value.slice uo un uc]).getD L.length (.slice none 0 0) = .slice uo un uc := by rw [← l1]; simp
      have e2 : (Fs ++ [Fb]).getD L.length [] = Fb := by rw [← l2]; simp
      rw [e1, e2, List.getElem_append_right (Nat.le_refl _)]
      simp only [Nat.sub_self, List.getElem_cons_zero]
      exact hP.wr hu hw (fun y hy hy2 => hd y hy (by simp [hy2]))
  · rw [hfl]
    refine List.nodup_append.2 ⟨by unfold blk; cases v'.ownBlock <;> simp, List.nodup_append.2 ⟨hn.2.1, hFb, fun y hy z hz => ?_⟩, fun y hy z hz => ?_⟩
    · rintro rfl
      exact hd y hz (by simp [hy])
    · rintro rfl
      rcases List.mem_append.1 hz with hz | hz
      · rcases hvb y hy with h5 | h5
        · exact hn.2.2 y h5 y hz rfl
        · have := hlt y hz; omega
      · rcases hvb y hy with h5 | h5
        · exact hd y hz (by simp [h5])
        · have := hP.lt w _ _ _ hu y hz; omega
  · intro y hy
    rw [hfl] at hy
    rcases List.mem_append.1 hy with hy | hy
    · rcases hvb y hy with h5 | h5
      · exact .inl (by simp [h5])
      · exact .inr (.inr h5)
    · rcases List.mem_append.1 hy with hy | hy
      · exact .inl (by simp [hy])
      · exact .inr (.inl hy)

end Go.Proofs.Ytfgglainjaplgaa

namespace Go.Proofs.Ytfgglainjaplgaa
open Go.RowKit

theorem infoIntSS : (Try.prog.info? 24).map (fun i => (i.zero, i.size, i.bytes)) = some (some (.slice none 0 0), 1, 24) := by kernel_rfl

abbrev Rd2 := RdR (RdI .i64)

abbrev Ow2 := OwR 24 (OwI .i64 3)

theorem st2 : StR Rd2 := RdR.st (RdI.st .i64)

theorem ok2 : OwOk Ow2 := OwR.ok ok1

theorem Ow2.rd {w : World} {v : Value} {L : List (List Int)} {F : List Nat} (h : Ow2 w v L F) : Rd2 w v L := OwR.rd (fun _ _ _ _ h => OwI.rd h) h

end Go.Proofs.Ytfgglainjaplgaa

namespace Go.Proofs.Ytfgglainjaplgaa
open Go.RowKit

theorem rowsK_append (n m k : Nat) (hk : 0 < k) (U V : Nat → Nat → Value) : rowsK n k U ++ rowsK m k V = rowsK (n + m) k (fun i j => if i < n then U i j else V (i - n) j) := by
  apply List.ext_getElem?
  intro c
  by_cases h1 : c < n * k
  · rw [List.getElem?_append_left (by rw [rowsK_len]; exact h1)]
    have hi' : c / k < n := Nat.div_lt_of_lt_mul (by rw [Nat.mul_comm]; exact h1)
    have hm : c % k < k := Nat.mod_lt _ hk
    have hd : c = (c / k) * k + c % k := by have := Nat.div_add_mod c k; rw [Nat.mul_comm] at this; omega
    rw [hd, rowsK_get n k U _ _ hi' hm, rowsK_get (n + m) k _ _ _ (by omega) hm, if_pos hi']
  · obtain ⟨d, rfl⟩ : ∃ d, c = n * k + d := ⟨c - n * k, by omega⟩
    rw [List.getElem?_append_right (by rw [rowsK_len]; omega), rowsK_len, Nat.add_sub_cancel_left]
    have hd : d = (d / k) * k + d % k := by have := Nat.div_add_mod d k; rw [Nat.mul_comm] at this; omega
    have hm : d % k < k := Nat.mod_lt _ hk
    have hc : n * k + d = (n + d / k) * k + d % k := by rw [Nat.add_mul]; omega
    by_cases h2 : d < m * k
    · have hi' : d / k < m := Nat.div_lt_of_lt_mul (by rw [Nat.mul_comm]; exact h2)
      rw [hc, rowsK_get (n + m) k _ _ _ (Nat.add_lt_add_left hi' n) hm, if_neg (Nat.not_lt.2 (Nat.le_add_right _ _)), Nat.add_sub_cancel_left]
      have e9 := rowsK_get m k V (d / k) (d % k) hi' hm
      rw [← hd] at e9
      exact e9
    · rw [List.getElem?_eq_none (by rw [rowsK_len]; omega), List.getElem?_eq_none (by rw [rowsK_len, Nat.add_mul]; omega)]

theorem append_rowsG {α : Type} {P : World → (Nat → Value) → α → List Nat → Prop} (hP : OkG P) {e T : TypeId} {sz bytes : Nat} {z : Value} (hT : Try.prog.underlying T = some (.slice e)) (hI : (Try.prog.info? e).map (fun i => (i.zero, i.size, i.bytes)) = some (some z, sz, bytes)) (hzs : z.cells.size = sz) (hsz : 0 < sz) (hbt : bytes ≤ 1000)
    {w : World} {ops : Array Oper} {rest : List Oper} {o : Oper} {a : Act} {Q : Exit → Act → World → Prop} (hgd : o.guard = none) (s x : Operand)
    (ho : o.op = .call { callee := .builtin .append, args := #[s, x], argTypes := #[T, T] })
    (v : Value) (L : List α) (F : List Nat) (hs : a.eval s = v) (hown : OwG e sz P w v L F) (hF : F.Nodup)
    (cs : Array Value) (m : Nat) (V : Nat → Nat → Value) (hcs : cs.toList = rowsK m sz V) (M : List α) (hM : M.length = m) (Gs : List (List Nat)) (hGs : Gs.length = m) (hu : ∀ i (h : i < M.length), P w (V i) M[i] (Gs.getD i [])) (hG : Gs.flatten.Nodup) (hd : ∀ x ∈ Gs.flatten, x ∉ F) (h1c : ∀ u ∈ cs.toList, u.oneCell' = true)
    (H : Nat) (hH : w.heap.size = H) (hx : a.eval x = .slice (some ⟨H, 0, none⟩) m m) (hb : L.length + m ≤ 1000000) (R : List α) (hR : L ++ M = R)
    (h : ∀ v' w' F', OwG e sz P w' v' R F' → F'.Nodup → (∀ x ∈ F', x ∈ F ∨ x ∈ Gs.flatten ∨ w.heap.size ≤ x) → Wr (blk v) w w' → wpList Try.prog ops Q rest (a.put o.dst v') w') :
    wpList Try.prog ops Q (o :: rest) a (w.alloc (.cells cs e)) := by
  subst hR
  subst hH
  obtain ⟨i0, hi, hz0, hz1, hz2⟩ := info_parts hI
  obtain ⟨U, Fs, l2, o1, els, rfl⟩ := hown
  have hn := List.nodup_append.1 hF
  have hbb : (L.length + m) * bytes ≤ 1000000 * 1000 := Nat.mul_le_mul hb hbt
  refine wpList_append_own_at _ hgd s x T ho 0 e i0 _ sz bytes hT hi hz0 hz1 hz2 hzs hsz v L.length _ hs (o1.alloc _) ⟨w.heap.size, 0, none⟩ m m cs.toList hx (by rw [hcs, rowsK_len]) (World.news_of_block (cs := cs) (t := e) (fr := (0, 0)) (heap_alloc_new w _)) h1c (by unfold maxLen; omega) (by omega) (Nat.zero_le _) ?_
  intro v' w' h1 h2 _ h4
  have hga : w.grownBy w' v.ownBlock := ⟨h2.os, h2.tape, h2.output, by have h := h2.size; simp at h; omega, fun k hk hr => (h2.block k (by simp; omega) hr).trans (Below.heap_alloc _ _ _ hk)⟩
  have hw : Wr (blk v) w w' := Wr.ofRow hga (fun g e => mem_blk.2 e)
  have hvb : ∀ y, y ∈ blk v' → y ∈ blk v ∨ w.heap.size ≤ y := fun y hy => by
    rcases h4 with h4 | h4
    · exact .inl (mem_blk.2 (by rw [← h4]; exact mem_blk.1 hy))
    · have e1 := mem_blk.1 hy
      rw [h4] at e1
      have e2 : (w.alloc (.cells cs e)).heap.size = y := Option.some.inj e1
      exact .inr (by simp at e2; omega)
  have hfl : (Fs ++ Gs).flatten = Fs.flatten ++ Gs.flatten := by simp
  have hlt : ∀ y ∈ Fs.flatten, y < w.heap.size := fun y hy => by
    obtain ⟨l, hl, hyl⟩ := List.mem_flatten.1 hy
    obtain ⟨i, hi, rfl⟩ := List.mem_iff_getElem.1 hl
    exact hP.lt w _ _ _ (els i (by omega)) y (by simpa [hi] using hyl)
  have hltG : ∀ y ∈ Gs.flatten, y < w.heap.size := fun y hy => by
    obtain ⟨l, hl, hyl⟩ := List.mem_flatten.1 hy
    obtain ⟨i, hi, rfl⟩ := List.mem_iff_getElem.1 hl
    exact hP.lt w _ _ _ (hu i (by omega)) y (by simpa [hi] using hyl)
  refine h v' w' (blk v' ++ (Fs ++ Gs).flatten) ⟨fun i j => if i < L.length then U i j else V (i - L.length) j, Fs ++ Gs, by simp [l2, hGs, hM], ?_, fun i hi => ?_, rfl⟩ ?_ ?_ hw
  · rw [List.length_append, hM, ← rowsK_append L.length m sz hsz, ← hcs]; exact h1
  · by_cases hil : i < L.length
    · have e1 : (fun j => if i < L.length then U i j else V (i - L.length) j) = U i := by funext j; rw [if_pos hil]
      have e2 : (Fs ++ Gs).getD i [] = Fs.getD i [] := by simp [List.getElem?_append_left (show i < Fs.length by omega)]
      dsimp only
      rw [e1, e2, List.getElem_append_left hil]
      exact hP.wr (els i hil) hw (fun y hy hy2 => hn.2.2 y hy2 y (flat_in (by omega) y hy) rfl)
    · have him : i - L.length < M.length := by rw [List.length_append] at hi; omega
      have e1 : (fun j => if i < L.length then U i j else V (i - L.length) j) = V (i - L.length) := by funext j; rw [if_neg hil]
      have e2 : (Fs ++ Gs).getD i [] = Gs.getD (i - L.length) [] := by simp [List.getElem?_append_right (show Fs.length ≤ i by omega), l2]
      dsimp only
      rw [e1, e2, List.getElem_append_right (by omega)]
      exact hP.wr (hu (i - L.length) him) hw (fun y hy hy2 => hd y (flat_in (by omega) y hy) (by simp [hy2]))
  · rw [hfl]
    refine List.nodup_append.2 ⟨blk_nodup v', List.nodup_append.2 ⟨hn.2.1, hG, fun y hy z hz => ?_⟩, fun y hy z hz => ?_⟩
    · rintro rfl
      exact hd y hz (by simp [hy])
    · rintro rfl
      rcases List.mem_append.1 hz with hz | hz
      · rcases hvb y hy with h5 | h5
        · exact hn.2.2 y h5 y hz rfl
        · have := hlt y hz; omega
      · rcases hvb y hy with h5 | h5
        · exact hd y hz (by simp [h5])
        · have := hltG y hz; omega
  · intro y hy
    rw [hfl] at hy
    rcases List.mem_append.1 hy with hy | hy
    · rcases hvb y hy with h5 | h5
      · exact .inl (by simp [h5])
      · exact .inr (.inr h5)
    · rcases List.mem_append.1 hy with hy | hy
      · exact .inl (by simp [hy])
      · exact .inr (.inl hy)

end Go.Proofs.Ytfgglainjaplgaa

namespace Go.Proofs.Ytfgglainjaplgaa
open Go.RowKit

theorem info_iS : (Try.prog.info? 3).map (fun i => (i.zero, i.size, i.bytes)) = some (some (.int .i64 0), 1, 8) := by kernel_rfl
theorem append_intS {w : World} {ops : Array Oper} {rest : List Oper} {o : Oper} {a : Act} {Q : Exit → Act → World → Prop} (hgd : o.guard = none) (s x : Operand)
    (ho : o.op = .call { callee := .builtin .append, args := #[s, x], argTypes := #[24, 24] })
    (base : Nat) (v : Value) (L : List Int) (hs : a.eval s = v) (hown : w.ownsRow base 3 1 v L.length (L.map (Value.int .i64))) (t : Int) (hx : a.eval x = .slice (some ⟨w.heap.size, 0, none⟩) 1 1) (hb : L.length ≤ 2000000) (hbase : base ≤ w.heap.size) (R : List Int) (hR : L ++ [t] = R)
    (hK : ∀ v' w', w'.ownsRow base 3 1 v' R.length (R.map (Value.int .i64)) → w.grownBy w' v.ownBlock → (v'.ownBlock = v.ownBlock ∨ ∀ g, v'.ownBlock = some g → w.heap.size ≤ g) → wpList Try.prog ops Q rest (a.put o.dst v') w') :
    wpList Try.prog ops Q (o :: rest) a (w.alloc (.cells #[.int .i64 t] 3)) := by
  subst hR
  obtain ⟨i0, hi, hz0, hz1, hz2⟩ := info_parts info_iS
  refine wpList_append_own_at _ hgd s x 24 ho base 3 i0 _ 1 8 Try.underlying24 hi hz0 hz1 hz2 rfl (by decide) v L.length _ hs (hown.alloc _) ⟨w.heap.size, 0, none⟩ 1 1 [.int .i64 t] hx rfl (World.news_of_block (cs := #[.int .i64 t]) (t := 3) (fr := (0, 0)) (heap_alloc_new w _)) (by intro u hu; simp at hu; subst hu; rfl) (by unfold maxLen; omega) (by omega) (by simp; omega) ?_
  intro v' w' h1 h2 _ h4
  refine hK v' w' ?_ ⟨h2.os, h2.tape, h2.output, by have h := h2.size; simp at h; omega, fun k hk hr => (h2.block k (by simp; omega) hr).trans (Below.heap_alloc _ _ _ hk)⟩ ?_
  · rw [List.map_append, List.length_append]; exact h1
  · rcases h4 with h4 | h4
    · exact .inl h4
    · refine .inr fun g e => ?_
      rw [h4] at e
      have e2 : (w.alloc (.cells #[.int .i64 t] 3)).heap.size = g := Option.some.inj e
      simp at e2; omega

end Go.Proofs.Ytfgglainjaplgaa
