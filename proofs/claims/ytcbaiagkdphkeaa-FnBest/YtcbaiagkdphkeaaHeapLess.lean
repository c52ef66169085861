/-
  Which thing is less, in the program.
-/
import Derived.Test.YtcbaiagkdphkeaaHeapRows
import Derived.Test.YtcbaiagkdphkeaaHeldTail
import Derived.Deep.RegionHeld3
import Derived.Handy
namespace Go.Proofs.Ytcbaiagkdphkeaa
open Go.RowKit

def cmpI (x y : Int) : Int := if x < y then -1 else if y < x then 1 else 0

theorem implNaN (x : Int) (w : World) : Calls Try.prog 98 #[.int .i64 x] w fun e w' => e = .returned (.bool false) ∧ w' = w := by
  have h : (x != x) = false := by simp
  go_enter Try.func98, Try.ntmps98
  go_wp2
  go_ret
  exact ⟨rfl, rfl⟩

theorem implCompare (x y z : Int) (HZ : Hid (cmpI x y = z)) (w : World) : Calls Try.prog 97 #[.int .i64 x, .int .i64 y] w fun e w' => e = .returned (.int .i64 z) ∧ w' = w := by
  by_cases h1 : x < y
  · have hz : z = -1 := by rw [← unhide HZ, cmpI, if_pos h1]
    have hd : decide (x < y) = true := decide_eq_true h1
    subst hz
    go_enter Try.func97, Try.ntmps97
    go_wp2_with fail
    refine (implNaN x w).mono ?_
    rintro e w1 ⟨rfl, rfl⟩
    go_wp2_with fail
    refine (implNaN y w1).mono ?_
    rintro e w1 ⟨rfl, rfl⟩
    go_wp2
    go_ret
    exact ⟨rfl, rfl⟩
  · have hd : decide (x < y) = false := decide_eq_false h1
    by_cases h2 : y < x
    · have hz : z = 1 := by rw [← unhide HZ, cmpI, if_neg h1, if_pos h2]
      have hd2 : decide (y < x) = true := decide_eq_true h2
      subst hz
      go_enter Try.func97, Try.ntmps97
      go_wp2_with fail
      refine (implNaN x w).mono ?_
      rintro e w1 ⟨rfl, rfl⟩
      go_wp2_with fail
      refine (implNaN y w1).mono ?_
      rintro e w1 ⟨rfl, rfl⟩
      go_wp2
      go_ret
      exact ⟨rfl, rfl⟩
    · have hz : z = 0 := by rw [← unhide HZ, cmpI, if_neg h1, if_neg h2]
      have hd2 : decide (y < x) = false := decide_eq_false h2
      subst hz
      go_enter Try.func97, Try.ntmps97
      go_wp2_with fail
      refine (implNaN x w).mono ?_
      rintro e w1 ⟨rfl, rfl⟩
      go_wp2_with fail
      refine (implNaN y w1).mono ?_
      rintro e w1 ⟨rfl, rfl⟩
      go_wp2
      go_ret
      exact ⟨rfl, rfl⟩

def orI (x y : Int) : Int := if x = 0 then y else x
set_option maxHeartbeats 800000 in
theorem implOr (g : Nat) (x y z : Int) (HZ : Hid (orI x y = z)) (w : World) (c0 : w.cell? ⟨g, 0, none⟩ = some (.int .i64 x)) (c1 : w.cell? ⟨g, 1, none⟩ = some (.int .i64 y)) :
    Calls Try.prog 96 #[.slice (some ⟨g, 0, none⟩) 2 2] w fun e w' => e = .returned (.int .i64 z) ∧ w' = w := by
  by_cases hx : x = 0
  · have hz : z = y := by rw [← unhide HZ, orI, if_pos hx]
    subst hx hz
    by_cases hy : z = 0
    · subst hy
      go_enter Try.func96, Try.ntmps96
      go_wp2
      go_rounds 3
      go_ret
      exact ⟨rfl, rfl⟩
    · have h2 : (z != 0) = true := by simp [hy]
      go_enter Try.func96, Try.ntmps96
      go_wp2
      go_rounds 3
      go_ret
      exact ⟨rfl, rfl⟩
  · have hz : z = x := by rw [← unhide HZ, orI, if_neg hx]
    subst hz
    have h2 : (z != 0) = true := by simp [hx]
    go_enter Try.func96, Try.ntmps96
    go_wp2
    go_rounds 3
    go_ret
    exact ⟨rfl, rfl⟩

theorem lt_or (a b : Hp) : decide (orI (cmpI a.w b.w) (cmpI a.c b.c) < 0) = ltH a b := by
  unfold ltH orI cmpI
  refine decide_eq_decide.2 ?_
  by_cases h1 : a.w < b.w
  · simp [h1]
  · by_cases h2 : b.w < a.w
    · simp [h1, h2]; omega
    · by_cases h3 : a.c < b.c
      · simp [h1, h2, h3]; omega
      · by_cases h4 : b.c < a.c
        · simp [h1, h2, h3, h4]
        · simp [h1, h2, h3, h4]

set_option maxHeartbeats 1600000 in
theorem implLess (ao : Option Addr) (n cap : Nat) (L : List Hp) (w : World) (hr : RdP w ao n L) (i j : Nat) (hi : i < n) (hj : j < n) (b : Bool) (HB : Hid (ltH (at_ L i) (at_ L j) = b)) :
    Calls Try.prog 92 #[.slice ao n cap, .int .i64 i, .int .i64 j] w fun e w' => e = .returned (.bool b) ∧ w.grownBy w' none := by
  obtain ⟨bb, off, e1, c0, -, c2⟩ := hr.2 i hi
  obtain ⟨bb', off', e2, d0, -, d2⟩ := hr.2 j hj
  rw [e1] at e2
  simp only [Option.some.injEq, Addr.mk.injEq, and_true] at e2
  obtain ⟨rfl, rfl⟩ := e2
  subst e1
  have hlt := lt_or (at_ L i) (at_ L j)
  rw [unhide HB] at hlt
  generalize at_ L i = x at *
  generalize at_ L j = y at *
  obtain ⟨xw, xo, xc, xs, xk⟩ := x
  obtain ⟨yw, yo, yc, ys, yk⟩ := y
  dsimp only at c0 c2 d0 d2 hlt
  obtain ⟨p, HP⟩ : ∃ p, Hid (cmpI xw yw = p) := ⟨_, rfl⟩
  obtain ⟨q, HQ⟩ : ∃ q, Hid (cmpI xk yk = q) := ⟨_, rfl⟩
  rw [unhide HP, unhide HQ] at hlt
  obtain ⟨r, HR⟩ : ∃ r, Hid (orI p q = r) := ⟨_, rfl⟩
  rw [unhide HR] at hlt
  have hiI : (i : Int) < (n : Int) := by omega
  have hjI : (j : Int) < (n : Int) := by omega
  clear hr HB
  have KEEP : Hid (∀ W, w.grownBy W none → W.cell? ⟨bb, off + i * 3, none⟩ = some (.int .i64 xw) ∧ W.cell? ⟨bb, off + i * 3 + 2, none⟩ = some (.int .i64 xk) ∧ W.cell? ⟨bb, off + j * 3, none⟩ = some (.int .i64 yw) ∧ W.cell? ⟨bb, off + j * 3 + 2, none⟩ = some (.int .i64 yk)) := fun W g => ⟨g.cell c0 (by simp), g.cell c2 (by simp), g.cell d0 (by simp), g.cell d2 (by simp)⟩
  have G1 : Hid (∀ o, w.grownBy (w.drew.alloc o) none) := fun o => grown_alloc (grown_drew (World.grownBy.refl _ _)) _
  go_enter Try.func92, Try.ntmps92
  go_wp2
  go_region_held3 (fun w' => w'.cell? ⟨bb, off + i * 3, none⟩ = some (.int .i64 xw) ∧ w'.cell? ⟨bb, off + i * 3 + 2, none⟩ = some (.int .i64 xk) ∧ w'.cell? ⟨bb, off + j * 3, none⟩ = some (.int .i64 yw) ∧ w'.cell? ⟨bb, off + j * 3 + 2, none⟩ = some (.int .i64 yk)) (first | exact ⟨c0, c2, d0, d2⟩ | exact unhide KEEP _ (unhide G1 _)) ((first | (go_at_call_of 97 (Value.int .i64 xw); refine (implCompare xw yw p HP _).mono ?_; rintro e w2 ⟨rfl, rfl⟩) | (go_at_call_of 97 (Value.int .i64 xk); refine (implCompare xk yk q HQ _).mono ?_; rintro e w2 ⟨rfl, rfl⟩) | (go_at_call 96; refine (implOr _ p q r HR _ (by simp) (by simp)).mono ?_; rintro e w2 ⟨rfl, rfl⟩)))
  all_goals go_wp2
  all_goals go_ret
  all_goals exact ⟨by first | rfl | exact ret_bool hlt, unhide G1 _⟩

end Go.Proofs.Ytcbaiagkdphkeaa
