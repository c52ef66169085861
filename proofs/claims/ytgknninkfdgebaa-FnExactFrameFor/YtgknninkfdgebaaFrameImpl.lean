/-
  The walks of the program's frames with their components inside.
-/
import Derived.Test.YtgknninkfdgebaaRows
import Derived.Test.YtgknninkfdgebaaFramePure
import Derived.Deep.WholeRow
import Derived.Deep.MidRow
namespace Go.Proofs.Ytgknninkfdgebaa
open Go.RowKit

theorem wpList_load_row {P : Program} {ops : Array Oper} {rest : List Oper} {op : Oper} {a : Act} {w : World} {Q : Exit → Act → World → Prop} (hw : Region.wanted op (yielded ops a.tmps) = true) (ty : TypeId) (x : Operand) (ho : op.op = .load ty x)
    (b : Nat) (hx : a.eval x = .pointer (some ⟨b, 0, none⟩)) (X : Array Value) (t : TypeId) (hb : w.heap[b]? = some (.cells X t (0, 0))) (d : TypeDesc)
    (hu : P.underlying ty = some d) (hd : d.isRow = true) (hi : (P.info? ty).map (·.size) = some X.size)
    (h : wpList P ops Q rest (a.put op.dst (.agg X)) w) : wpList P ops Q (op :: rest) a w :=
  BigFrame.wpList_want hw fun _ hK => wp_load_mid ty x ho b 0 hx X.toList d (fun j v hv => by rw [cell_of_row w b (0 + j) X t (0, 0) hb]; simpa using hv) hu hd (by simpa using hi) (hK _ _ (by simpa using h))

/-- The cells of a frame with its components inside. -/
structure Fx (X : Array Value) (p wd ht rs n : Int) (C : Nat → Nat → Int) : Prop where
  size : X.size = 21
  c0 : X[0]? = some (.int .i64 p)
  c1 : X[1]? = some (.int .i64 wd)
  c2 : X[2]? = some (.int .i64 ht)
  c3 : X[3]? = some (.int .i64 rs)
  c4 : X[4]? = some (.int .i64 n)
  comp : ∀ i j, i < 4 → j < 4 → X[5 + i * 4 + j]? = some (.int .i64 (C i j))

theorem inRange (n lo hi : Int) (t : Bool) (ht : Hid (decide (lo ≤ n ∧ n ≤ hi) = t)) (w : World) :
    Calls Try.prog 37 #[.int .i64 n, .int .i64 lo, .int .i64 hi] w fun e w' => e = .returned (.bool t) ∧ w = w' := by
  by_cases h1 : lo ≤ n
  · by_cases h2 : n ≤ hi
    · have e : t = true := by rw [← unhide ht]; simp [h1, h2]
      subst e
      go_enter Try.func37, Try.ntmps37
      go_wp2
      go_ret
      exact ⟨by simp, rfl⟩
    · have e : t = false := by rw [← unhide ht]; simp [h2]
      subst e
      go_enter Try.func37, Try.ntmps37
      go_wp2
      go_ret
      exact ⟨by simp, rfl⟩
  · have e : t = false := by rw [← unhide ht]; simp [h1]
    subst e
    have hd : decide (lo ≤ n) = false := by simpa using h1
    go_enter Try.func37, Try.ntmps37
    go_wp2
    go_ret
    exact ⟨rfl, rfl⟩

theorem eqComps (w : World) : (Op.equalIn 9999 63 (.agg #[.int .i64 0, .int .i64 0, .int .i64 0, .int .i64 0, .int .i64 0, .int .i64 0, .int .i64 0, .int .i64 0, .int .i64 0, .int .i64 0, .int .i64 0, .int .i64 0, .int .i64 0, .int .i64 0, .int .i64 0, .int .i64 0]) (.agg #[.int .i64 0, .int .i64 0, .int .i64 0, .int .i64 0, .int .i64 0, .int .i64 0, .int .i64 0, .int .i64 0, .int .i64 0, .int .i64 0, .int .i64 0, .int .i64 0, .int .i64 0, .int .i64 0, .int .i64 0, .int .i64 0])).run Try.prog w = .ok true w := by kernel_rfl
theorem eqNought (w : World) : (Op.equalIn 9999 3 (.int .i64 0) (.int .i64 0)).run Try.prog w = .ok true w := by kernel_rfl

set_option maxHeartbeats 800000 in
theorem headOk (X : Array Value) (p wd ht rs n : Int) (C : Nat → Nat → Int) (hX : Fx X p wd ht rs n C) (t : Bool) (HT : Hid (headB p wd ht rs = t)) (w : World) :
    Calls Try.prog 36 #[.agg X] w fun e w' => e = .returned (.bool t) ∧ w.grownBy w' none := by
  have hs := hX.size
  have h0 := hX.c0
  have h1 := hX.c1
  have h2 := hX.c2
  have h3 := hX.c3
  have h0' : X[0] = .int .i64 p := by rw [Array.getElem?_eq_getElem (by omega)] at h0; simpa using h0
  have h1' : X[1] = .int .i64 wd := by rw [Array.getElem?_eq_getElem (by omega)] at h1; simpa using h1
  have h2' : X[2] = .int .i64 ht := by rw [Array.getElem?_eq_getElem (by omega)] at h2; simpa using h2
  have h3' : X[3] = .int .i64 rs := by rw [Array.getElem?_eq_getElem (by omega)] at h3; simpa using h3
  have hcase : (p = 8 ∨ p = 12) ∨ ((p != 8) = true ∧ (p != 12) = true ∧ (p == 8) = false ∧ (p == 12) = false) := by
    by_cases e8 : p = 8
    · exact .inl (.inl e8)
    · by_cases e12 : p = 12
      · exact .inl (.inr e12)
      · exact .inr (by simp [e8, e12])
  rcases hcase with hp | ⟨n8, n12, m8, m12⟩
  · obtain ⟨t1, HT1⟩ : ∃ t1, Hid (decide (1 ≤ wd ∧ wd ≤ 256) = t1) := ⟨_, rfl⟩
    obtain ⟨t2, HT2⟩ : ∃ t2, Hid (decide (1 ≤ ht ∧ ht ≤ 256) = t2) := ⟨_, rfl⟩
    obtain ⟨t4, HT4⟩ : ∃ t4, Hid (decide (0 ≤ rs ∧ rs ≤ 255) = t4) := ⟨_, rfl⟩
    have HP : Hid (t = (t1 && (t2 && (decide (wd * ht ≤ 16384) && t4)))) := by
      have e : (p == 8 || p == 12) = true := by rcases hp with rfl | rfl <;> rfl
      unfold Hid; rw [← unhide HT, headB, e, unhide HT1, unhide HT2, unhide HT4, Bool.true_and]
    clear HT
    cases t1
    · rcases hp with rfl | rfl
      all_goals
        go_enter Try.func36, Try.ntmps36
        go_wp2_with fail
        refine (inRange wd 1 256 _ HT1 _).mono ?_
        rintro e w1 ⟨rfl, rfl⟩
        go_wp2
        go_ret
        exact ⟨ret_bool (by rw [unhide HP]; rfl), grown_alloc (World.grownBy.refl _ _) _⟩
    · cases t2
      · rcases hp with rfl | rfl
        all_goals
          go_enter Try.func36, Try.ntmps36
          go_wp2_with fail
          refine (inRange wd 1 256 _ HT1 _).mono ?_
          rintro e w1 ⟨rfl, rfl⟩
          go_wp2_with fail
          refine (inRange ht 1 256 _ HT2 _).mono ?_
          rintro e w1 ⟨rfl, rfl⟩
          go_wp2
          go_ret
          exact ⟨ret_bool (by rw [unhide HP]; rfl), grown_alloc (World.grownBy.refl _ _) _⟩
      · have hb1 := of_decide_eq_true (unhide HT1)
        have hb2 := of_decide_eq_true (unhide HT2)
        have hm := mul_side hb1 hb2
        have hwr := i64_in (wd * ht) (by omega)
        clear hm hb1 hb2
        cases t3 : decide (wd * ht ≤ 16384)
        · rw [t3] at HP
          rcases hp with rfl | rfl
          all_goals
            go_enter Try.func36, Try.ntmps36
            go_wp2_with fail
            refine (inRange wd 1 256 _ HT1 _).mono ?_
            rintro e w1 ⟨rfl, rfl⟩
            go_wp2_with fail
            refine (inRange ht 1 256 _ HT2 _).mono ?_
            rintro e w1 ⟨rfl, rfl⟩
            go_wp2
            go_ret
            exact ⟨ret_bool (by rw [unhide HP]; rfl), grown_alloc (World.grownBy.refl _ _) _⟩
        · rw [t3] at HP
          rcases hp with rfl | rfl
          all_goals
            go_enter Try.func36, Try.ntmps36
            go_wp2_with fail
            refine (inRange wd 1 256 _ HT1 _).mono ?_
            rintro e w1 ⟨rfl, rfl⟩
            go_wp2_with fail
            refine (inRange ht 1 256 _ HT2 _).mono ?_
            rintro e w1 ⟨rfl, rfl⟩
            go_wp2_with fail
            refine (inRange rs 0 255 _ HT4 _).mono ?_
            rintro e w1 ⟨rfl, rfl⟩
            go_wp2
            go_ret
            exact ⟨ret_bool (by rw [unhide HP]; rfl), grown_alloc (World.grownBy.refl _ _) _⟩
  · have HP : Hid (t = false) := by unfold Hid; rw [← unhide HT, headB, m8, m12]; rfl
    clear HT m8 m12
    go_enter Try.func36, Try.ntmps36
    go_wp2
    go_ret
    exact ⟨ret_bool (by rw [unhide HP]), grown_alloc (World.grownBy.refl _ _) _⟩

end Go.Proofs.Ytgknninkfdgebaa
