/-
  The passes of a scan in the program.
-/
import Derived.Test.YtnjcmlmgjoaeeaaScanSpec
import Derived.Test.YtnjcmlmgjoaeeaaFrameImpl
import Derived.Test.YtnjcmlmgjoaeeaaGeoHasC
import Derived.Test.YtnjcmlmgjoaeeaaHeldTail
namespace Go.Proofs.Ytnjcmlmgjoaeeaa
open Go.RowKit

/-- High and Low are those of a pass. -/
def bitsB (a : Scn) : Bool := decide (0 ≤ a.lo ∧ a.lo ≤ 13) && (decide (a.hi = 0) || decide (a.hi = a.lo + 1))
def pV (a : Scn) : Value := if a.hi = 0 then .iface 118 (.agg #[.int .i64 a.lo]) else .iface 120 (.agg #[.int .i64 a.hi, .int .i64 a.lo])
def pVN (a : Scn) : Value := if bitsB a = true then pV a else .nilIface

set_option maxRecDepth 20000 in
set_option maxHeartbeats 1600000 in
theorem passOf (w : World) (v0 : Value) (a : Scn) (pv : Value) (HP : Hid (pVN a = pv)) :
    Calls Try.prog 84 #[scV v0 a] w fun e w' => e = .returned pv ∧ w.grownBy w' none := by
  obtain ⟨cs, fr, to, hi, lo⟩ := a
  have hp := unhide HP
  unfold pVN bitsB pV at hp
  unfold scV
  dsimp only at hp ⊢
  have HG0 : Hid (w.grownBy (w.alloc (.cells #[v0, .int .i64 fr, .int .i64 to, .int .i64 hi, .int .i64 lo] 38)) none) := World.grownBy_alloc _ _ _
  obtain ⟨c0, c1, c2, c3, c4⟩ := scanCells (heap_alloc_new w (.cells #[v0, .int .i64 fr, .int .i64 to, .int .i64 hi, .int .i64 lo] 38))
  obtain ⟨b3, HB3⟩ : ∃ b, Hid (decide (0 ≤ lo ∧ lo ≤ 13) = b) := ⟨_, rfl⟩
  rw [unhide HB3] at hp
  clear HP
  go_enter Try.func84, Try.ntmps84
  go_wp2_with fail
  refine (inRange lo 0 13 b3 HB3 _).mono ?_
  rintro e w1 ⟨rfl, rfl⟩
  cases b3 with
  | false =>
    have e : pv = .nilIface := by rw [← hp]; simp
    subst e
    clear hp
    go_wp2
    go_ret
    exact ⟨rfl, unhide HG0⟩
  | true =>
    have hlo := of_decide_eq_true (unhide HB3)
    have e1 := i64_in (lo + 1) (by omega)
    by_cases h0 : hi = 0
    · have n0 : (hi == 0) = true := by simp [h0]
      have e : pv = .iface 118 (.agg #[.int .i64 lo]) := by rw [← hp]; simp [h0]
      subst e
      clear h0 hp
      go_wp2
      go_ret
      exact ⟨rfl, unhide HG0⟩
    · have n0 : (hi == 0) = false := by simp [h0]
      by_cases h1 : hi = lo + 1
      · have n1 : (hi == lo + 1) = true := by simp [h1]
        have e : pv = .iface 120 (.agg #[.int .i64 hi, .int .i64 lo]) := by rw [← hp, if_neg h0]; simp [h1]
        subst e
        clear h0 h1 hp
        go_wp2
        go_ret
        exact ⟨rfl, unhide HG0⟩
      · have n1 : (hi == lo + 1) = false := by simp [h1]
        have e : pv = .nilIface := by rw [← hp]; simp [h0, h1]
        subst e
        clear h0 h1 hp
        go_wp2
        go_ret
        exact ⟨rfl, unhide HG0⟩

theorem firstBit (lo : Int) (w : World) : Calls Try.prog 107 #[.agg #[.int .i64 lo]] w fun e w' => e = .returned (.int .i64 lo) ∧ w.grownBy w' none := by
  go_enter Try.func107, Try.ntmps107
  go_wp2
  go_ret
  exact ⟨rfl, World.grownBy_alloc _ _ _⟩
theorem refiningBit (hi lo : Int) (w : World) : Calls Try.prog 108 #[.agg #[.int .i64 hi, .int .i64 lo]] w fun e w' => e = .returned (.int .i64 lo) ∧ w.grownBy w' none := by
  go_enter Try.func108, Try.ntmps108
  go_wp2
  go_ret
  exact ⟨rfl, World.grownBy_alloc _ _ _⟩

theorem asFirst (lo : Int) (w : World) : (Instr.typeAssert (.iface 118 (.agg #[.int .i64 lo])) 113 118 true).run Try.prog w = .ok (.tuple #[.agg #[.int .i64 lo], .bool true]) w := by kernel_rfl
theorem asFirst_no (hi lo : Int) (w : World) : (Instr.typeAssert (.iface 120 (.agg #[.int .i64 hi, .int .i64 lo])) 113 118 true).run Try.prog w = .ok (.tuple #[.agg #[.int .i64 0], .bool false]) w := by kernel_rfl
theorem asRefining (hi lo : Int) (w : World) : (Instr.typeAssert (.iface 120 (.agg #[.int .i64 hi, .int .i64 lo])) 113 120 true).run Try.prog w = .ok (.tuple #[.agg #[.int .i64 hi, .int .i64 lo], .bool true]) w := by kernel_rfl
theorem methFirst (lo : Int) (w : World) : (method 238 118 (.agg #[.int .i64 lo]) "loop.example/g00139/impl.bit").run Try.prog w = .ok (107, .agg #[.int .i64 lo]) w := by kernel_rfl
theorem methRefining (hi lo : Int) (w : World) : (method 238 120 (.agg #[.int .i64 hi, .int .i64 lo]) "loop.example/g00139/impl.bit").run Try.prog w = .ok (108, .agg #[.int .i64 hi, .int .i64 lo]) w := by kernel_rfl
theorem notNilP (t : TypeId) (v : Value) (w : World) : (binOp .neq 113 (.iface t v) .nilIface).run Try.prog w = .ok (.bool true) w := by kernel_rfl
theorem nilP (w : World) : (binOp .neq 113 .nilIface .nilIface).run Try.prog w = .ok (.bool false) w := by kernel_rfl

set_option maxRecDepth 20000 in
set_option maxHeartbeats 1600000 in
theorem mayTell (w : World) (hi lo : Int) (last : Int) :
    Calls Try.prog 85 #[pV ⟨[], 0, 0, hi, lo⟩, .int .i64 last] w fun e w' => e = .returned (.bool (decide (last = if hi = 0 then -1 else hi))) ∧ w.grownBy w' none := by
  unfold pV
  dsimp only
  by_cases h0 : hi = 0
  · rw [if_pos h0, if_pos h0]
    have h1 := fun w => asFirst lo w
    have e : decide (last = -1) = (last == -1) := by by_cases h : last = -1 <;> simp [h]
    rw [e]
    clear e h0
    go_enter Try.func85, Try.ntmps85
    go_wp2
    go_ret
    exact ⟨rfl, World.grownBy_alloc _ _ _⟩
  · rw [if_neg h0, if_neg h0]
    have h1 := fun w => asFirst_no hi lo w
    have h2 := fun w => asRefining hi lo w
    have e : decide (last = hi) = (last == hi) := by by_cases h : last = hi <;> simp [h]
    rw [e]
    clear e h0
    go_enter Try.func85, Try.ntmps85
    go_wp2
    go_ret
    exact ⟨rfl, World.grownBy_alloc _ _ _⟩

end Go.Proofs.Ytnjcmlmgjoaeeaa
