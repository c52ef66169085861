/-
  Blocks that are drawn off a code.
-/
import Derived.Test.YtoeehfjbnbbijabTabDraw
namespace Go.Proofs.Ytoeehfjbnbbijab
open Go.RowKit

theorem lawBig5 (ao : Option Addr) (n cap : Nat) (t : Bool) (w : World) (h : Hid (decide ((1048576 : Int) < (n : Int)) = t)) :
    Calls Try.prog 5 #[.slice ao n cap] w fun e w' => e = .returned (.bool t) ∧ w = w' := by
  go_enter Try.func5, Try.ntmps5
  go_wp2
  go_ret
  exact ⟨ret_bool (by rw [← unhide h]), rfl⟩

theorem drawToZig (ao : Option Addr) (n cap : Nat) (cs : List Int) (w : World) (hr : Rd .u8 w ao n cs) (hb : ∀ i, 0 ≤ cs.getD i 0 ∧ cs.getD i 0 ≤ 255) (hn : n ≤ 1048576) :
    Calls Try.prog 6 #[.slice ao n cap] w fun e w' => ∃ so m sc, e = .returned (.slice so m sc) ∧ (∃ xs, Rd .i64 w' so m xs) ∧ m ≤ 65 ∧ w.grownBy w' none := by
  have HR := hide hr
  have HB := hide hb
  clear hr hb
  go_enter Try.func6, Try.ntmps6
  go_wp2_with fail
  refine (open_of ao n cap cs w (unhide HR) (unhide HB) hn).mono ?_
  rintro e w1 ⟨rfl, hc, g1⟩
  go_wp2_with fail
  refine (drawAny5 w.heap.size ao n cap 0 cs w1 hc (by omega) 900 (by omega)).mono ?_
  rintro e w2 ⟨so, m, sc, rfl, hd⟩
  go_wp2
  go_ret
  exact ⟨_, _, _, rfl, hd.rd, hd.len, grown_new g1 hd.grown (fun g e => by simp at e; omega)⟩

end Go.Proofs.Ytoeehfjbnbbijab
