/-
  The walk of the law on Plain.
-/
import Derived.Test.YtoeehfjbnbbijajDoorPlainImpl
import Derived.Test.YtoeehfjbnbbijajDoorInts
namespace Go.Proofs.YtoeehfjbnbbijajDoor
open Go.RowKit

set_option maxHeartbeats 1600000 in
theorem lawPlain (kind : Int) (w : World) (hq : Pk w) :
    Calls Tryd.prog 3 #[.int .i64 kind] w fun e w' => e = .returned (.bool true) ∧ Below w.heap.size w w' := by
  obtain ⟨L, HL⟩ : ∃ L, Hid (plainA kind = L) := ⟨_, rfl⟩
  have hL : L.length ≤ 4194304 := by rw [← unhide HL, plainA]; split <;> simp [plainL, made]
  go_enter Tryd.func3, Tryd.ntmps3
  go_wp2_with fail
  refine (specPlain kind w L HL).mono ?_
  rintro e w1 ⟨wo, wc, rfl, o1, g1⟩
  go_wp2_with fail
  refine (implPlain kind w1 (hq.grown g1) L HL).mono ?_
  rintro e w2 ⟨yo, yc, rfl, o2, g2⟩
  have W2 := own_grown o1 g2
  have G2 := grown_trans g1 g2
  go_wp2_with fail
  refine (eqIntS _ _ _ _ _ L w2 (own_rd o2) (own_rd W2) hL).mono ?_
  rintro e w3 ⟨rfl, g3⟩
  have W3 := own_grown W2 g3
  have Y3 := own_grown o2 g3
  have G3 := grown_trans G2 g3
  go_wp2_with fail
  refine (markIntS _ _ _ _ _ 1 w3 Y3 hL (by omega) (by omega)).mono ?_
  rintro e w4 ⟨rfl, o4, g4⟩
  have W4 := own_beneath W3 g4 (fun g g' h h' => by have := o1.lt g h; have := (o2.lt g' h').1; omega)
  have G4 := grown_new G3 g4 (fun g e => by have := (o2.lt g e).1; have := g1.size; omega)
  have hneg2 : decide ((1 + (L.length : Int)) < 0) = false := by simp; omega
  go_wp2_with fail
  refine (heldIntS _ _ _ 1 w4 (own_rd o4) hL (by omega) (by omega)).mono ?_
  rintro e w5 ⟨rfl, g5⟩
  have W5 := own_grown W4 g5
  have Y5 := own_grown o4 g5
  have G5 := grown_trans G4 g5
  go_wp2_with fail
  refine (implPlain kind w5 (hq.grown G5) L HL).mono ?_
  rintro e w6 ⟨ho, hc, rfl, o6, g6⟩
  have W6 := own_grown W5 g6
  have Y6 := own_grown Y5 g6
  have G6 := grown_trans G5 g6
  go_wp2_with fail
  refine (eqIntS _ _ _ _ _ L w6 (own_rd o6) (own_rd W6) hL).mono ?_
  rintro e w7 ⟨rfl, g7⟩
  have Y7 := own_grown Y6 g7
  have G7 := grown_trans G6 g7
  go_wp2_with fail
  refine (heldIntS _ _ _ 1 w7 (own_rd Y7) hL (by omega) (by omega)).mono ?_
  rintro e w8 ⟨rfl, g8⟩
  have G8 := grown_trans G7 g8
  go_wp2
  go_ret
  exact ⟨rfl, grown_below G8⟩

end Go.Proofs.YtoeehfjbnbbijajDoor
