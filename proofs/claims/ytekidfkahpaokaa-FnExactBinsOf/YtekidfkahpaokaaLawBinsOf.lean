/-
  The walk of the law on BinsOf.
-/
import Derived.Test.YtekidfkahpaokaaNumForms
namespace Go.Proofs.Ytekidfkahpaokaa
open Go.RowKit

set_option maxHeartbeats 3200000 in
theorem lawBinsOf (HI : Hid ImplBinsOf) (z b : Int) (w : World) :
    Calls Try.prog 4 #[.int .i64 z, .int .i64 b] w fun e w' => e = .returned (.bool true) ∧ Below w.heap.size w w' := by
  all_goals
    obtain ⟨L, HL⟩ : ∃ L, Hid (binsOfG z b = L) := ⟨_, rfl⟩
    have hL : L.length ≤ 4194304 := by have := binsOf_short z b; rw [unhide HL] at this; omega
    go_enter Try.func4, Try.ntmps4
    go_wp2_with fail
    refine (specBinsOf z b L HL w).mono ?_
    rintro e w1 ⟨Wo1, Wc1, rfl, o1, g1⟩
    have Z1 := hide g1.size
    have G1 := g1
    have B1 : Hid (∀ k, Value.ownBlock _ = some k → w.heap.size ≤ k ∧ k < w1.heap.size) := hide (fun k hk => o1.lt k hk)
    clear g1
    go_wp2_with fail
    refine (implBinsOfL HI z b L HL w1).mono ?_
    rintro e w2 ⟨Yo2, Yc2, rfl, o2, g2⟩
    have Z2 := hide g2.size
    have G2 := grown_trans G1 g2
    have W2 := own_grown o1 g2
    have B2 : Hid (∀ k, Value.ownBlock _ = some k → w1.heap.size ≤ k ∧ k < w2.heap.size) := hide (fun k hk => o2.lt k hk)
    clear o1 G1 g2
    go_wp2_with fail
    refine (eqBinS10 _ _ _ _ _ L w2 (own_rdF o2) (own_rdF W2) hL).mono ?_
    rintro e w3 ⟨rfl, g3⟩
    have Z3 := hide g3.size
    have G3 := grown_trans G2 g3
    have W3 := own_grown W2 g3
    have Y3 := own_grown o2 g3
    clear W2 o2 G2 g3
    go_wp2_with fail
    refine (markBinS10 _ _ _ _ _ 1 w3 Y3 hL (by omega) (by omega)).mono ?_
    rintro e w4 ⟨rfl, o4, g4⟩
    have Z4 := hide g4.size
    have G4 := grown_new G3 g4 (fun g e => by have := unhide B2 g e; have := unhide Z1; have := unhide Z2; have := unhide Z3; have := unhide Z4; omega)
    have W4 := own_beneath W3 g4 (fun g g' h h' => by have := unhide B1 g h; have := unhide B2 g' h'; have := unhide Z1; have := unhide Z2; have := unhide Z3; have := unhide Z4; omega)
    clear W3 Y3 G3 g4
    have hneg2 : decide ((1 + 2 * (L.length : Int)) < 0) = false := by simp; omega
    go_wp2_with fail
    refine (heldBinS10 _ _ _ 1 w4 (own_rdP o4) hL (by omega) (by omega)).mono ?_
    rintro e w5 ⟨rfl, g5⟩
    have Z5 := hide g5.size
    have G5 := grown_trans G4 g5
    have W5 := own_grown W4 g5
    have Y5 := own_grown o4 g5
    clear W4 o4 G4 g5
    go_wp2_with fail
    refine (implBinsOfL HI z b L HL w5).mono ?_
    rintro e w6 ⟨Ho6, Hc6, rfl, o6, g6⟩
    have Z6 := hide g6.size
    have G6 := grown_trans G5 g6
    have W6 := own_grown W5 g6
    have Y6 := own_grown Y5 g6
    have B6 : Hid (∀ k, Value.ownBlock _ = some k → w5.heap.size ≤ k ∧ k < w6.heap.size) := hide (fun k hk => o6.lt k hk)
    clear W5 Y5 G5 g6
    go_wp2_with fail
    refine (eqBinS10 _ _ _ _ _ L w6 (own_rdF o6) (own_rdF W6) hL).mono ?_
    rintro e w7 ⟨rfl, g7⟩
    have Z7 := hide g7.size
    have G7 := grown_trans G6 g7
    have W7 := own_grown W6 g7
    have Y7 := own_grown Y6 g7
    have H7 := own_grown o6 g7
    clear W6 Y6 o6 G6 g7
    clear H7
    clear W7
    go_wp2_with fail
    refine (heldBinS10 _ _ _ 1 w7 (own_rdP Y7) hL (by omega) (by omega)).mono ?_
    rintro e w8 ⟨rfl, g8⟩
    have Z8 := hide g8.size
    have G8 := grown_trans G7 g8
    have Y8 := own_grown Y7 g8
    clear Y7 G7 g8
    go_wp2
    go_ret
    exact ⟨rfl, grown_below G8⟩

end Go.Proofs.Ytekidfkahpaokaa
