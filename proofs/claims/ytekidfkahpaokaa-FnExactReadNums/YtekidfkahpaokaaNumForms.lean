/-
  What BinsOf, ListBins and ReadNums give, in the form that the laws' walks take.
-/
import Derived.Test.YtekidfkahpaokaaNumsGive
import Derived.Test.YtekidfkahpaokaaBinHeld
import Derived.Test.YtekidfkahpaokaaBytes
import Derived.Test.YtekidfkahpaokaaIntRows
namespace Go.Proofs.Ytekidfkahpaokaa
open Go.RowKit

theorem binsOf_short (n base : Int) : (binsOfG n base).length ≤ 31 := by
  unfold binsOfG
  split
  · rename_i hc
    rw [Bool.and_eq_true] at hc
    exact binsI_len hc.1
  · simp
theorem readNG_short (bz : List Int) (n base : Int) : (readNG bz n base).length ≤ 4096 := by
  unfold readNG
  split
  · rename_i hc
    rw [Bool.and_eq_true] at hc
    have := of_decide_eq_true hc.1
    rw [readN_len]
    omega
  · simp

theorem implBinsOfL (HI : Hid ImplBinsOf) (n base : Int) (L : List (Int × Int)) (HL : Hid (binsOfG n base = L)) (w : World) :
    Calls Try.prog 11 #[.int .i64 n, .int .i64 base] w fun e w' => ∃ bo cap', e = .returned (.slice bo L.length cap') ∧ w'.ownsRow w.heap.size 30 2 (.slice bo L.length cap') L.length (flat L) ∧ w.grownBy w' none := by
  have h := unhide HI n base w
  rw [unhide HL] at h
  exact h

theorem implListL (HI : Hid ImplList) (ao : Option Addr) (n cap : Nat) (xs : List Int) (base : Int) (w : World) (hr : Rd .i64 w ao n xs) (hn : n ≤ 1048576) (L : List (Int × Int)) (HL : Hid (listG xs base = L)) :
    Calls Try.prog 9 #[.slice ao n cap, .int .i64 base] w fun e w' => ∃ bo cap', e = .returned (.slice bo L.length cap') ∧ w'.ownsRow w.heap.size 30 2 (.slice bo L.length cap') L.length (flat L) ∧ w.grownBy w' none := by
  have h := unhide HI ao n cap xs base w hr hn
  rw [unhide HL] at h
  exact h

theorem implReadNL (HI : Hid ImplReadN) (bo : Option Addr) (m bc : Nat) (bz : List Int) (n base : Int) (w : World) (hz : Rd .u8 w bo m bz) (hb : ∀ i, 0 ≤ bz.getD i 0 ∧ bz.getD i 0 ≤ 255) (hm : m ≤ 1048576) (L : List Int) (HL : Hid (readNG bz n base = L)) :
    Calls Try.prog 13 #[.slice bo m bc, .int .i64 n, .int .i64 base] w fun e w' => ∃ co cc, e = .returned (.slice co L.length cc) ∧ w'.ownsRow w.heap.size 3 1 (.slice co L.length cc) L.length (L.map (Value.int .i64)) ∧ w.grownBy w' none := by
  have h := unhide HI bo m bc bz n base w hz hb hm
  rw [unhide HL] at h
  exact h

end Go.Proofs.Ytekidfkahpaokaa
