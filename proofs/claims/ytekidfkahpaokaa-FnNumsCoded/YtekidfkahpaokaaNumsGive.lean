/-
  What the program is asked to give for the laws of chapter 10.
-/
import Derived.Test.YtekidfkahpaokaaNumSpec4
namespace Go.Proofs.Ytekidfkahpaokaa
open Go.RowKit

def ImplBinsOf : Prop := ∀ (n base : Int) (w : World),
  Calls Try.prog 11 #[.int .i64 n, .int .i64 base] w fun e w' => ∃ bo cap', e = .returned (.slice bo (binsOfG n base).length cap') ∧ w'.ownsRow w.heap.size 30 2 (.slice bo (binsOfG n base).length cap') (binsOfG n base).length (flat (binsOfG n base)) ∧ w.grownBy w' none

def ImplList : Prop := ∀ (ao : Option Addr) (n cap : Nat) (xs : List Int) (base : Int) (w : World), Rd .i64 w ao n xs → n ≤ 1048576 →
  Calls Try.prog 9 #[.slice ao n cap, .int .i64 base] w fun e w' => ∃ bo cap', e = .returned (.slice bo (listG xs base).length cap') ∧ w'.ownsRow w.heap.size 30 2 (.slice bo (listG xs base).length cap') (listG xs base).length (flat (listG xs base)) ∧ w.grownBy w' none

def ImplReadN : Prop := ∀ (bo : Option Addr) (m bc : Nat) (bz : List Int) (n base : Int) (w : World), Rd .u8 w bo m bz → (∀ i, 0 ≤ bz.getD i 0 ∧ bz.getD i 0 ≤ 255) → m ≤ 1048576 →
  Calls Try.prog 13 #[.slice bo m bc, .int .i64 n, .int .i64 base] w fun e w' => ∃ co cc, e = .returned (.slice co (readNG bz n base).length cc) ∧ w'.ownsRow w.heap.size 3 1 (.slice co (readNG bz n base).length cc) (readNG bz n base).length ((readNG bz n base).map (Value.int .i64)) ∧ w.grownBy w' none

theorem listG_len (xs : List Int) (base : Int) : (listG xs base).length ≤ 126976 := by
  by_cases h : listG xs base = []
  · rw [h]; simp
  · obtain ⟨h1, _, h3, h4⟩ := listG_pos h
    rw [h4]
    have := bins_flat_len base.toNat xs h3
    omega

end Go.Proofs.Ytekidfkahpaokaa
