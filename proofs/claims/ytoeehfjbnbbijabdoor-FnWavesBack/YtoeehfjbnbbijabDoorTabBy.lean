/-
  What a table leaves of a block, in the program.
-/
import Derived.Test.YtoeehfjbnbbijabDoorTabSpec
namespace Go.Proofs.YtoeehfjbnbbijabDoor
open Go.RowKit Go.Shelf

def divI (n d : Int) : Int := (2 * n + d) / (2 * d)
def quantI (n s : Int) : Int := if n < 0 then -divI (-n) s else divI n s
def dequantI (n s : Int) : Int := min (max (n * s) (-32767)) 32767
theorem divI_bounds {n d : Int} (hn : 0 ≤ n ∧ n ≤ 200000) (hd : 1 ≤ d ∧ d ≤ 2000) : 0 ≤ divI n d ∧ divI n d ≤ 500000 := by
  unfold divI
  refine ⟨Int.ediv_nonneg (by omega) (by omega), ?_⟩
  have := Int.ediv_le_self (2 * d) (show 0 ≤ 2 * n + d by omega)
  omega

theorem mul_bounds {n s : Int} (hn : -32767 ≤ n ∧ n ≤ 32767) (hs : 1 ≤ s ∧ s ≤ 1023) : -33520641 ≤ n * s ∧ n * s ≤ 33520641 := by
  constructor
  · have h1 : -32767 * s ≤ n * s := Int.mul_le_mul_of_nonneg_right hn.1 (by omega)
    omega
  · have h1 : n * s ≤ 32767 * s := Int.mul_le_mul_of_nonneg_right hn.2 (by omega)
    omega

def quantL (zs xs : List Int) : List Int := made (fun k => quantI (zs.getD k 0) (xs.getD k 0))
def dequantL (zs xs : List Int) : List Int := made (fun k => dequantI (zs.getD k 0) (xs.getD k 0))

end Go.Proofs.YtoeehfjbnbbijabDoor
