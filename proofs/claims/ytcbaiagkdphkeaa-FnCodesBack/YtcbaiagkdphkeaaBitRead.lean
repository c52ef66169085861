/-
  The program's reader of bits: the next bit, and what is left.
-/
import Derived.Test.YtcbaiagkdphkeaaSame
import Derived.Test.YtcbaiagkdphkeaaNumPure
import Derived.Test.YtcbaiagkdphkeaaFieldsOk
namespace Go.Proofs.Ytcbaiagkdphkeaa
open Go.RowKit

/-- The reader of bits, as it lies in memory. -/
def Rr (w : World) (tb : Nat) (ao : Option Addr) (n cap p : Nat) : Prop := w.heap[tb]? = some (.cells #[.slice ao n cap, .int .i64 p] 69 (0, 0))

section
variable {w : World} {tb : Nat} {ao : Option Addr} {n cap p : Nat}
theorem Rr.c0 (h : Rr w tb ao n cap p) : w.cell? ⟨tb, 0, none⟩ = some (.slice ao n cap) := by rw [cell_of_row w tb 0 _ _ (0, 0) h]; rfl
theorem Rr.c1 (h : Rr w tb ao n cap p) : w.cell? ⟨tb, 1, none⟩ = some (.int .i64 p) := by rw [cell_of_row w tb 1 _ _ (0, 0) h]; rfl
theorem Rr.fz (h : Rr w tb ao n cap p) (j : Nat) : w.frozen? ⟨tb, j, none⟩ = false := frozen_of_row w tb j _ _ h
theorem Rr.lt (h : Rr w tb ao n cap p) : tb < w.heap.size := by obtain ⟨h, _⟩ := Array.getElem?_eq_some_iff.1 h; exact h
theorem Rr.next (h : Rr w tb ao n cap p) (q : Nat) : Rr (w.setCell ⟨tb, 1, none⟩ (.int .i64 q)) tb ao n cap q := heap_setCell_same w tb 1 _ _ _ h
theorem Rr.grown {w' : World} (h : Rr w tb ao n cap p) (hg : w.grownBy w' none) : Rr w' tb ao n cap p := (hg.block tb h.lt (by simp)).trans h
end

set_option maxHeartbeats 800000 in
theorem implNext (tb : Nat) (ao : Option Addr) (n cap p : Nat) (zs : List Int) (w : World) (ht : Rr w tb ao n cap p) (hr : Rd .u8 w ao n zs) (hb : ∀ i, 0 ≤ zs.getD i 0 ∧ zs.getD i 0 ≤ 255) (hn : n ≤ 4194304) (hp : p < 8 * n) :
    Calls Try.prog 65 #[.pointer (some ⟨tb, 0, none⟩)] w fun e w' => e = .returned (.int .i64 (bitAt zs p)) ∧ Rr w' tb ao n cap (p + 1) ∧ w.grownBy w' (some tb) := by
  obtain ⟨hl, hc⟩ := hr
  obtain ⟨b, off, rfl, hcb⟩ := hc (p / 8) (by omega)
  have c0 := ht.c0
  have c1 := ht.c1
  have f1 := ht.fz 1
  have hbb := hb (p / 8)
  have HB : Hid (bitAt zs p = (zs.getD (p / 8) 0) / 2 ^ (7 - p % 8) % 2) := rfl
  generalize zs.getD (p / 8) 0 = x at hcb hbb HB
  clear hc hb
  go_enter Try.func65, Try.ntmps65
  go_wp2
  go_quiet (fail)
  go_wp2
  go_ret
  have hs := shr_bound x hbb.1 hbb.2 (7 - p % 8)
  refine ⟨ret_int (a := wrap64 (bits BinOp.and IntKind.u8 (x / 2 ^ (7 - p % 8)) 1)) ?_, ?_, ?_⟩
  · rw [and1_u8 _ hs.1 (by omega), unhide HB]; exact IntWalk.wrap64_in _ (by omega)
  · exact Rr.next (w := w.drewN _) ht (p + 1)
  · exact grown_set' w _ tb 1 _

set_option maxHeartbeats 800000 in
theorem implLeftR (tb : Nat) (ao : Option Addr) (n cap p : Nat) (w : World) (ht : Rr w tb ao n cap p) (hn : n ≤ 4194304) (hp : p ≤ 8 * n) :
    Calls Try.prog 64 #[.pointer (some ⟨tb, 0, none⟩)] w fun e w' => e = .returned (.int .i64 (8 * n - p)) ∧ ∃ q, w' = w.drewN q := by
  have c0 := ht.c0
  have c1 := ht.c1
  go_enter Try.func64, Try.ntmps64
  go_wp2
  go_quiet (fail)
  go_wp2
  go_ret
  exact ⟨rfl, _, rfl⟩


end Go.Proofs.Ytcbaiagkdphkeaa
