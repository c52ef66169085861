/-
  The walks of the specification's taker of bits: one bit.
-/
import Derived.Test.YtcbaiagkdphkeabRows
import Derived.Test.YtcbaiagkdphkeabNumPure
namespace Go.Proofs.Ytcbaiagkdphkeab
open Go.RowKit

/-- The taker of bits, as it lies in memory. -/
def Tk (w : World) (tb : Nat) (ao : Option Addr) (n cap p : Nat) (bad : Bool) : Prop := w.heap[tb]? = some (.cells #[.slice ao n cap, .int .i64 p, .bool bad] 45 (0, 0))

section
variable {w : World} {tb : Nat} {ao : Option Addr} {n cap p : Nat} {bad : Bool}
theorem Tk.c0 (h : Tk w tb ao n cap p bad) : w.cell? ⟨tb, 0, none⟩ = some (.slice ao n cap) := by rw [cell_of_row w tb 0 _ _ (0, 0) h]; rfl
theorem Tk.c1 (h : Tk w tb ao n cap p bad) : w.cell? ⟨tb, 1, none⟩ = some (.int .i64 p) := by rw [cell_of_row w tb 1 _ _ (0, 0) h]; rfl
theorem Tk.c2 (h : Tk w tb ao n cap p bad) : w.cell? ⟨tb, 2, none⟩ = some (.bool bad) := by rw [cell_of_row w tb 2 _ _ (0, 0) h]; rfl
theorem Tk.fz (h : Tk w tb ao n cap p bad) (j : Nat) : w.frozen? ⟨tb, j, none⟩ = false := frozen_of_row w tb j _ _ h
theorem Tk.lt (h : Tk w tb ao n cap p bad) : tb < w.heap.size := by obtain ⟨h, _⟩ := Array.getElem?_eq_some_iff.1 h; exact h
theorem Tk.next (h : Tk w tb ao n cap p bad) (q : Nat) : Tk (w.setCell ⟨tb, 1, none⟩ (.int .i64 q)) tb ao n cap q bad := heap_setCell_same w tb 1 _ _ _ h
theorem Tk.spoil (h : Tk w tb ao n cap p bad) : Tk (w.setCell ⟨tb, 2, none⟩ (.bool true)) tb ao n cap p true := heap_setCell_same w tb 2 _ _ _ h
theorem Tk.grown {w' : World} (h : Tk w tb ao n cap p bad) (hg : w.grownBy w' none) : Tk w' tb ao n cap p bad := (hg.block tb h.lt (by simp)).trans h
end

set_option maxHeartbeats 800000 in
theorem specBit (tb : Nat) (ao : Option Addr) (n cap p : Nat) (bad : Bool) (zs : List Int) (w : World) (ht : Tk w tb ao n cap p bad) (hr : Rd .u8 w ao n zs) (hb : ∀ i, 0 ≤ zs.getD i 0 ∧ zs.getD i 0 ≤ 255) (hn : n ≤ 4194304) (hp : p < 8 * n) :
    Calls Try.prog 39 #[.pointer (some ⟨tb, 0, none⟩)] w fun e w' => e = .returned (.int .i64 (bitAt zs p)) ∧ Tk w' tb ao n cap (p + 1) bad ∧ w.grownBy w' (some tb) := by
  obtain ⟨hl, hc⟩ := hr
  obtain ⟨b, off, rfl, hcb⟩ := hc (p / 8) (by omega)
  have c0 := ht.c0
  have c1 := ht.c1
  have f1 := ht.fz 1
  have hbb := hb (p / 8)
  have HB : Hid (bitAt zs p = (zs.getD (p / 8) 0) / 2 ^ (7 - p % 8) % 2) := rfl
  generalize zs.getD (p / 8) 0 = x at hcb hbb HB
  clear hc hb
  have hge : decide ((8 * n : Int) ≤ (p : Int)) = false := by simp; omega
  go_enter Try.func39, Try.ntmps39
  go_wp2
  go_quiet (fail)
  go_wp2
  go_quiet (fail)
  go_wp2
  go_ret
  have hs := shr_bound x hbb.1 hbb.2 (7 - p % 8)
  refine ⟨ret_int (a := bits BinOp.and IntKind.i64 (x / 2 ^ (7 - p % 8)) 1) ?_, ?_, ?_⟩
  · rw [and1_i64 _ hs.1 (by omega), unhide HB]
  · exact Tk.next (w := w.drewN _) ht (p + 1)
  · exact grown_set' w _ tb 1 _

set_option maxHeartbeats 800000 in
theorem specBitEnd (tb : Nat) (ao : Option Addr) (n cap p : Nat) (bad : Bool) (w : World) (ht : Tk w tb ao n cap p bad) (hn : n ≤ 4194304) (hp : 8 * n ≤ p) :
    Calls Try.prog 39 #[.pointer (some ⟨tb, 0, none⟩)] w fun e w' => e = .returned (.int .i64 0) ∧ Tk w' tb ao n cap p true ∧ w.grownBy w' (some tb) := by
  have c0 := ht.c0
  have c1 := ht.c1
  have c2 := ht.c2
  have f1 := ht.fz 2
  have hge : decide ((8 * n : Int) ≤ (p : Int)) = true := by simp; omega
  go_enter Try.func39, Try.ntmps39
  go_wp2
  go_quiet (fail)
  go_wp2
  go_ret
  exact ⟨rfl, Tk.spoil (w := w.drewN _) ht, grown_set' w _ tb 2 _⟩

end Go.Proofs.Ytcbaiagkdphkeab
