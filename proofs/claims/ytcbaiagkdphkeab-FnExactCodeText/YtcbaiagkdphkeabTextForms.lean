/-
  What CodeText gives, in the form that the law's walk takes.
-/
import Derived.Test.YtcbaiagkdphkeabTextSpec
import Derived.Test.YtcbaiagkdphkeabIntRows
namespace Go.Proofs.Ytcbaiagkdphkeab
open Go.RowKit

def ImplTextE : Prop := ∀ (ao : Option Addr) (n cap : Nat) (xs : List Int) (so : Option Addr) (m sc : Nat) (ss : List Int) (w : World), Rd .i64 w ao n xs → Rd .i64 w so m ss → n ≤ 1048576 → m ≤ 1048576 →
  Calls Try.prog 11 #[.slice ao n cap, .slice so m sc] w fun e w' => ∃ v, e = .returned v ∧ w'.ownsRow w.heap.size 5 1 v (textG xs ss).length ((textG xs ss).map (Value.int .u8)) ∧ w.grownBy w' none

theorem textG_short (xs ss : List Int) : (textG xs ss).length ≤ 60000 := by
  unfold textG
  split
  · unfold packed
    split
    · rename_i h
      simp only [okF, Bool.and_eq_true, decide_eq_true_eq] at h
      have := allBits_lens _ h.1
      rw [packB_len]
      omega
    · simp
  · simp

theorem specTextL (ao : Option Addr) (n cap : Nat) (xs : List Int) (bo : Option Addr) (m sc : Nat) (ss : List Int) (w : World) (hr : Rd .i64 w ao n xs) (hs : Rd .i64 w bo m ss) (L : List Int) (HL : Hid (textG xs ss = L)) :
    Calls Try.prog 10 #[.slice ao n cap, .slice bo m sc] w fun e w' => ∃ so sc, e = .returned (.slice so L.length sc) ∧ w'.ownsRow w.heap.size 5 1 (.slice so L.length sc) L.length (L.map (Value.int .u8)) ∧ w.grownBy w' none := by
  refine (specCodeText ao n cap xs bo m sc ss w hr hs).mono ?_
  rw [unhide HL]
  rintro e w' ⟨v, rfl, o, g⟩
  obtain ⟨so, sc, rfl⟩ := own_form o
  exact ⟨so, sc, rfl, o, g⟩

theorem implTextL (HI : Hid ImplTextE) (ao : Option Addr) (n cap : Nat) (xs : List Int) (bo : Option Addr) (m sc : Nat) (ss : List Int) (w : World) (hr : Rd .i64 w ao n xs) (hs : Rd .i64 w bo m ss) (hn : n ≤ 1048576) (hm : m ≤ 1048576) (L : List Int) (HL : Hid (textG xs ss = L)) :
    Calls Try.prog 11 #[.slice ao n cap, .slice bo m sc] w fun e w' => ∃ so sc, e = .returned (.slice so L.length sc) ∧ w'.ownsRow w.heap.size 5 1 (.slice so L.length sc) L.length (L.map (Value.int .u8)) ∧ w.grownBy w' none := by
  refine (unhide HI ao n cap xs bo m sc ss w hr hs hn hm).mono ?_
  rw [unhide HL]
  rintro e w' ⟨v, rfl, o, g⟩
  obtain ⟨so, sc, rfl⟩ := own_form o
  exact ⟨so, sc, rfl, o, g⟩

end Go.Proofs.Ytcbaiagkdphkeab
