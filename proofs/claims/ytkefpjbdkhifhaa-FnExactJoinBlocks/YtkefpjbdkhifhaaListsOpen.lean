/-
  Rows of rows of numbers that came in.
-/
import Derived.Test.YtkefpjbdkhifhaaTreeOpen0
namespace Go.Proofs.Ytkefpjbdkhifhaa
open Go.RowKit Go.ChangeShapes Go.WideShapes Go.Deep

theorem open_lists : OpenC 33 (RdZ (RdR (RdZ (RdI .i64)))) := open_row Try.underlying33 (by kernel_rfl) (open_intRow Try.underlying24)

theorem lists_open {H : Type} {enc : TypeId × Value → H} {W : World} {base : Nat} {spare : Nat → Bool} {held : Bool} {v : Value} {d : DataW H} {ps : List MemPlace} (h : DataW.Trod enc Try.prog W base spare held 33 v d ps) (hv : ∃ ao n cap, v = .slice ao n cap) : ∃ X, RdZ (RdR (RdZ (RdI .i64))) W v X := by
  obtain ⟨ao, n, cap, rfl⟩ := hv
  obtain ⟨fuel, hf⟩ := h
  exact open_lists H enc W base spare held fuel _ _ (by simpa [Value.cells] using hf)

theorem rdZ2_rd {w : World} {v : Value} {X : List (List Int)} (h : RdZ (RdR (RdZ (RdI .i64))) w v X) : RdR (RdI .i64) w v X := by
  obtain ⟨⟨ao, cap, e, hh⟩, _⟩ := h
  exact ⟨ao, cap, e, fun i hi => by obtain ⟨b, off, u, e1, hc, hq⟩ := hh i hi; exact ⟨b, off, u, e1, hc, hq.1⟩⟩

end Go.Proofs.Ytkefpjbdkhifhaa
