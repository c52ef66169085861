/-
  A picture that came in, as the row's step hands it over.
-/
import Derived.Test.YtgknninkfdgebaaPicRows
import Derived.Test.YtgknninkfdgebaaTreeOpen0
namespace Go.Proofs.Ytgknninkfdgebaa
open Go.RowKit Go.ChangeShapes Go.WideShapes Go.Deep

theorem open_ints2p : OpenC 28 (RdZ (RdR (RdZ (RdI .i64)))) := open_row Try.underlying28 (by kernel_rfl) (open_intRow Try.underlying22)

set_option maxRecDepth 100000 in
theorem picture_open {H : Type} {enc : TypeId × Value → H} {W : World} {base b0 : Nat} {spare : Nat → Bool} {held : Bool} {r : Reach} {v : Value} {d : DataW H} {ps : List MemPlace}
    (hv : Value.okWide Try.prog W r b0 30 v) (h : DataW.Trod enc Try.prog W base spare held 30 v d ps) :
    ∃ a : Pic, RdPz W v a := by
  obtain ⟨cs, rfl, hsz⟩ := okWide_struct Try.underlying30 hv
  have hc5 : cs.size = 4 := by rw [hsz]; kernel_rfl
  have ci : Try.prog.cellsOf 3 = 1 := by kernel_rfl
  have cl : Try.prog.cellsOf 28 = 1 := by kernel_rfl
  obtain ⟨l⟩ := cs
  match l, hc5 with
  | [a0, a1, a2, a3], _ =>
    obtain ⟨fuel, hf⟩ := h
    obtain ⟨xs, n, _, _, hl, hlen, hfld⟩ := DataW.trod_struct Try.underlying30 hf
    obtain ⟨y0, y1, y2, y3, rfl⟩ : ∃ y0 y1 y2 y3, xs = [y0, y1, y2, y3] := by
      match xs, hlen with
      | [y0, y1, y2, y3], _ => exact ⟨y0, y1, y2, y3, rfl⟩
    have g0 := hfld 0 _ rfl
    have g1 := hfld 1 _ rfl
    have g2 := hfld 2 _ rfl
    have g3 := hfld 3 _ rfl
    simp [ci, cl, Value.cells] at g0 g1 g2 g3
    obtain ⟨x0, e0, _, _⟩ := DataW.trod_int Try.underlying3 g0
    obtain ⟨x1, e1, _, _⟩ := DataW.trod_int Try.underlying3 g1
    obtain ⟨x2, e2, _, _⟩ := DataW.trod_int Try.underlying3 g2
    simp at e0 e1 e2
    subst e0 e1 e2
    obtain ⟨X, hX⟩ := open_ints2p H enc W base spare held n a3 y3 g3
    exact ⟨⟨x0, x1, x2, X⟩, a3, rfl, hX⟩

end Go.Proofs.Ytgknninkfdgebaa
