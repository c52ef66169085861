/-
  The tables' variable, read as the program's text lays it.
-/
import Derived.Test.YtoeehfjbnbbijajDoorPlainImpl
import Derived.ChangeSame
import Derived.OpenShut
import Derived.LaidLaws
namespace Go.Proofs.YtoeehfjbnbbijajDoor
open Go.ChangeShapes Go.RowKit

theorem slope_of {H : Type} {enc : TypeId × Value → H} {w : World} {base : Nat} {sp : Nat → Bool} {held : Bool} {fuel : Nat} {cs : List Value} {a b : Int} {p : List MemPlace} (h : DataW.trod enc Tryd.prog w base sp held fuel 31 cs = some (.agg [.lit (.int .i64 a), .lit (.int .i64 b)], p)) : cs = [.int .i64 a, .int .i64 b] := by
  have ci : Tryd.prog.cellsOf 3 = 1 := by kernel_rfl
  have cst : Tryd.prog.cellsOf 31 = 2 := by kernel_rfl
  obtain ⟨y0, y1, n, hx, hl, h0, h1⟩ := trod_struct2 Tryd.underlying31 h
  obtain ⟨a', e0, rfl, _⟩ := DataW.trod_int Tryd.underlying3 h0
  obtain ⟨b', e1, rfl, _⟩ := DataW.trod_int Tryd.underlying3 h1
  simp only [Prod.mk.injEq, DataW.agg.injEq, List.cons.injEq, DataW.lit.injEq, Lit.int.injEq, true_and, and_true] at hx
  obtain ⟨⟨rfl, rfl⟩, _⟩ := hx
  rw [cst] at hl
  match cs, hl with
  | [c0, c1], _ =>
    simp [ci] at e0 e1
    rw [e0, e1]

set_option maxRecDepth 20000 in
theorem pk_laid {W : World} {rest : List (String × DataW Unit)} (hg : Tryd.prog.globalNamed "loop.example/g00139/impl.plainKinds" = some 0) (hty : (Tryd.prog.globals[0]?).map (·.type) = some 32)
    (h : laidMet Tryd.prog (("loop.example/g00139/impl.plainKinds", Rows.laid_loop_example_g00139_impl_plainKinds) :: rest) W) : W.var? Tryd.prog "loop.example/g00139/impl.plainKinds" = some pkCells := by
  have cst : Tryd.prog.cellsOf 31 = 2 := by kernel_rfl
  have car : Tryd.prog.cellsOf 32 = 8 := by kernel_rfl
  obtain ⟨ps, ⟨g', t', cs, fuel, p, q, hg', ht', hvar, hd, _, _⟩, _⟩ := h
  obtain rfl := Option.some.inj (hg.symm.trans hg')
  obtain rfl := Option.some.inj (hty.symm.trans ht')
  rw [hvar]
  congr 1
  obtain ⟨l⟩ := cs
  obtain ⟨xs, m1, _, hx1, hlen, hn, hel⟩ := DataW.trod_array Tryd.underlying32 hd
  rw [car] at hlen
  have h0 := hel 0 (by decide)
  have h1 := hel 1 (by decide)
  have h2 := hel 2 (by decide)
  have h3 := hel 3 (by decide)
  simp only [Prod.mk.injEq, Rows.laid_loop_example_g00139_impl_plainKinds, DataW.agg.injEq] at hx1
  match xs, hn, hx1, h0, h1, h2, h3 with
  | [(x0, p0), (x1, p1), (x2, p2), (x3, p3)], _, hx1, h0, h1, h2, h3 =>
    simp only [List.map_cons, List.map_nil, List.cons.injEq, and_true] at hx1
    obtain ⟨⟨rfl, rfl, rfl, rfl⟩, _⟩ := hx1
    match l, hlen with
    | [c0, c1, c2, c3, c4, c5, c6, c7], _ =>
      have s0 := slope_of (by simpa [cst] using h0)
      have s1 := slope_of (by simpa [cst] using h1)
      have s2 := slope_of (by simpa [cst] using h2)
      have s3 := slope_of (by simpa [cst] using h3)
      simp only [List.cons.injEq, and_true] at s0 s1 s2 s3
      obtain ⟨rfl, rfl⟩ := s0
      obtain ⟨rfl, rfl⟩ := s1
      obtain ⟨rfl, rfl⟩ := s2
      obtain ⟨rfl, rfl⟩ := s3
      rfl

/-- What the walk asks of the variable. -/
theorem pk_of {W : World} (hg : Tryd.prog.globalNamed "loop.example/g00139/impl.plainKinds" = some 0) (h : W.var? Tryd.prog "loop.example/g00139/impl.plainKinds" = some pkCells) : Pk W := fun i hi => by
  have h1 := World.var?_cell hg h i
  rw [pk_cells i hi] at h1
  exact h1

end Go.Proofs.YtoeehfjbnbbijajDoor
