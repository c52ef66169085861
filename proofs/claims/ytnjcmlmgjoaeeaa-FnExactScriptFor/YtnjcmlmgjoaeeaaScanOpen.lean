/-
  Scans, and a script, that came in, as the row's step hands them over.
-/
import Derived.Test.YtnjcmlmgjoaeeaaScanSz
import Derived.Test.YtnjcmlmgjoaeeaaFrameAid
import Derived.Test.YtnjcmlmgjoaeeaaTreeOpen0
namespace Go.Proofs.Ytnjcmlmgjoaeeaa
open Go.RowKit Go.ChangeShapes Go.WideShapes Go.Deep

set_option maxRecDepth 100000 in
theorem scan_cells {H : Type} {enc : TypeId × Value → H} {W : World} {base : Nat} {spare : Nat → Bool} {held : Bool} {fuel : Nat} {c0 c1 c2 c3 c4 : Value} {x : DataW H × List MemPlace}
    (h : DataW.trod enc Try.prog W base spare held fuel 43 [c0, c1, c2, c3, c4] = some x) :
    ∃ a : Scn, c1 = .int .i64 a.fr ∧ c2 = .int .i64 a.to ∧ c3 = .int .i64 a.hi ∧ c4 = .int .i64 a.lo ∧ RdZ (RdI .i64) W c0 a.cs := by
  have ci : Try.prog.cellsOf 3 = 1 := by kernel_rfl
  have cl : Try.prog.cellsOf 36 = 1 := by kernel_rfl
  obtain ⟨xs, n, _, _, hl, hlen, hfld⟩ := DataW.trod_struct Try.underlying43 h
  obtain ⟨y0, y1, y2, y3, y4, rfl⟩ : ∃ y0 y1 y2 y3 y4, xs = [y0, y1, y2, y3, y4] := by
    match xs, hlen with
    | [y0, y1, y2, y3, y4], _ => exact ⟨y0, y1, y2, y3, y4, rfl⟩
  have g0 := hfld 0 _ rfl
  have g1 := hfld 1 _ rfl
  have g2 := hfld 2 _ rfl
  have g3 := hfld 3 _ rfl
  have g4 := hfld 4 _ rfl
  simp [ci, cl] at g0 g1 g2 g3 g4
  obtain ⟨cs, hcs⟩ := open_intRow Try.underlying36 H enc W base spare held n c0 y0 g0
  obtain ⟨fr, e1, _, _⟩ := DataW.trod_int Try.underlying3 g1
  obtain ⟨to, e2, _, _⟩ := DataW.trod_int Try.underlying3 g2
  obtain ⟨hi, e3, _, _⟩ := DataW.trod_int Try.underlying3 g3
  obtain ⟨lo, e4, _, _⟩ := DataW.trod_int Try.underlying3 g4
  simp at e1 e2 e3 e4
  subst e1 e2 e3 e4
  exact ⟨⟨cs, fr, to, hi, lo⟩, rfl, rfl, rfl, rfl, hcs⟩

set_option maxRecDepth 100000 in
theorem scan_open {H : Type} {enc : TypeId × Value → H} {W : World} {base b0 : Nat} {spare : Nat → Bool} {held : Bool} {r : Reach} {v : Value} {d : DataW H} {ps : List MemPlace}
    (hv : Value.okWide Try.prog W r b0 43 v) (h : DataW.Trod enc Try.prog W base spare held 43 v d ps) : ∃ v0 a, v = scV v0 a ∧ RdScZ W (scV v0 a) a := by
  obtain ⟨cs, rfl, hsz⟩ := okWide_struct Try.underlying43 hv
  have hc5 : cs.size = 5 := by rw [hsz]; kernel_rfl
  obtain ⟨l⟩ := cs
  match l, hc5 with
  | [a0, a1, a2, a3, a4], _ =>
    obtain ⟨fuel, hf⟩ := h
    obtain ⟨a, rfl, rfl, rfl, rfl, hr⟩ := scan_cells (c0 := a0) hf
    exact ⟨a0, a, rfl, a0, rfl, hr⟩

theorem scans_open {H : Type} {enc : TypeId × Value → H} {W : World} {base : Nat} {spare : Nat → Bool} {held : Bool} {v : Value} {d : DataW H} {ps : List MemPlace}
    (h : DataW.Trod enc Try.prog W base spare held 52 v d ps) (hv : ∃ a l c, v = .slice a l c) : ∃ S, RdSsZ W v S := by
  obtain ⟨a1, l1, c1, rfl⟩ := hv
  obtain ⟨fuel, hf⟩ := h
  have ce : Try.prog.cellsOf 43 = 5 := by kernel_rfl
  rcases open_slice Try.underlying52 hf with ⟨hcs, _⟩ | ⟨a, len, cap, m, k, D, Pl, hcs, _, hle, hmx, hmm, _, hall⟩
  · simp [Value.cells] at hcs
    obtain ⟨rfl, rfl, rfl⟩ := hcs
    exact ⟨[], ⟨none, 0, rfl, fun i hi => absurd hi (by simp)⟩, by unfold maxLen; simp⟩
  · simp [Value.cells] at hcs
    obtain ⟨rfl, rfl, rfl⟩ := hcs
    have hlm : l1 ≤ m := by rw [hmm]; split <;> omega
    have hch : ∀ i, ∃ q : (Nat → Value) × Scn, i < l1 → (∀ j, j < 5 → W.cell? (a.add (i * 5 + j)) = some (q.1 j)) ∧ RdScEZ W q.1 q.2 := by
      intro i
      by_cases hi : i < l1
      · obtain ⟨cs', h1, h2⟩ := hall i (by omega)
        rw [ce] at h1
        obtain ⟨_, hlen', hcell⟩ := World.cells?_some h1
        match cs', hlen' with
        | [v0, v1, v2, v3, v4], _ =>
          obtain ⟨q, rfl, rfl, rfl, rfl, hr⟩ := scan_cells h2
          refine ⟨(fun j => if j = 0 then v0 else if j = 1 then .int .i64 q.fr else if j = 2 then .int .i64 q.to else if j = 3 then .int .i64 q.hi else .int .i64 q.lo, q), fun _ => ⟨fun j hj => ?_, ⟨rfl, rfl, rfl, rfl⟩, hr⟩⟩
          have hcj := hcell j (by simpa using hj)
          rw [add_add] at hcj
          have : j = 0 ∨ j = 1 ∨ j = 2 ∨ j = 3 ∨ j = 4 := by omega
          rcases this with rfl | rfl | rfl | rfl | rfl <;> simpa using hcj
      · exact ⟨(fun _ => default, Scn.zero), fun h => absurd h hi⟩
    obtain ⟨Q, hQ⟩ := Classical.axiomOfChoice hch
    refine ⟨(List.range l1).map fun i => (Q i).2, ⟨some a, c1, by simp, fun i hi => ?_⟩, by simp; omega⟩
    have hi' : i < l1 := by simpa using hi
    obtain ⟨b, off, spot⟩ := a
    have hspot : spot = none := by
      have := (hQ 0 (by omega)).1 0 (by omega)
      simpa [Addr.add] using World.cell?_spot this
    subst hspot
    refine ⟨b, off, (Q i).1, rfl, fun j hj => ?_, ?_⟩
    · have := (hQ i hi').1 j hj
      rw [Addr.add_lit] at this
      rw [Nat.add_assoc]
      exact this
    · simp only [List.getElem_map, List.getElem_range]
      exact (hQ i hi').2

end Go.Proofs.Ytnjcmlmgjoaeeaa
