/-
  A frame that came in, as the row's step hands it over.
-/
import Derived.Test.YtnjcmlmgjoaeeaaFrameImpl3
import Derived.OpenShut
import Derived.Deep.SlicePairs
namespace Go.Proofs.Ytnjcmlmgjoaeeaa
open Go.RowKit Go.ChangeShapes Go.WideShapes Go.Deep

set_option maxRecDepth 100000 in
theorem frame_open {H : Type} {enc : TypeId × Value → H} {W : World} {base b0 : Nat} {spare : Nat → Bool} {held : Bool} {r : Reach} {v : Value} {d : DataW H} {ps : List MemPlace}
    (hv : Value.okWide Try.prog W r b0 42 v) (h : DataW.Trod enc Try.prog W base spare held 42 v d ps) :
    ∃ (p wd ht rs : Int) (ao : Option Addr) (n cap : Nat) (C : Nat → Nat → Int), v = .agg #[.int .i64 p, .int .i64 wd, .int .i64 ht, .int .i64 rs, .slice ao n cap] ∧ RdC W ao n C ∧ n ≤ maxLen := by
  obtain ⟨cs, rfl, hsz⟩ := okWide_struct Try.underlying42 hv
  have hc5 : cs.size = 5 := by rw [hsz]; kernel_rfl
  have ci : Try.prog.cellsOf 3 = 1 := by kernel_rfl
  have cl : Try.prog.cellsOf 40 = 1 := by kernel_rfl
  have ce : Try.prog.cellsOf 107 = 4 := by kernel_rfl
  obtain ⟨l⟩ := cs
  match l, hc5 with
  | [a0, a1, a2, a3, a4], _ =>
    obtain ⟨fuel, hf⟩ := h
    obtain ⟨xs, n, _, _, hl, hlen, hfld⟩ := DataW.trod_struct Try.underlying42 hf
    obtain ⟨y0, y1, y2, y3, y4, rfl⟩ : ∃ y0 y1 y2 y3 y4, xs = [y0, y1, y2, y3, y4] := by
      match xs, hlen with
      | [y0, y1, y2, y3, y4], _ => exact ⟨y0, y1, y2, y3, y4, rfl⟩
    have g0 := hfld 0 _ rfl
    have g1 := hfld 1 _ rfl
    have g2 := hfld 2 _ rfl
    have g3 := hfld 3 _ rfl
    have g4 := hfld 4 _ rfl
    simp [ci, cl, Value.cells] at g0 g1 g2 g3 g4
    obtain ⟨p, e0, _, _⟩ := DataW.trod_int Try.underlying3 g0
    obtain ⟨wd, e1, _, _⟩ := DataW.trod_int Try.underlying3 g1
    obtain ⟨ht, e2, _, _⟩ := DataW.trod_int Try.underlying3 g2
    obtain ⟨rs, e3, _, _⟩ := DataW.trod_int Try.underlying3 g3
    simp at e0 e1 e2 e3
    subst e0 e1 e2 e3
    rcases open_slice Try.underlying40 g4 with ⟨hcs, _⟩ | ⟨a, len, cap, m, k, D, Pl, hcs, _, hle, hmx, hmm, _, hall⟩
    · simp at hcs
      subst hcs
      exact ⟨p, wd, ht, rs, none, 0, 0, fun _ _ => 0, rfl, fun i hi => absurd hi (by omega), by unfold maxLen; omega⟩
    · simp at hcs
      subst hcs
      have hlm : len ≤ m := by rw [hmm]; split <;> omega
      have hch : ∀ i, ∃ q : Nat → Int, i < len → ∀ j, j < 4 → W.cell? (a.add (i * 4 + j)) = some (.int .i64 (q j)) := by
        intro i
        by_cases hi : i < len
        · obtain ⟨cs', h1, h2⟩ := hall i (by omega)
          rw [ce] at h1
          obtain ⟨_, hlen', hcell⟩ := World.cells?_some h1
          obtain ⟨ys, k', _, _, _, hyl, hfe⟩ := DataW.trod_struct Try.underlying107 h2
          obtain ⟨y0, y1, y2, y3, rfl⟩ : ∃ y0 y1 y2 y3, ys = [y0, y1, y2, y3] := by
            match ys, hyl with
            | [y0, y1, y2, y3], _ => exact ⟨y0, y1, y2, y3, rfl⟩
          match cs', hlen' with
          | [v0, v1, v2, v3], _ =>
            have f0 := hfe 0 _ rfl
            have f1 := hfe 1 _ rfl
            have f2 := hfe 2 _ rfl
            have f3 := hfe 3 _ rfl
            simp [ci] at f0 f1 f2 f3
            obtain ⟨q0, e0, _, _⟩ := DataW.trod_int Try.underlying3 f0
            obtain ⟨q1, e1, _, _⟩ := DataW.trod_int Try.underlying3 f1
            obtain ⟨q2, e2, _, _⟩ := DataW.trod_int Try.underlying3 f2
            obtain ⟨q3, e3, _, _⟩ := DataW.trod_int Try.underlying3 f3
            simp at e0 e1 e2 e3
            subst e0 e1 e2 e3
            refine ⟨fun j => if j = 0 then q0 else if j = 1 then q1 else if j = 2 then q2 else q3, fun _ j hj => ?_⟩
            have hcj := hcell j (by simpa using hj)
            rw [add_add] at hcj
            have : j = 0 ∨ j = 1 ∨ j = 2 ∨ j = 3 := by omega
            rcases this with rfl | rfl | rfl | rfl <;> simpa using hcj
        · exact ⟨fun _ => 0, fun h => absurd h hi⟩
      obtain ⟨C, hC⟩ := Classical.axiomOfChoice hch
      refine ⟨p, wd, ht, rs, some a, len, cap, C, rfl, fun i hi => ?_, by omega⟩
      obtain ⟨b, off, spot⟩ := a
      have hspot : spot = none := by
        have := hC 0 (by omega) 0 (by omega)
        simpa [Addr.add] using World.cell?_spot this
      subst hspot
      refine ⟨b, off, rfl, fun j hj => ?_⟩
      have := hC i hi j hj
      rw [Addr.add_lit] at this
      rw [Nat.add_assoc]
      exact this

end Go.Proofs.Ytnjcmlmgjoaeeaa
