/-
  A frame in a box, as the laws hold it.
-/
import Derived.Test.YtnjcmlmgjoaeeaaFrameMarks
import Derived.Test.YtnjcmlmgjoaeeaaTree
namespace Go.Proofs.Ytnjcmlmgjoaeeaa
open Go.RowKit

/-- A frame that is owned, in a box. -/
structure Bf (W : World) (b : Nat) (p wd ht rs : Int) (q n base : Nat) (C : Nat → Nat → Int) : Prop where
  box : W.heap[b]? = some (.cells #[.int .i64 p, .int .i64 wd, .int .i64 ht, .int .i64 rs, .slice (some ⟨q, 0, none⟩) n n] 26 (0, 0))
  own : W.ownsRow base 68 4 (.slice (some ⟨q, 0, none⟩) n n) n (rowsK n 4 (compCells C))
section
variable {W W' : World} {b q n base : Nat} {p wd ht rs : Int} {C : Nat → Nat → Int}
theorem Bf.lt (h : Bf W b p wd ht rs q n base C) : b < W.heap.size := (Array.getElem?_eq_some_iff.1 h.box).1
theorem Bf.keep (h : Bf W b p wd ht rs q n base C) (g : W.grownBy W' none) : Bf W' b p wd ht rs q n base C := ⟨(g.block b h.lt (by simp)).trans h.box, own_grown h.own g⟩
theorem Bf.new (h : W.ownsRow base 68 4 (.slice (some ⟨q, 0, none⟩) n n) n (rowsK n 4 (compCells C))) (p wd ht rs : Int) : Bf (W.alloc (.cells #[.int .i64 p, .int .i64 wd, .int .i64 ht, .int .i64 rs, .slice (some ⟨q, 0, none⟩) n n] 26)) W.heap.size p wd ht rs q n base C :=
  ⟨heap_alloc_new W _, own_grown h (World.grownBy_alloc _ _ _)⟩
theorem Bf.rd (h : Bf W b p wd ht rs q n base C) : RdC W (some ⟨q, 0, none⟩) n C := own_rdC h.own
end
theorem Bf.wr {W W' : World} {b q n base : Nat} {p wd ht rs : Int} {C : Nat → Nat → Int} {F : List Nat} (h : Bf W b p wd ht rs q n base C) (g : Wr F W W') (hb : b ∉ F) (hq : q ∉ F) : Bf W' b p wd ht rs q n base C :=
  ⟨(g.block b h.lt hb).trans h.box, own_sameAt h.own (fun x hx => by have e9 : q = x := Option.some.inj hx; subst e9; exact g.block q (h.own.lt q rfl).2 hq)⟩

end Go.Proofs.Ytnjcmlmgjoaeeaa
