/-
  Rows of numbers that are drawn from a code, and symbols that are.
-/
import Derived.Test.YtekidfkahpaokaaCurOnce
import Derived.Test.YtekidfkahpaokaaCurOdd
import Derived.Test.YtekidfkahpaokaaAppRdI
namespace Go.Proofs.Ytekidfkahpaokaa
open Go.RowKit

/-- A row that is being drawn: whose it is, where the drawer is, and what else has changed. -/
structure Dw (w : World) (tb : Nat) (ao : Option Addr) (n cap : Nat) (zs : List Int) (q : Nat) (W : World) (v : Value) (ys : List Int) : Prop where
  own : W.ownsRow w.heap.size 3 1 v ys.length (ys.map (Value.int .i64))
  cur : Cur W tb ao n cap zs q
  grown : w.grownBy W (some tb)

section
variable {w : World} {tb : Nat} {ao : Option Addr} {n cap : Nat} {zs : List Int} {q : Nat} {W : World} {v : Value} {ys : List Int}
theorem Dw.pick {W' : World} {q' : Nat} (h : Dw w tb ao n cap zs q W v ys) (ht : tb < w.heap.size) (hc : Cur W' tb ao n cap zs q') (hg : W.grownBy W' (some tb)) : Dw w tb ao n cap zs q' W' v ys :=
  ⟨own_beneath h.own hg (fun a b e1 e2 => by have := (h.own.lt a e1).1; simp at e2; omega), hc, grown_trans h.grown hg⟩
theorem Dw.new {W' : World} (h : Dw w tb ao n cap zs q W v ys) (hg : W.grownBy W' none) : Dw w tb ao n cap zs q W' v ys :=
  ⟨own_beneath h.own hg (fun a b _ e2 => by simp at e2), h.cur.grown hg, grown_trans h.grown (grown_any hg)⟩
theorem Dw.row {W' : World} {v' : Value} {ys' : List Int} (h : Dw w tb ao n cap zs q W v ys) (ht : tb < w.heap.size) (hcode : 0 < n → ∀ b off, ao = some ⟨b, off, none⟩ → b < w.heap.size) (hg : W.grownBy W' v.ownBlock) (ho : W'.ownsRow w.heap.size 3 1 v' ys'.length (ys'.map (Value.int .i64))) : Dw w tb ao n cap zs q W' v' ys' :=
  ⟨ho, h.cur.beside hg (fun g e => by have := (h.own.lt g e).1; exact ⟨by omega, fun h0 b off e2 => by have := hcode h0 b off e2; omega⟩),
   ⟨hg.os.trans h.grown.os, hg.tape.trans h.grown.tape, hg.output.trans h.grown.output, Nat.le_trans h.grown.size hg.size, fun k hk hr => (hg.block k (Nat.lt_of_lt_of_le hk h.grown.size) (by intro e; have := (h.own.lt k e.symm).1; omega)).trans (h.grown.block k hk hr)⟩⟩
end

/-- A row of none, behind what has been drawn. -/
theorem Dw.nil {w : World} {tb : Nat} {ao : Option Addr} {n cap : Nat} {zs : List Int} {q : Nat} {W : World} (hc : Cur W tb ao n cap zs q) (hg : w.grownBy W (some tb)) : Dw w tb ao n cap zs q (W.alloc (.cells #[] 3)) (.slice (some ⟨W.heap.size, 0, none⟩) 0 0) [] :=
  ⟨own_base (World.ownsRow_lit W #[] 0 (Nat.le_refl _) (by unfold maxLen; omega) rfl) hg.size, hc.grown (World.grownBy_alloc _ _ _), grown_trans hg (World.grownBy_alloc _ _ _)⟩

theorem append_dw {w : World} {ops : Array Oper} {rest : List Oper} {o : Oper} {a : Act} {Q : Exit → Act → World → Prop} (hgd : o.guard = none) (s x : Operand)
    (ho : o.op = .call { callee := .builtin .append, args := #[s, x], argTypes := #[24, 24] })
    (B : World) (tb : Nat) (ao : Option Addr) (n cap : Nat) (zs : List Int) (q : Nat) (v : Value) (X : List Int) (hs : a.eval s = v) (hd : Dw B tb ao n cap zs q w v X) (p : Int) (hx : a.eval x = .slice (some ⟨w.heap.size, 0, none⟩) 1 1)
    (hb : X.length ≤ 1000000) (ht : tb < B.heap.size) (hcode : 0 < n → ∀ b off, ao = some ⟨b, off, none⟩ → b < B.heap.size) (R : List Int) (hR : X ++ [p] = R)
    (h : ∀ v' w', Dw B tb ao n cap zs q w' v' R → wpList Try.prog ops Q rest (a.put o.dst v') w') :
    wpList Try.prog ops Q (o :: rest) a (w.alloc (.cells #[.int .i64 p] 3)) := by
  subst hR
  obtain ⟨i0, hi, hz0, hz1, hz2⟩ := info_parts info_i9
  have hd2 := hd.new (World.grownBy_alloc w (.cells #[.int .i64 p] 3) none)
  refine wpList_append_own _ hgd s x 24 ho B.heap.size 3 i0 _ 1 8 Try.underlying24 hi hz0 hz1 hz2 rfl (by decide) v X.length _ hs hd2.own ⟨w.heap.size, 0, none⟩ 1 1 [.int .i64 p] hx rfl (World.news_of_block (cs := #[.int .i64 p]) (t := 3) (fr := (0, 0)) (heap_alloc_new w _)) (by intro u hu; simp at hu; subst hu; rfl) (by unfold maxLen; omega) (by omega) (by have := hd.grown.size; simp; omega) ?_
  intro v' w' h1 h2 _
  refine h v' w' (hd2.row ht hcode h2 ?_)
  rw [List.map_append, List.length_append]
  exact h1

end Go.Proofs.Ytekidfkahpaokaa
