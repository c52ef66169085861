/-
  Blocks that are drawn.
-/
import Derived.Test.YtoeehfjbnbbijabDoorTabBySpec
import Derived.Test.YtoeehfjbnbbijabDoorCurOnce
import Derived.Test.YtoeehfjbnbbijabDoorCurOdd
namespace Go.Proofs.YtoeehfjbnbbijabDoor
open Go.RowKit

theorem grown_newR {a b c : World} {r row : Option Nat} (h : a.grownBy b r) (hg : b.grownBy c row) (hge : ∀ g, row = some g → a.heap.size ≤ g) : a.grownBy c r :=
  ⟨hg.os.trans h.os, hg.tape.trans h.tape, hg.output.trans h.output, Nat.le_trans h.size hg.size, fun k hk hr => (hg.block k (Nat.lt_of_lt_of_le hk h.size) (by intro e; have := hge k e.symm; omega)).trans (h.block k hk hr)⟩

theorem append_intR {w : World} {ops : Array Oper} {rest : List Oper} {o : Oper} {a : Act} {Q : Exit → Act → World → Prop} (hgd : o.guard = none) (s x : Operand)
    (ho : o.op = .call { callee := .builtin .append, args := #[s, x], argTypes := #[24, 24] })
    (B : World) (r : Option Nat) (v : Value) (n : Nat) (xs : List Int) (hs : a.eval s = v) (hown : w.ownsRow B.heap.size 3 1 v n (xs.map (Value.int .i64))) (z : Int) (hx : a.eval x = .slice (some ⟨w.heap.size, 0, none⟩) 1 1)
    (hb : n + 1 ≤ 1000000) (hB : B.grownBy w r)
    (h : ∀ v' w', w'.ownsRow B.heap.size 3 1 v' (n + 1) ((xs ++ [z]).map (Value.int .i64)) → B.grownBy w' r → w.grownBy w' v.ownBlock → wpList Tryd.prog ops Q rest (a.put o.dst v') w') :
    wpList Tryd.prog ops Q (o :: rest) a (w.alloc (.cells #[.int .i64 z] 3)) := by
  obtain ⟨i0, hi, hz0, hz1, hz2⟩ := info_parts Tryd.info3
  refine wpList_append_own _ hgd s x 24 ho B.heap.size 3 i0 (.int .i64 0) 1 8 Tryd.underlying24 hi hz0 hz1 hz2 rfl (by decide) v n _ hs (hown.alloc _) ⟨w.heap.size, 0, none⟩ 1 1 [.int .i64 z] hx rfl (cell_one_new _ _ _) (by intro u hu; simp at hu; subst hu; rfl) (by unfold maxLen; omega) (by omega) (by have := hB.size; simp; omega) ?_
  intro v' w' h1 h2 _
  exact h v' w' (by rw [List.map_append]; exact h1) (grown_newR (grown_trans hB (World.grownBy_alloc _ _ _)) h2 (fun g e => (hown.lt g e).1)) (grown_trans (World.grownBy_alloc _ _ _) h2)

/-- What a block's drawing leaves behind k rounds. -/
structure Dr (w : World) (tb : Nat) (ao : Option Addr) (n cap : Nat) (zs : List Int) (p : Nat) (wr : World) (v : Value) (k : Nat) : Prop where
  own : ∃ xs : List Int, wr.ownsRow w.heap.size 3 1 v k (xs.map (Value.int .i64))
  cur : ∃ q, q ≤ p + 8 * k ∧ Cur wr tb ao n cap zs q
  grown : w.grownBy wr (some tb)

theorem own_cap {w : World} {base : Nat} {e : TypeId} {ao : Option Addr} {n cap : Nat} {xs : List Value} (h : w.ownsRow base e 1 (.slice ao n cap) n xs) : n ≤ cap := by
  rcases h.2 with ⟨h1, h2⟩ | ⟨g, cap', cur, h1, _, _, h4, _⟩
  · omega
  · simp only [Value.slice.injEq, true_and] at h1
    omega
theorem rd_take {k : IntKind} {w : World} {ao : Option Addr} {n : Nat} {zs : List Int} (h : Rd k w ao n zs) (m : Nat) (hm : m ≤ n) : Rd k w ao m (zs.take m) := by
  refine ⟨by rw [List.length_take, h.1]; omega, fun i hi => ?_⟩
  obtain ⟨b, off, e, hc⟩ := h.2 i (by omega)
  refine ⟨b, off, e, ?_⟩
  rw [hc]
  have : (zs.take m).getD i 0 = zs.getD i 0 := by simp [List.getD_eq_getElem?_getD, hi]
  rw [this]

/-- What a drawing of a list leaves. -/
structure Drawn (w : World) (tb : Nat) (ao : Option Addr) (n cap : Nat) (zs : List Int) (p : Nat) (w' : World) (so : Option Addr) (m : Nat) : Prop where
  rd : ∃ xs, Rd .i64 w' so m xs
  len : m ≤ 65
  new : ∀ b off, so = some ⟨b, off, none⟩ → w.heap.size ≤ b
  cur : ∃ q, q ≤ p + 600 ∧ Cur w' tb ao n cap zs q
  grown : w.grownBy w' (some tb)

end Go.Proofs.YtoeehfjbnbbijabDoor
