/-
  What chapter 16's functions give, of any arguments; and a number behind a row of one's own.
-/
import Derived.Test.YtkefpjbdkhifhaaSampPure
import Derived.Test.YtkefpjbdkhifhaaInts
import Derived.Test.YtkefpjbdkhifhaaAppIntS
import Derived.Test.YtkefpjbdkhifhaaHeldTail
import Derived.Deep.RegionHeld3
import Derived.Deep.AppendLies
namespace Go.Proofs.Ytkefpjbdkhifhaa
open Go.RowKit

def cropG (L : List Int) (w h nw nh : Int) : List Int := if planeB L w h && decide (1 ≤ nw ∧ nw ≤ w) && decide (1 ≤ nh ∧ nh ≤ h) then cropL L w.toNat nw.toNat nh.toNat else []
def shrinkG (L : List Int) (w h nw nh : Int) : List Int := if planeB L w h && decide (1 ≤ nw ∧ nw ≤ w) && decide (1 ≤ nh ∧ nh ≤ h) then shrinkL L w.toNat h.toNat nw.toNat nh.toNat else []
def growG (L : List Int) (w h nw nh : Int) : List Int := if planeB L w h && sidesB nw nh && decide (w ≤ nw) && decide (h ≤ nh) then growL L w.toNat h.toNat nw.toNat nh.toNat else []
def padG (L : List Int) (w h nw nh : Int) : List Int := if planeB L w h && sidesB nw nh && decide (w ≤ nw) && decide (h ≤ nh) then padL L w.toNat h.toNat nw.toNat nh.toNat else []
theorem plane_of {L : List Int} {w h : Int} (e : planeB L w h = true) : (1 ≤ w ∧ w ≤ 1024) ∧ (1 ≤ h ∧ h ≤ 1024) ∧ (L.length : Int) = w * h ∧ w * h ≤ 131072 ∧ ∀ x ∈ L, 0 ≤ x ∧ x ≤ 4095 := by
  unfold planeB sidesB at e
  simp at e
  obtain ⟨⟨⟨⟨h1, h2⟩, h3⟩, h4⟩, h5⟩ := e
  exact ⟨by omega, by omega, h4, h3, h5⟩

theorem append_i16 {w : World} {ops : Array Oper} {rest : List Oper} {o : Oper} {a : Act} {Q : Exit → Act → World → Prop} (hgd : o.guard = none) (s x : Operand)
    (ho : o.op = .call { callee := .builtin .append, args := #[s, x], argTypes := #[24, 24] })
    (B : World) (v : Value) (n : Nat) (xs : List Int) (hs : a.eval s = v) (hown : w.ownsRow B.heap.size 3 1 v n (xs.map (Value.int .i64))) (z : Int) (hx : a.eval x = .slice (some ⟨w.heap.size, 0, none⟩) 1 1)
    (hb : n + 1 ≤ 1000000) (hB : B.grownBy w none)
    (h : ∀ v' w', w'.ownsRow B.heap.size 3 1 v' (n + 1) ((xs ++ [z]).map (Value.int .i64)) → B.grownBy w' none → wpList Try.prog ops Q rest (a.put o.dst v') w') :
    wpList Try.prog ops Q (o :: rest) a (w.alloc (.cells #[.int .i64 z] 3)) := by
  obtain ⟨i0, hi, hz0, hz1, hz2⟩ := info_parts Try.info3
  refine wpList_append_own _ hgd s x 24 ho B.heap.size 3 i0 (.int .i64 0) 1 8 Try.underlying24 hi hz0 hz1 hz2 rfl (by decide) v n _ hs (hown.alloc _) ⟨w.heap.size, 0, none⟩ 1 1 [.int .i64 z] hx rfl (cell_one_new _ _ _) (by intro u hu; simp at hu; subst hu; rfl) (by unfold maxLen; omega) (by omega) (by have := hB.size; simp; omega) ?_
  intro v' w' h1 h2 _
  refine h v' w' (by rw [List.map_append]; exact h1) (grown_new (grown_alloc hB _) h2 (fun g e => (hown.lt g e).1))
theorem step_append_i16 {w : World} {ops : Array Oper} {o : Oper} {a : Act} {K : Act → World → Prop} {Q : Exit → Act → World → Prop} {E : Prop} (hgd : o.guard = none) (s x : Operand)
    (ho : o.op = .call { callee := .builtin .append, args := #[s, x], argTypes := #[24, 24] })
    (base : Nat) (v : Value) (L : List Int) (hs : a.eval s = v) (hown : w.ownsRow base 3 1 v L.length (L.map (Value.int .i64))) (t : Int) (hx : a.eval x = .slice (some ⟨w.heap.size, 0, none⟩) 1 1) (hb : L.length ≤ 900000) (hbase : base ≤ w.heap.size) (R : List Int) (hR : L ++ [t] = R)
    (h : ∀ v' w', w'.ownsRow base 3 1 v' R.length (R.map (Value.int .i64)) → w.grownBy w' v.ownBlock → (v'.ownBlock = v.ownBlock ∨ ∀ g, v'.ownBlock = some g → w.heap.size ≤ g) → K (a.put o.dst v') w') :
    if Region.wanted o (yielded ops a.tmps) = true then Oper.wp Try.prog o a (w.alloc (.cells #[.int .i64 t] 3)) K Q else E := by
  subst hR
  obtain ⟨i0, hi, hz0, hz1, hz2⟩ := info_parts info_iS
  refine step_append_lies _ hgd s x 24 ho base 3 i0 (.int .i64 0) 1 8 Try.underlying24 hi hz0 hz1 hz2 rfl (by decide) v L.length _ hs (hown.alloc _) ⟨w.heap.size, 0, none⟩ 1 1 [.int .i64 t] hx rfl (World.news_of_block (cs := #[.int .i64 t]) (t := 3) (fr := (0, 0)) (heap_alloc_new w _)) (by intro u hu; simp at hu; subst hu; rfl) (by omega) (by unfold maxLen; omega) (by omega) (by simp; omega) _ rfl ?_
  intro g cap w' h1 h2 h4 _
  refine h _ w' (by rw [List.map_append, List.length_append]; exact h1) ⟨h2.os, h2.tape, h2.output, by have h := h2.size; simp at h; omega, fun k hk hr => (h2.block k (by simp; omega) hr).trans (Below.heap_alloc _ _ _ hk)⟩ ?_
  rcases h4 with h4 | h4
  · exact .inl h4.symm
  · refine .inr fun q e => ?_
    have e2 : g = q := Option.some.inj e
    simp at h4
    omega

end Go.Proofs.Ytkefpjbdkhifhaa
