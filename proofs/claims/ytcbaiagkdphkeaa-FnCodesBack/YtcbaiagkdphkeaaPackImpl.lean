/-
  The walks of the program's PackBits: a writer of bits in memory.
-/
import Derived.Test.YtcbaiagkdphkeaaPackSpec
import Derived.Outline
namespace Go.Proofs.Ytcbaiagkdphkeaa
open Go.RowKit

/-- The writer of bits, as it lies in memory: the bits bs are laid. -/
def Wr (w : World) (tb : Nat) (v : Value) (bs : List Bool) : Prop :=
  w.heap[tb]? = some (Obj.cells #[v, .int .i64 bs.length] 84 (0, 0)) ∧ w.ownsRow (tb + 1) 5 1 v (packB bs).length ((packB bs).map (Value.int .u8))

/-- What a call that writes bits leaves as it was: all below the writer, and every box of a field. -/
structure Wf (B : Nat) (w w' : World) : Prop where
  below : Below B w w'
  boxes : ∀ (k : Nat) (cs : Array Value), w.heap[k]? = some (Obj.cells cs 30 (0, 0)) → w'.heap[k]? = some (Obj.cells cs 30 (0, 0))

theorem Wf.refl (B : Nat) (w : World) : Wf B w w := ⟨Below.refl _ _, fun _ _ h => h⟩
theorem Wf.trans {B : Nat} {a b c : World} (h : Wf B a b) (g : Wf B b c) : Wf B a c := ⟨h.below.trans g.below, fun k cs hk => g.boxes k cs (h.boxes k cs hk)⟩
theorem Wf.alloc {B : Nat} {a b : World} (h : Wf B a b) (hB : B ≤ b.heap.size) (o : Obj) : Wf B a (b.alloc o) :=
  ⟨h.below.alloc hB o, fun k cs hk => by
    have h1 := h.boxes k cs hk
    have : k < b.heap.size := by obtain ⟨h, _⟩ := Array.getElem?_eq_some_iff.1 h1; exact h
    rw [Below.heap_alloc _ _ _ this]; exact h1⟩
theorem Wf.drewN {B : Nat} {a b : World} (h : Wf B a b) (q : Nat) : Wf B a (b.drewN q) := ⟨⟨h.below.os, h.below.tape, h.below.output, h.below.size, h.below.block⟩, h.boxes⟩
theorem Wf.drew {B : Nat} {a b : World} (h : Wf B a b) : Wf B a b.drew := ⟨h.below.drew, h.boxes⟩
theorem Wf.grown {B : Nat} {a b c : World} {row : Option Nat} (h : Wf B a b) (hg : b.grownBy c row) (hB : B ≤ b.heap.size) (hr : ∀ g, row = some g → B ≤ g ∧ ∀ (cs : Array Value), b.heap[g]? ≠ some (Obj.cells cs 30 (0, 0))) : Wf B a c :=
  ⟨h.below.grown hg hB (fun g e => (hr g e).1), fun k cs hk => by
    have h1 := h.boxes k cs hk
    have : k < b.heap.size := by obtain ⟨h, _⟩ := Array.getElem?_eq_some_iff.1 h1; exact h
    rw [hg.block k this (fun e => (hr k e.symm).2 cs h1)]; exact h1⟩
theorem Wf.set {B : Nat} {a b : World} (h : Wf B a b) (g j : Nat) (u : Value) (hB : B ≤ g) (hne : ∀ (cs : Array Value), b.heap[g]? ≠ some (Obj.cells cs 30 (0, 0))) : Wf B a (b.setCell ⟨g, j, none⟩ u) :=
  ⟨h.below.setCell hB u, fun k cs hk => by
    have h1 := h.boxes k cs hk
    rw [Below.heap_setCell _ _ _ _ (fun e => by subst e; exact hne cs h1)]; exact h1⟩

section
variable {w : World} {tb : Nat} {v : Value} {bs : List Bool}
theorem Wr.c0 (h : Wr w tb v bs) : w.cell? ⟨tb, 0, none⟩ = some v := by rw [cell_of_row w tb 0 _ _ (0, 0) h.1]; rfl
theorem Wr.c1 (h : Wr w tb v bs) : w.cell? ⟨tb, 1, none⟩ = some (.int .i64 bs.length) := by rw [cell_of_row w tb 1 _ _ (0, 0) h.1]; rfl
theorem Wr.fz (h : Wr w tb v bs) (j : Nat) : w.frozen? ⟨tb, j, none⟩ = false := frozen_of_row w tb j _ _ h.1
theorem Wr.lt (h : Wr w tb v bs) : tb < w.heap.size := by obtain ⟨h, _⟩ := Array.getElem?_eq_some_iff.1 h.1; exact h
theorem Wr.notBox (h : Wr w tb v bs) : ∀ (cs : Array Value), w.heap[tb]? ≠ some (Obj.cells cs 30 (0, 0)) := by intro cs e; rw [h.1] at e; simp at e
theorem Wr.alloc (h : Wr w tb v bs) (o : Obj) : Wr (w.alloc o) tb v bs := ⟨(Below.heap_alloc _ _ _ h.lt).trans h.1, h.2.alloc o⟩
theorem Wr.drewN (h : Wr w tb v bs) (q : Nat) : Wr (w.drewN q) tb v bs := h
end
theorem own_notBox {w : World} {base n : Nat} {v : Value} {xs : List Value} (h : w.ownsRow base 5 1 v n xs) : ∀ g, v.ownBlock = some g → base ≤ g ∧ ∀ (cs : Array Value), w.heap[g]? ≠ some (Obj.cells cs 30 (0, 0)) := by
  intro g e
  refine ⟨(h.lt g e).1, fun cs hc => ?_⟩
  rcases h.2 with ⟨hv, _⟩ | ⟨g', cap, cur, hv, _, hh, _⟩
  · rw [hv] at e; simp [Value.ownBlock] at e
  · rw [hv] at e; simp [Value.ownBlock] at e; subst e; rw [hh] at hc; simp at hc

theorem leftW (tb : Nat) (v : Value) (bs : List Bool) (w : World) (ht : Wr w tb v bs) (hb : bs.length ≤ 480000) :
    Calls Try.prog 99 #[.pointer (some ⟨tb, 0, none⟩)] w fun e w' => e = .returned (.int .i64 (480000 - bs.length)) ∧ w' = w := by
  have c1 := ht.c1
  go_enter Try.func99, Try.ntmps99
  go_wp2
  go_ret
  exact ⟨rfl, rfl⟩

/-- The bytes with a one laid, in the place where they are: the writer has its byte. -/
theorem put_true (bs : List Bool) : (packB (bs ++ [true])).length = bs.length / 8 + 1 := by rw [packB_len]; simp; omega

/-- The writer with the byte there into which the next bit goes. -/
def Wm (w : World) (tb : Nat) (v : Value) (bs : List Bool) : Prop :=
  w.heap[tb]? = some (Obj.cells #[v, .int .i64 bs.length] 84 (0, 0)) ∧ w.ownsRow (tb + 1) 5 1 v (bs.length / 8 + 1) ((packB (bs ++ [true])).map (Value.int .u8))

theorem Wm.one {w : World} {tb : Nat} {v : Value} {bs : List Bool} (h : Wm w tb v bs) : Wr (w.setCell ⟨tb, 1, none⟩ (.int .i64 ((bs.length : Int) + 1))) tb v (bs ++ [true]) := by
  refine ⟨?_, ?_⟩
  · have e := heap_setCell_same w tb 1 _ _ (.int .i64 ((bs.length : Int) + 1)) h.1
    rw [e]; simp
  · rw [put_true]; exact ownsRow_setCell_below h.2 (by simp) _
theorem Wm.zero {w : World} {tb g n cap : Nat} {bs : List Bool} (h : Wm w tb (.slice (some ⟨g, 0, none⟩) n cap) bs) (hn : n = bs.length / 8 + 1) (u : Int) (hu : u = byteAt bs (8 * (bs.length / 8)) - 2 ^ (7 - bs.length % 8)) :
    Wr ((w.setCell ⟨g, bs.length / 8, none⟩ (.int .u8 u)).setCell ⟨tb, 1, none⟩ (.int .i64 ((bs.length : Int) + 1))) tb (.slice (some ⟨g, 0, none⟩) n cap) (bs ++ [false]) := by
  subst hn
  have hg := (h.2.lt g rfl).1
  have hst := h.2.stored (bs.length / 8) (.int .u8 u)
  have h1 : (w.setCell ⟨g, bs.length / 8, none⟩ (.int .u8 u)).heap[tb]? = some (Obj.cells #[.slice (some ⟨g, 0, none⟩) (bs.length / 8 + 1) cap, .int .i64 bs.length] 84 (0, 0)) := by
    rw [Below.heap_setCell _ _ _ _ (by show tb ≠ g; omega)]; exact h.1
  have hl : (packB (bs ++ [false])).length = bs.length / 8 + 1 := by rw [packB_false, List.length_set, put_true]
  refine ⟨?_, ?_⟩
  · have e := heap_setCell_same _ tb 1 _ _ (.int .i64 ((bs.length : Int) + 1)) h1
    rw [e]; simp
  · have e : (packB (bs ++ [false])).map (Value.int .u8) = ((packB (bs ++ [true])).map (Value.int .u8)).set (bs.length / 8) (.int .u8 u) := by
      rw [packB_false, List.map_set, hu]
    rw [hl, e]
    exact ownsRow_setCell_below hst.1 (by simp) _
theorem Wm.byte {w : World} {tb g n cap : Nat} {bs : List Bool} (h : Wm w tb (.slice (some ⟨g, 0, none⟩) n cap) bs) (hn : n = bs.length / 8 + 1) : w.cell? ⟨g, bs.length / 8, none⟩ = some (.int .u8 (byteAt bs (8 * (bs.length / 8)))) := by
  subst hn
  rw [h.2.cellAt _ (by omega), List.getElem?_map, ← packB_last bs]
  have : bs.length / 8 < (packB (bs ++ [true])).length := by rw [put_true]; omega
  simp [this]
theorem Wm.of {w : World} {tb : Nat} {v : Value} {bs : List Bool} (h : Wr w tb v bs) (h8 : ¬ bs.length % 8 = 0) : Wm w tb v bs := by
  refine ⟨h.1, ?_⟩
  have e : packB (bs ++ [true]) = packB bs := by rw [packB_true, if_neg h8]
  rw [← put_true, e]
  exact h.2
theorem Wm.app {w w1 : World} {tb : Nat} {v v' : Value} {bs : List Bool} {o : Obj} (h : Wr w tb v bs) (h8 : bs.length % 8 = 0) (hown : w1.ownsRow (tb + 1) 5 1 v' ((packB bs).length + 1) ((packB bs).map (Value.int .u8) ++ [.int .u8 255])) (hgrow : (w.alloc o).grownBy w1 v.ownBlock) :
    Wm (w1.setCell ⟨tb, 0, none⟩ v') tb v' bs := by
  have e : packB (bs ++ [true]) = packB bs ++ [255] := by rw [packB_true, if_pos h8]
  have hl := packB_len bs
  have h1 : w1.heap[tb]? = some (Obj.cells #[v, .int .i64 bs.length] 84 (0, 0)) := by
    rw [hgrow.block tb (by have := h.lt; simp; omega) (fun e => by have := (h.2.lt tb e.symm).1; omega)]; exact (h.alloc o).1
  refine ⟨heap_setCell_same w1 tb 0 _ _ v' h1, ?_⟩
  rw [e, List.map_append, show bs.length / 8 + 1 = (packB bs).length + 1 by omega]
  exact ownsRow_setCell_below hown (by simp) _
theorem Wm.appWf {w w1 : World} {tb : Nat} {v v' : Value} {bs : List Bool} {o : Obj} (h : Wr w tb v bs) (hgrow : (w.alloc o).grownBy w1 v.ownBlock) : Wf tb w (w1.setCell ⟨tb, 0, none⟩ v') := by
  have h0 : Wf tb w w1 := ((Wf.refl tb w).alloc (by have := h.lt; omega) o).grown hgrow (by have := h.lt; simp; omega) (fun g e => by have := own_notBox (h.2.alloc o) g e; exact ⟨by omega, this.2⟩)
  refine h0.set tb 0 v' (Nat.le_refl _) (fun cs hc => ?_)
  rw [hgrow.block tb (by have := h.lt; simp; omega) (fun e => by have := (h.2.lt tb e.symm).1; omega), (h.alloc o).1] at hc
  simp at hc

section
variable {w : World} {tb : Nat} {v : Value} {bs : List Bool}
theorem Wm.c0 (h : Wm w tb v bs) : w.cell? ⟨tb, 0, none⟩ = some v := by rw [cell_of_row w tb 0 _ _ (0, 0) h.1]; rfl
theorem Wm.c1 (h : Wm w tb v bs) : w.cell? ⟨tb, 1, none⟩ = some (.int .i64 bs.length) := by rw [cell_of_row w tb 1 _ _ (0, 0) h.1]; rfl
theorem Wm.fz (h : Wm w tb v bs) (j : Nat) : w.frozen? ⟨tb, j, none⟩ = false := frozen_of_row w tb j _ _ h.1
theorem Wm.oneWf (h : Wm w tb v bs) (u : Value) : Wf tb w (w.setCell ⟨tb, 1, none⟩ u) := (Wf.refl tb w).set tb 1 u (Nat.le_refl _) (fun cs hc => by rw [h.1] at hc; simp at hc)
end

theorem Wm.zeroWf {w : World} {tb g n cap : Nat} {bs : List Bool} (h : Wm w tb (.slice (some ⟨g, 0, none⟩) n cap) bs) (j : Nat) (u x : Value) : Wf tb w ((w.setCell ⟨g, j, none⟩ u).setCell ⟨tb, 1, none⟩ x) := by
  have h1 := own_notBox h.2 g rfl
  refine ((Wf.refl tb w).set g j u (by omega) h1.2).set tb 1 x (Nat.le_refl _) (fun cs hc => ?_)
  rw [Below.heap_setCell _ _ _ _ (by show tb ≠ g; omega), h.1] at hc
  simp at hc

set_option maxHeartbeats 1600000 in
theorem implPut_app1 (tb : Nat) (v : Value) (bs : List Bool) (w : World) (ht : Wr w tb v bs) (hb : bs.length < 480000) (h8 : bs.length % 8 = 0) :
    Calls Try.prog 102 #[.pointer (some ⟨tb, 0, none⟩), .int .i64 1] w fun e w' => e = .returned (.tuple #[]) ∧ ∃ v', Wr w' tb v' (bs ++ [true]) ∧ Wf tb w w' := by
  obtain ⟨i0, hi, hz0, hz1, hz2⟩ := info_parts Try.info5
  have c0 := ht.c0
  have c1 := ht.c1
  have hm : ((bs.length : Int) % 8 == 0) = true := by simp; omega
  have hpl : (packB bs).length ≤ 60001 := by rw [packB_len]; omega
  have ho := ht.2
  go_enter Try.func102, Try.ntmps102
  go_wp2_with (at_builtin; refine wpList_append_own _ rfl _ _ 22 rfl (tb + 1) 5 i0 (.int .u8 0) 1 1 Try.underlying22 hi hz0 hz1 hz2 rfl (by decide) _ _ _ rfl (ho.alloc _) ⟨w.heap.size, 0, none⟩ 1 1 [.int .u8 255] rfl rfl (cell_one_new _ _ _) ?d2 ?d3 ?d4 ?d5 ?_)
  case d2 => first | rfl | (intro u hu; simp at hu; subst hu; rfl)
  case d3 => unfold maxLen; omega
  case d4 => omega
  case d5 => have := ht.lt; simp; omega
  intro v' w1 hown' hgrow _
  have hwm := Wm.app ht h8 hown' hgrow
  have hwf := Wm.appWf (v' := v') ht hgrow
  have hk : w1.heap[tb]? = some (Obj.cells #[v, .int .i64 bs.length] 84 (0, 0)) := by
    rw [hgrow.block tb (by have := ht.lt; simp; omega) (fun e => by have := (ht.2.lt tb e.symm).1; omega)]; exact (ht.alloc _).1
  have d0 : w1.cell? ⟨tb, 0, none⟩ = some v := by rw [cell_of_row w1 tb 0 _ _ (0, 0) hk]; rfl
  have d1 : w1.cell? ⟨tb, 1, none⟩ = some (.int .i64 bs.length) := by rw [cell_of_row w1 tb 1 _ _ (0, 0) hk]; rfl
  have e0 : w1.frozen? ⟨tb, 0, none⟩ = false := frozen_of_row w1 tb 0 _ _ hk
  have e1 : w1.frozen? ⟨tb, 1, none⟩ = false := frozen_of_row w1 tb 1 _ _ hk
  obtain ⟨bo, cap', rfl⟩ := own_form hown'
  have HWM := hide hwm
  have HWF := hide hwf
  clear hown' hgrow ho c0 c1 hk hwm hwf hi hz0 hz1 hz2
  go_wp2
  go_end0
  exact ⟨rfl, _, (unhide HWM).one, (unhide HWF).trans ((unhide HWM).oneWf _)⟩

set_option maxHeartbeats 1600000 in
theorem implPut_app0 (tb : Nat) (v : Value) (bs : List Bool) (w : World) (ht : Wr w tb v bs) (hb : bs.length < 480000) (h8 : bs.length % 8 = 0) :
    Calls Try.prog 102 #[.pointer (some ⟨tb, 0, none⟩), .int .i64 0] w fun e w' => e = .returned (.tuple #[]) ∧ ∃ v', Wr w' tb v' (bs ++ [false]) ∧ Wf tb w w' := by
  obtain ⟨i0, hi, hz0, hz1, hz2⟩ := info_parts Try.info5
  have c0 := ht.c0
  have c1 := ht.c1
  have hm : ((bs.length : Int) % 8 == 0) = true := by simp; omega
  have hpl : (packB bs).length ≤ 60001 := by rw [packB_len]; omega
  have ho := ht.2
  go_enter Try.func102, Try.ntmps102
  go_wp2_with (at_builtin; refine wpList_append_own _ rfl _ _ 22 rfl (tb + 1) 5 i0 (.int .u8 0) 1 1 Try.underlying22 hi hz0 hz1 hz2 rfl (by decide) _ _ _ rfl (ho.alloc _) ⟨w.heap.size, 0, none⟩ 1 1 [.int .u8 255] rfl rfl (cell_one_new _ _ _) ?d2 ?d3 ?d4 ?d5 ?_)
  case d2 => first | rfl | (intro u hu; simp at hu; subst hu; rfl)
  case d3 => unfold maxLen; omega
  case d4 => omega
  case d5 => have := ht.lt; simp; omega
  intro v' w1 hown' hgrow _
  have hwm := Wm.app ht h8 hown' hgrow
  have hwf := Wm.appWf (v' := v') ht hgrow
  have hk : w1.heap[tb]? = some (Obj.cells #[v, .int .i64 bs.length] 84 (0, 0)) := by
    rw [hgrow.block tb (by have := ht.lt; simp; omega) (fun e => by have := (ht.2.lt tb e.symm).1; omega)]; exact (ht.alloc _).1
  have d0 : w1.cell? ⟨tb, 0, none⟩ = some v := by rw [cell_of_row w1 tb 0 _ _ (0, 0) hk]; rfl
  have d1 : w1.cell? ⟨tb, 1, none⟩ = some (.int .i64 bs.length) := by rw [cell_of_row w1 tb 1 _ _ (0, 0) hk]; rfl
  have e0 : w1.frozen? ⟨tb, 0, none⟩ = false := frozen_of_row w1 tb 0 _ _ hk
  have e1 : w1.frozen? ⟨tb, 1, none⟩ = false := frozen_of_row w1 tb 1 _ _ hk
  obtain ⟨bo, cap', rfl⟩ := own_form hown'
  obtain ⟨g, rfl, hg, _⟩ := own_at hown' (by omega)
  have hL : bs.length / 8 = (packB bs).length := by have := packB_len bs; omega
  have hx := Wm.byte hwm (by omega)
  rw [hL] at hx
  have hfx : (w1.setCell ⟨tb, 0, none⟩ (.slice (some ⟨g, 0, none⟩) ((packB bs).length + 1) cap')).frozen? ⟨g, (packB bs).length, none⟩ = false := by
    have := hwm.2
    rw [← hL] at this ⊢
    exact this.frozenAt _
  have hbb := byteAt_bound bs (8 * (bs.length / 8))
  have hbit := (byteAt_false bs (bs.length / 8) (bs.length % 8) (by omega) (by omega)).2
  rw [hL] at hbb hbit
  have HWM := hide hwm
  have HWF := hide hwf
  have HL := hide hL
  have HBIT := hide hbit
  have hm0 : ((bs.length : Int) % 8) = 0 := by omega
  clear hown' hgrow ho c0 c1 hk hwm hwf hi hz0 hz1 hz2 hL hbit
  generalize hy : byteAt bs (8 * (packB bs).length) = y at *
  have HY := hide hy
  generalize (packB bs).length = L at *
  clear hy
  go_wp2
  go_region
  go_wp2
  go_end0
  have hu : bits BinOp.andNot IntKind.u8 y 128 = byteAt bs (8 * (bs.length / 8)) - 2 ^ (7 - bs.length % 8) := by
    have h := andNot_u8 y (bs.length % 8) hbb.1 hbb.2 (by omega) (unhide HBIT)
    rw [h8] at h ⊢
    rw [unhide HL, unhide HY]
    exact h
  have hz := Wm.zero (unhide HWM) (by have := unhide HL; omega) _ hu
  rw [unhide HL] at hz
  refine ⟨rfl, _, hz, ?_⟩
  exact ((unhide HWF).trans ((unhide HWM).zeroWf L _ _)).drew

set_option maxHeartbeats 1600000 in
theorem implPut_on1 (tb : Nat) (v : Value) (bs : List Bool) (w : World) (ht : Wr w tb v bs) (hb : bs.length < 480000) (h8 : ¬ bs.length % 8 = 0) :
    Calls Try.prog 102 #[.pointer (some ⟨tb, 0, none⟩), .int .i64 1] w fun e w' => e = .returned (.tuple #[]) ∧ ∃ v', Wr w' tb v' (bs ++ [true]) ∧ Wf tb w w' := by
  have hm : ((bs.length : Int) % 8 == 0) = false := by simp; omega
  have hwm := Wm.of ht h8
  have d0 := ht.c0
  have d1 := ht.c1
  have e0 := ht.fz 0
  have e1 := ht.fz 1
  have HWM := hide hwm
  clear hwm ht
  go_enter Try.func102, Try.ntmps102
  go_wp2
  go_end0
  exact ⟨rfl, _, (unhide HWM).one, (unhide HWM).oneWf _⟩

set_option maxHeartbeats 1600000 in
theorem implPut_on0 (tb : Nat) (v : Value) (bs : List Bool) (w : World) (ht : Wr w tb v bs) (hb : bs.length < 480000) (h8 : ¬ bs.length % 8 = 0) :
    Calls Try.prog 102 #[.pointer (some ⟨tb, 0, none⟩), .int .i64 0] w fun e w' => e = .returned (.tuple #[]) ∧ ∃ v', Wr w' tb v' (bs ++ [false]) ∧ Wf tb w w' := by
  have hm : ((bs.length : Int) % 8 == 0) = false := by simp; omega
  have hwm := Wm.of ht h8
  obtain ⟨bo, cap', rfl⟩ := own_form hwm.2
  obtain ⟨g, rfl, hg, _⟩ := own_at hwm.2 (by omega)
  have hx := Wm.byte hwm rfl
  have hfx := hwm.2.frozenAt (bs.length / 8)
  have d0 := ht.c0
  have d1 := ht.c1
  have e0 := ht.fz 0
  have e1 := ht.fz 1
  have hbb := byteAt_bound bs (8 * (bs.length / 8))
  have HBIT := hide (byteAt_false bs (bs.length / 8) (bs.length % 8) (by omega) (by omega)).2
  have HWM := hide hwm
  generalize hL : bs.length / 8 = L at *
  generalize hy : byteAt bs (8 * L) = y at *
  have HY := hide hy
  have HL := hide hL
  have hL2 : L ≤ 60000 := by omega
  clear hwm ht hy hL
  go_enter Try.func102, Try.ntmps102
  go_wp2
  go_region
  go_wp2
  go_end0
  have hu : bits BinOp.andNot IntKind.u8 y (128 / 2 ^ (bs.length % 8)) = byteAt bs (8 * (bs.length / 8)) - 2 ^ (7 - bs.length % 8) := by
    rw [unhide HL, unhide HY]
    exact andNot_u8 y (bs.length % 8) hbb.1 hbb.2 (by omega) (unhide HBIT)
  have hz := Wm.zero (unhide HWM) (by have := unhide HL; omega) _ hu
  rw [unhide HL] at hz
  exact ⟨rfl, _, hz, ((unhide HWM).zeroWf L _ _).drew⟩

theorem implPut (tb : Nat) (v : Value) (bs : List Bool) (c : Int) (w : World) (ht : Wr w tb v bs) (hb : bs.length < 480000) (hc : c = 0 ∨ c = 1) :
    Calls Try.prog 102 #[.pointer (some ⟨tb, 0, none⟩), .int .i64 c] w fun e w' => e = .returned (.tuple #[]) ∧ ∃ v', Wr w' tb v' (bs ++ [decide (c = 1)]) ∧ Wf tb w w' := by
  by_cases h8 : bs.length % 8 = 0
  · rcases hc with rfl | rfl
    · exact implPut_app0 tb v bs w ht hb h8
    · exact implPut_app1 tb v bs w ht hb h8
  · rcases hc with rfl | rfl
    · exact implPut_on0 tb v bs w ht hb h8
    · exact implPut_on1 tb v bs w ht hb h8

set_option maxHeartbeats 1600000 in
theorem implEachBit (tb : Nat) (v : Value) (bs : List Bool) (l : Nat) (y : Int) (w : World) (ht : Wr w tb v bs) (hb : bs.length + l ≤ 480000) (hl : l ≤ 16) (hy0 : 0 ≤ y) (hy1 : y < 65536) :
    Calls Try.prog 101 #[.agg #[.int .i64 l, .int .i64 y], .func (Fn.func 102) #[.pointer (some ⟨tb, 0, none⟩)] #[]] w fun e w' => e = .returned (.tuple #[]) ∧ ∃ v', Wr w' tb v' (bs ++ bitsOf l y) ∧ Wf tb w w' := by
  have hlt := ht.lt
  have t0 : Hid (Wr (w.alloc (.cells #[.int .i64 l, .int .i64 y] 30)) tb v bs) := ht.alloc _
  have hbox : Hid ((w.alloc (.cells #[.int .i64 l, .int .i64 y] 30)).heap[w.heap.size]? = some (Obj.cells #[.int .i64 l, .int .i64 y] 30 (0, 0))) := heap_alloc_new w _
  have f0 : Hid (Wf tb w (w.alloc (.cells #[.int .i64 l, .int .i64 y] 30))) := (Wf.refl tb w).alloc (by omega) _
  clear ht
  go_enter Try.func101, Try.ntmps101
  go_wp2
  go_loopw [4] (fun i wr => ∃ (j : Nat) (u : Value), j ≤ l ∧ i = .int .i64 ((l : Int) - 1 - j) ∧ Wr wr tb u (bs ++ (bitsOf l y).take j) ∧ Wf tb (w.alloc (.cells #[.int .i64 l, .int .i64 y] 30)) wr) (fun i _ => (intOf i + 1).toNat)
  case atStart => exact ⟨0, v, Nat.zero_le _, by go_num, by simpa using unhide t0, Wf.refl _ _⟩
  case round =>
    obtain ⟨j, u, hj, rfl, htk, hwf⟩ := hrel
    by_cases hlt' : j < l
    · have hbk := hwf.boxes _ _ (unhide hbox)
      have cv : wr.cell? ⟨w.heap.size, 1, none⟩ = some (.int .i64 y) := by rw [cell_of_row wr w.heap.size 1 _ _ (0, 0) hbk]; rfl
      have HT := hide (bitsOf_take l y j hlt')
      have hs := shr_small y hy0 hy1 (l - 1 - j)
      have hlen : (bs ++ (bitsOf l y).take j).length < 480000 := by rw [List.length_append, List.length_take, bitsOf_len]; omega
      have HS := hide hs
      have hgj : (j : Int) ≤ (l : Int) - 1 := by omega
      clear hbk hs
      go_wp2_with fail
      refine (implPut tb u _ (bits BinOp.and IntKind.i64 (y / 2 ^ (l - 1 - j)) 1) wr htk hlen ?_).mono ?_
      · rw [and1_i64 _ (unhide HS).1 (by have := (unhide HS).2; omega)]; omega
      rintro e w1 ⟨rfl, u1, ht1, hwf1⟩
      have hR : Wr w1 tb u1 (bs ++ (bitsOf l y).take (j + 1)) := by
        rw [and1_i64 _ (unhide HS).1 (by have := (unhide HS).2; omega)] at ht1
        rw [unhide HT, ← List.append_assoc]; exact ht1
      have hF := hwf.trans hwf1
      clear ht1 hwf1 htk hwf cv HT hlen
      go_wp2
      go_roundw
      case rel => exact ⟨j + 1, u1, by omega, by go_num, hR, hF⟩
      case measure => simp [intOf]; omega
    · have hjl : j = l := by omega
      subst hjl
      have e : (bitsOf j y).take j = bitsOf j y := List.take_of_length_le (by rw [bitsOf_len]; exact Nat.le_refl _)
      rw [e] at htk
      clear e
      go_wp2
      go_end0
      exact ⟨rfl, u, htk, (unhide f0).trans hwf⟩

end Go.Proofs.Ytcbaiagkdphkeaa
