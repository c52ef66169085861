/-
  TabKit, TabImpl, TabZig, TabImpl2, TabZig2, CutPure, PassGive, TabZigSpec, TabSpec.
-/
import Derived.Test.YtfgglainjaplgaaRows
import Derived.Deep.WholeRow
import Derived.Deep.MidRow
import Derived.ChangeKeysEq
import Derived.Laws.ResultCell
import Derived.Maps.AppendAt
import Derived.Deep.RegionHeld3
import Derived.Shelf.Abstract
import Derived.Test.YtfgglainjaplgaaMDb

namespace Go.Proofs.Ytfgglainjaplgaa
open Go.RowKit

theorem load_row {P : Program} {ops : Array Oper} {rest : List Oper} {op : Oper} {a : Act} {w : World} {Q : Exit → Act → World → Prop} (hw : Region.wanted op (yielded ops a.tmps) = true) (ty : TypeId) (x : Operand) (ho : op.op = .load ty x)
    (b : Nat) (hx : a.eval x = .pointer (some ⟨b, 0, none⟩)) (X : Array Value) (t : TypeId) (hb : w.heap[b]? = some (.cells X t (0, 0))) (d : TypeDesc)
    (hu : P.underlying ty = some d) (hd : d.isRow = true) (hi : (P.info? ty).map (·.size) = some X.size)
    (h : wpList P ops Q rest (a.put op.dst (.agg X)) w) : wpList P ops Q (op :: rest) a w :=
  BigFrame.wpList_want hw fun _ hK => wp_load_mid ty x ho b 0 hx X.toList d (fun j v hv => by rw [cell_of_row w b (0 + j) X t (0, 0) hb]; simpa using hv) hu hd (by simpa using hi) (hK _ _ (by simpa using h))
theorem exec_row {P : Program} {ev : Operand → Value} {op : Oper} {w : World} (ty : TypeId) (x : Operand) (ho : op.op = .load ty x) (b : Nat) (hx : ev x = .pointer (some ⟨b, 0, none⟩)) (X : Array Value) (t : TypeId) (hb : w.heap[b]? = some (.cells X t (0, 0))) (d : TypeDesc)
    (hu : P.underlying ty = some d) (hd : (match d with | .struct _ | .array _ _ => true | _ => false) = true) (hi : (P.info? ty).map (·.size) = some X.size) : (execOp ev op).run P w = .ok (.value (.agg X)) w := by
  unfold execOp
  simp only [ho, hx, Instr.loadAt, Instr.sureAddr, Sem.run_bind, Sem.run_pure, Result.andThen_ok, run_loadVar_row w b t ty X (0, 0) d hb hu hd hi]
theorem results_c1 {fn : Func} {p : Tmp} {ty : TypeId} (h : fn.results = #[.cell p ty]) (tmps : Array Value) (P : Program) (w : World) :
    (results fn tmps).run P w = ((asAddr (tmps.getD p undef)).run P w).andThen fun a w₁ => (loadVar ty a).run P w₁ := by
  simp only [results, h]
  simp [Sem.run_bind, Result.andThen]
theorem results_c2 {fn : Func} {p q : Tmp} {ty : TypeId} (h : fn.results = #[.cell p ty, .tmp q]) (tmps : Array Value) (P : Program) (w : World) (g : Nat) (hp : tmps.getD p undef = .pointer (some ⟨g, 0, none⟩)) (x : Value) (hl : (loadVar ty ⟨g, 0, none⟩).run P w = .ok x w) :
    (results fn tmps).run P w = .ok (.tuple #[x, tmps.getD q undef]) w := by
  simp only [results, h]
  have ha : (asAddr (.pointer (some ⟨g, 0, none⟩))).run P w = .ok ⟨g, 0, none⟩ w := by simp [asAddr]
  have hp' : tmps[p]?.getD undef = .pointer (some ⟨g, 0, none⟩) := by simpa using hp
  simp [Sem.run_bind, Result.andThen, hp', hl, ha]
theorem load_mid {P : Program} {ops : Array Oper} {rest : List Oper} {op : Oper} {a : Act} {w : World} {Q : Exit → Act → World → Prop} (hw : Region.wanted op (yielded ops a.tmps) = true) (ty : TypeId) (x : Operand) (ho : op.op = .load ty x)
    (b off : Nat) (hx : a.eval x = .pointer (some ⟨b, off, none⟩)) (X : Array Value) (hb : ∀ j v, X[j]? = some v → w.cell? ⟨b, off + j, none⟩ = some v) (d : TypeDesc)
    (hu : P.underlying ty = some d) (hd : d.isRow = true) (hi : (P.info? ty).map (·.size) = some X.size)
    (h : wpList P ops Q rest (a.put op.dst (.agg X)) w) : wpList P ops Q (op :: rest) a w :=
  BigFrame.wpList_want hw fun _ hK => wp_load_mid ty x ho b off hx X.toList d (fun j v hv => hb j v (by simpa using hv)) hu hd (by simpa using hi) (hK _ _ (by simpa using h))
theorem grown_row (w : World) (g : Nat) (X : Array Value) : w.grownBy (w.setRow g X) (some g) :=
  ⟨rfl, rfl, rfl, by simp [World.setRow], fun k _ hk => setRow_other w g k X (fun e => hk (by simp [e]))⟩
theorem step_store_row {P : Program} {op : Oper} {a : Act} {w : World} {K : Act → World → Prop} {Q : Exit → Act → World → Prop} {t0 : Bool} {Z : Prop} (hw : t0 = true) (ty : TypeId) (x y : Operand) (ho : op.op = .store ty x y)
    (b : Nat) (hx : a.eval x = .pointer (some ⟨b, 0, none⟩)) (X : Array Value) (hy : a.eval y = .agg X) (Y : Array Value) (t : TypeId) (hb : w.heap[b]? = some (.cells Y t (0, 0))) (hYX : Y.size = X.size)
    (hi : (P.info? ty).map (·.size) = some X.size) (h1 : X.all (·.oneCell') = true)
    (h : ∀ w', w'.heap[b]? = some (.cells X t (0, 0)) → w.grownBy w' (some b) → K (a.put op.dst undef) w') : if t0 = true then Oper.wp P op a w K Q else Z := by
  rw [if_pos hw]
  unfold Oper.wp execOp
  simp only [ho, hx, hy, Instr.storeAt, Instr.sureAddr, Sem.run_bind, Sem.run_pure, Result.andThen_ok, run_storeVar_row w b t ty Y X hb hi hYX h1]
  exact h _ (setRow_heap w b Y X t _ hb) (grown_row w b X)
theorem store_row {P : Program} {ops : Array Oper} {rest : List Oper} {op : Oper} {a : Act} {w : World} {Q : Exit → Act → World → Prop} (hw : Region.wanted op (yielded ops a.tmps) = true) (ty : TypeId) (x y : Operand) (ho : op.op = .store ty x y)
    (b : Nat) (hx : a.eval x = .pointer (some ⟨b, 0, none⟩)) (X : Array Value) (hy : a.eval y = .agg X) (Y : Array Value) (t : TypeId) (hb : w.heap[b]? = some (.cells Y t (0, 0))) (hYX : Y.size = X.size)
    (hi : (P.info? ty).map (·.size) = some X.size) (h1 : X.all (·.oneCell') = true)
    (h : ∀ w', w'.heap[b]? = some (.cells X t (0, 0)) → w.grownBy w' (some b) → wpList P ops Q rest (a.put op.dst undef) w') : wpList P ops Q (op :: rest) a w :=
  BigFrame.wpList_want hw fun K hK => by
    unfold Oper.wp execOp
    simp only [ho, hx, hy, Instr.storeAt, Instr.sureAddr, Sem.run_bind, Sem.run_pure, Result.andThen_ok, run_storeVar_row w b t ty Y X hb hi hYX h1]
    exact hK _ _ (h _ (setRow_heap w b Y X t _ hb) (grown_row w b X))

/-- The cells of numbers. -/
def sq (zs : List Int) : Array Value := (zs.map (Value.int .i64)).toArray
theorem sq_size (zs : List Int) : (sq zs).size = zs.length := by simp [sq]
theorem sq_one (zs : List Int) : (sq zs).all (·.oneCell') = true := by simp [sq, Value.oneCell']
theorem sq_at (zs : List Int) (i : Nat) (h : i < zs.length) : (sq zs)[i]? = some (.int .i64 (zs.getD i 0)) := by simp [sq, h]
/-- Sixty-four noughts. -/
def zs64 : List Int := List.replicate 64 0
theorem zs64_len : zs64.length = 64 := by simp [zs64]
theorem sq_z64 : sq zs64 = #[.int .i64 0, .int .i64 0, .int .i64 0, .int .i64 0, .int .i64 0, .int .i64 0, .int .i64 0, .int .i64 0, .int .i64 0, .int .i64 0, .int .i64 0, .int .i64 0, .int .i64 0, .int .i64 0, .int .i64 0, .int .i64 0, .int .i64 0, .int .i64 0, .int .i64 0, .int .i64 0, .int .i64 0, .int .i64 0, .int .i64 0, .int .i64 0, .int .i64 0, .int .i64 0, .int .i64 0, .int .i64 0, .int .i64 0, .int .i64 0, .int .i64 0, .int .i64 0, .int .i64 0, .int .i64 0, .int .i64 0, .int .i64 0, .int .i64 0, .int .i64 0, .int .i64 0, .int .i64 0, .int .i64 0, .int .i64 0, .int .i64 0, .int .i64 0, .int .i64 0, .int .i64 0, .int .i64 0, .int .i64 0, .int .i64 0, .int .i64 0, .int .i64 0, .int .i64 0, .int .i64 0, .int .i64 0, .int .i64 0, .int .i64 0, .int .i64 0, .int .i64 0, .int .i64 0, .int .i64 0, .int .i64 0, .int .i64 0, .int .i64 0, .int .i64 0] := by rfl
/-- A list whose first k numbers are f's. -/
def mix (f : Nat → Int) (zs : List Int) (k : Nat) : List Int := (List.range k).map f ++ zs.drop k
/-- Sixty-four numbers of f. -/
def made (f : Nat → Int) : List Int := (List.range 64).map f
theorem made_len (f : Nat → Int) : (made f).length = 64 := by simp [made]
theorem made_at (f : Nat → Int) (i : Nat) (h : i < 64) : (made f).getD i 0 = f i := by simp [made, h]
theorem made_take (f : Nat → Int) (k : Nat) (h : k < 64) (z : Int) (hz : z = f k) : (made f).take k ++ [z] = (made f).take (k + 1) := by
  subst hz
  rw [List.take_add_one]
  have : (made f)[k]? = some (f k) := by simp [made, h]
  rw [this]
  rfl
theorem made_take_all (f : Nat → Int) : (made f).take 64 = made f := List.take_of_length_le (by rw [made_len]; exact Nat.le_refl _)
theorem mix_zero (f : Nat → Int) (zs : List Int) : mix f zs 0 = zs := by simp [mix]
theorem mix_all (f : Nat → Int) (zs : List Int) (h : zs.length = 64) : mix f zs 64 = made f := by simp [mix, made, List.drop_eq_nil_of_le (Nat.le_of_eq h)]
theorem mix_len (f : Nat → Int) (zs : List Int) (k : Nat) (h : k ≤ zs.length) : (mix f zs k).length = zs.length := by simp [mix]; omega
theorem mix_set (f : Nat → Int) (zs : List Int) (k : Nat) (h : k < zs.length) : (sq (mix f zs k)).setIfInBounds k (.int .i64 (f k)) = sq (mix f zs (k + 1)) := by
  unfold sq mix
  apply Array.ext'
  simp only [List.setIfInBounds_toArray, List.map_append, List.range_succ, List.map_cons, List.map_nil, List.append_assoc]
  rw [List.set_append_right _ _ (by simp), List.drop_eq_getElem_cons h]
  simp only [List.map_cons, List.length_map, List.length_range, Nat.sub_self, List.set_cons_zero, List.cons_append, List.nil_append]
theorem made_congr {f g : Nat → Int} (h : ∀ p, p < 64 → f p = g p) : made f = made g := by
  unfold made
  apply List.map_congr_left
  intro p hp
  exact h p (by simpa using hp)
theorem made_set (f : Nat → Int) (j : Nat) (v : Int) (hj : j < 64) : (sq (made f)).setIfInBounds j (.int .i64 v) = sq (made (fun p => if p = j then v else f p)) := by
  apply Array.ext_getElem?
  intro i
  by_cases hi : i < 64
  · rw [Array.getElem?_setIfInBounds, sq_at _ i (by rw [made_len]; exact hi), sq_at _ i (by rw [made_len]; exact hi), sq_size, made_len, made_at _ i hi, made_at _ i hi]
    by_cases e : j = i
    · subst e; simp [hj]
    · simp [e, Ne.symm e]
  · rw [Array.getElem?_eq_none (by simp [sq_size, made_len]; omega), Array.getElem?_eq_none (by simp [sq_size, made_len]; omega)]
theorem sq_rd {w : World} {b off n : Nat} {zs : List Int} (h : Rd .i64 w (some ⟨b, off, none⟩) n zs) : ∀ j v, (sq zs)[j]? = some v → w.cell? ⟨b, off + j, none⟩ = some v := by
  intro j v hj
  have hjl : j < n := by
    have := (Array.getElem?_eq_some_iff.1 hj).1
    rw [sq_size, h.1] at this; exact this
  obtain ⟨b', off', e, hc⟩ := h.2 j hjl
  simp only [Option.some.injEq, Addr.mk.injEq, and_true] at e
  obtain ⟨rfl, rfl⟩ := e
  rw [hc, ← sq_at zs j (by rw [h.1]; exact hjl), hj]
theorem sq_cell {w : World} {g : Nat} {zs : List Int} {t : TypeId} (hb : w.heap[g]? = some (.cells (sq zs) t (0, 0))) (i : Nat) (h : i < zs.length) : w.cell? ⟨g, i, none⟩ = some (.int .i64 (zs.getD i 0)) := by
  rw [cell_of_row w _ i _ _ (0, 0) hb]; exact sq_at zs i h
theorem sq_frozen {w : World} {g : Nat} {zs : List Int} {t : TypeId} (hb : w.heap[g]? = some (.cells (sq zs) t (0, 0))) (i : Nat) : w.frozen? ⟨g, i, none⟩ = false := frozen_of_row w g i _ _ hb
/-- A number of an array that is held as a value. -/
theorem idx {zs : List Int} (hz : zs.length = 64) (k : Int) (h0 : 0 ≤ k) (h1 : k < 64) (w : World) : (Instr.index 73 (.agg (sq zs)) (.int .i64 k)).run Try.prog w = .ok (.int .i64 (zs.getD k.toNat 0)) w := by
  have h := sq_at zs k.toNat (by omega)
  simp [Instr.index, asIntOf, Sem.run_bind, run_underlying Try.underlying73, run_underlying Try.underlying3, Result.andThen_ok, h0, h1, Go.part, isAgg, h]

/-- One number more behind a row of one's own. -/
theorem append_int {w : World} {ops : Array Oper} {rest : List Oper} {o : Oper} {a : Act} {Q : Exit → Act → World → Prop} (hgd : o.guard = none) (s x : Operand)
    (ho : o.op = .call { callee := .builtin .append, args := #[s, x], argTypes := #[24, 24] })
    (B : World) (v : Value) (n : Nat) (xs : List Int) (hs : a.eval s = v) (hown : w.ownsRow B.heap.size 3 1 v n (xs.map (Value.int .i64))) (z : Int) (hx : a.eval x = .slice (some ⟨w.heap.size, 0, none⟩) 1 1)
    (hb : n + 1 ≤ 1000000) (hB : B.grownBy w none)
    (h : ∀ v' w', w'.ownsRow B.heap.size 3 1 v' (n + 1) ((xs ++ [z]).map (Value.int .i64)) → B.grownBy w' none → wpList Try.prog ops Q rest (a.put o.dst v') w') :
    wpList Try.prog ops Q (o :: rest) a (w.alloc (.cells #[.int .i64 z] 3)) := by
  obtain ⟨i0, hi, hz0, hz1, hz2⟩ := info_parts Try.info3
  refine wpList_append_own _ hgd s x 24 ho B.heap.size 3 i0 (.int .i64 0) 1 8 Try.underlying24 hi hz0 hz1 hz2 rfl (by decide) v n _ hs (hown.alloc _) ⟨w.heap.size, 0, none⟩ 1 1 [.int .i64 z] hx rfl (cell_one_new _ _ _) (by intro u hu; simp at hu; subst hu; rfl) (by unfold maxLen; omega) (by omega) (by have := hB.size; simp; omega) ?_
  intro v' w' h1 h2 _
  refine h v' w' (by rw [List.map_append]; exact h1) (grown_new (grown_alloc hB _) h2 (fun g e => (hown.lt g e).1))

/-- A row of one's own that grows from the block g0 on, all other blocks of S staying as they are. -/
structure OutI (B S : World) (g0 : Nat) (wr : World) (v : Value) (n : Nat) (xs : List Int) : Prop where
  own : wr.ownsRow B.heap.size 3 1 v n (xs.map (Value.int .i64))
  base : B.grownBy wr none
  kept : S.grownBy wr (some g0)
  lies : ∀ g, v.ownBlock = some g → g = g0 ∨ S.heap.size ≤ g
theorem append_out {w : World} {ops : Array Oper} {rest : List Oper} {o : Oper} {a : Act} {Q : Exit → Act → World → Prop} (hgd : o.guard = none) (s x : Operand)
    (ho : o.op = .call { callee := .builtin .append, args := #[s, x], argTypes := #[24, 24] })
    (B S : World) (g0 : Nat) (v : Value) (n : Nat) (xs : List Int) (hs : a.eval s = v) (hown : OutI B S g0 w v n xs) (z : Int) (hx : a.eval x = .slice (some ⟨w.heap.size, 0, none⟩) 1 1)
    (hb : n + 1 ≤ 1000000)
    (h : ∀ v' w', OutI B S g0 w' v' (n + 1) (xs ++ [z]) → wpList Try.prog ops Q rest (a.put o.dst v') w') :
    wpList Try.prog ops Q (o :: rest) a (w.alloc (.cells #[.int .i64 z] 3)) := by
  obtain ⟨i0, hi, hz0, hz1, hz2⟩ := info_parts Try.info3
  refine wpList_append_own_at _ hgd s x 24 ho B.heap.size 3 i0 (.int .i64 0) 1 8 Try.underlying24 hi hz0 hz1 hz2 rfl (by decide) v n _ hs (hown.own.alloc _) ⟨w.heap.size, 0, none⟩ 1 1 [.int .i64 z] hx rfl (cell_one_new _ _ _) (by intro u hu; simp at hu; subst hu; rfl) (by unfold maxLen; omega) (by omega) (by have := hown.base.size; simp; omega) ?_
  intro v' w' h1 h2 _ h4
  have hsz := hown.kept.size
  refine h v' w' ⟨by rw [List.map_append]; exact h1, grown_new (grown_alloc hown.base _) h2 (fun g e => (hown.own.lt g e).1), ?_, ?_⟩
  · have hA : S.grownBy (w.alloc (.cells #[.int .i64 z] 3)) (some g0) := grown_trans hown.kept (World.grownBy_alloc _ _ _)
    refine ⟨h2.os.trans hA.os, h2.tape.trans hA.tape, h2.output.trans hA.output, Nat.le_trans hA.size h2.size, fun k hk hne => (h2.block k (Nat.lt_of_lt_of_le hk hA.size) ?_).trans (hA.block k hk hne)⟩
    intro e
    rcases hown.lies k e.symm with e2 | e2
    · exact hne (by rw [e2])
    · omega
  · intro g e
    rcases h4 with h4 | h4
    · exact hown.lies g (by rw [← h4]; exact e)
    · rw [h4] at e
      simp at e
      right; omega

/-- Squares compared. -/
theorem eqSq {zs ys : List Int} (hz : zs.length = 64) (hy : ys.length = 64) (w : World) : (Op.equalIn 10000 73 (.agg (sq zs)) (.agg (sq ys))).run Try.prog w = .ok (zs == ys) w := by
  obtain ⟨i0, hi, _⟩ := info_parts Try.info3
  rw [run_equalIn_array w 9999 (sq zs) (sq ys) Try.underlying73 hi]
  have hc : Try.prog.cellsOf 3 = 1 := by kernel_rfl
  rw [hc]
  have key : ∀ (l : List Nat), (∀ i ∈ l, i < 64) → (Op.eqItems 9999 3 1 (sq zs) (sq ys) l).run Try.prog w = .ok (l.all fun i => zs.getD i 0 == ys.getD i 0) w := by
    intro l hl
    induction l with
    | nil => simp [Op.eqItems]
    | cons i l ih =>
      have hi : i < 64 := hl i (by simp)
      have h1 := sq_at zs i (by omega)
      have h2 := sq_at ys i (by omega)
      have px : (Go.part 3 (sq zs) (i * 1)).run Try.prog w = .ok (.int .i64 (zs.getD i 0)) w := by
        rw [Nat.mul_one]; simp [Go.part, isAgg, run_underlying Try.underlying3, h1]
      have py : (Go.part 3 (sq ys) (i * 1)).run Try.prog w = .ok (.int .i64 (ys.getD i 0)) w := by
        rw [Nat.mul_one]; simp [Go.part, isAgg, run_underlying Try.underlying3, h2]
      simp only [Op.eqItems, Sem.run_bind, px, py, Result.andThen_ok, run_equalIn_int w 9998 3 .i64 .i64 _ _ Try.underlying3, List.all_cons]
      cases hb : (zs.getD i 0 == ys.getD i 0)
      · simp
      · simp only [Bool.not_true, Bool.false_eq_true, if_false, Bool.true_and]
        exact ih fun j hj => hl j (by simp [hj])
  rw [key _ (fun i hi => by simpa using hi)]
  refine congrArg (fun b => Result.ok b w) ?_
  generalize hN : (64 : Nat) = N at *
  rw [Bool.eq_iff_iff]
  simp only [List.all_eq_true, List.mem_range, beq_iff_eq]
  constructor
  · intro h
    apply List.ext_getElem?
    intro i
    by_cases hi : i < N
    · have := h i hi
      rw [List.getElem?_eq_getElem (by omega), List.getElem?_eq_getElem (by omega)]
      simpa [List.getD_eq_getElem?_getD, show i < zs.length by omega, show i < ys.length by omega] using this
    · rw [List.getElem?_eq_none (by omega), List.getElem?_eq_none (by omega)]
  · rintro rfl i _; rfl

end Go.Proofs.Ytfgglainjaplgaa

namespace Go.Proofs.Ytfgglainjaplgaa
open Go.RowKit

set_option maxRecDepth 20000 in
set_option maxHeartbeats 800000 in
theorem each (zs : List Int) (hz : zs.length = 64) (f : Nat → Int) (g : Nat) (lb : Array Value) (eg : ∀ args w, (callFunc g args).run Try.prog w = .ok (.enter g args) w) (w : World)
    (HC : Hid (∀ k, k < 64 → ∀ W, w.grownBy W none → Calls Try.prog g (#[.int .i64 (zs.getD k 0)] ++ lb) W fun e W' => e = .returned (.int .i64 (f k)) ∧ W.grownBy W' none)) :
    Calls Try.prog 77 #[.agg (sq zs), .func (.func g) #[] lb] w fun e w' => e = .returned (.agg (sq (made f))) ∧ w.grownBy w' none := by
  have hs : (sq zs).size = 64 := by rw [sq_size, hz]
  obtain ⟨W0, hW0⟩ : ∃ W0, ((w.alloc (.cells (sq zs) 73)).alloc (.cells #[.int .i64 0, .int .i64 0, .int .i64 0, .int .i64 0, .int .i64 0, .int .i64 0, .int .i64 0, .int .i64 0, .int .i64 0, .int .i64 0, .int .i64 0, .int .i64 0, .int .i64 0, .int .i64 0, .int .i64 0, .int .i64 0, .int .i64 0, .int .i64 0, .int .i64 0, .int .i64 0, .int .i64 0, .int .i64 0, .int .i64 0, .int .i64 0, .int .i64 0, .int .i64 0, .int .i64 0, .int .i64 0, .int .i64 0, .int .i64 0, .int .i64 0, .int .i64 0, .int .i64 0, .int .i64 0, .int .i64 0, .int .i64 0, .int .i64 0, .int .i64 0, .int .i64 0, .int .i64 0, .int .i64 0, .int .i64 0, .int .i64 0, .int .i64 0, .int .i64 0, .int .i64 0, .int .i64 0, .int .i64 0, .int .i64 0, .int .i64 0, .int .i64 0, .int .i64 0, .int .i64 0, .int .i64 0, .int .i64 0, .int .i64 0, .int .i64 0, .int .i64 0, .int .i64 0, .int .i64 0, .int .i64 0, .int .i64 0, .int .i64 0, .int .i64 0] 73)) = W0 := ⟨_, rfl⟩
  have b0 : W0.heap[w.heap.size]? = some (.cells (sq zs) 73 (0, 0)) := by
    rw [← hW0, Below.heap_alloc _ _ _ (by simp)]
    exact heap_alloc_new w _
  have b1 : W0.heap[w.heap.size + 1]? = some (.cells (sq zs64) 73 (0, 0)) := by
    rw [← hW0, sq_z64]
    have := heap_alloc_new (w.alloc (.cells (sq zs) 73)) (.cells #[.int .i64 0, .int .i64 0, .int .i64 0, .int .i64 0, .int .i64 0, .int .i64 0, .int .i64 0, .int .i64 0, .int .i64 0, .int .i64 0, .int .i64 0, .int .i64 0, .int .i64 0, .int .i64 0, .int .i64 0, .int .i64 0, .int .i64 0, .int .i64 0, .int .i64 0, .int .i64 0, .int .i64 0, .int .i64 0, .int .i64 0, .int .i64 0, .int .i64 0, .int .i64 0, .int .i64 0, .int .i64 0, .int .i64 0, .int .i64 0, .int .i64 0, .int .i64 0, .int .i64 0, .int .i64 0, .int .i64 0, .int .i64 0, .int .i64 0, .int .i64 0, .int .i64 0, .int .i64 0, .int .i64 0, .int .i64 0, .int .i64 0, .int .i64 0, .int .i64 0, .int .i64 0, .int .i64 0, .int .i64 0, .int .i64 0, .int .i64 0, .int .i64 0, .int .i64 0, .int .i64 0, .int .i64 0, .int .i64 0, .int .i64 0, .int .i64 0, .int .i64 0, .int .i64 0, .int .i64 0, .int .i64 0, .int .i64 0, .int .i64 0, .int .i64 0] 73)
    simpa using this
  have hsz : W0.heap.size = w.heap.size + 2 := by rw [← hW0]; simp
  have G0 : Hid (w.grownBy W0 none) := by rw [← hW0]; exact grown_alloc (grown_alloc (World.grownBy.refl _ _) _) _
  have HW := hide hW0
  have B0 := hide b0
  have B1 := hide b1
  have HS := hide hs
  have HZ := hide hz
  clear hW0 b0 b1 hz
  go_enter Try.func77, Try.ntmps77
  go_wp2_with (rw [unhide HW]; refine load_row rfl 73 _ rfl w.heap.size rfl (sq zs) 73 (unhide B0) _ Try.underlying73 rfl (by rw [unhide HS]; kernel_rfl) ?_)
  clear HW hs
  go_loopw [8] (fun i wr => ∃ k : Nat, k ≤ 64 ∧ i = .int .i64 k ∧ wr.heap[w.heap.size]? = some (.cells (sq (mix f zs k)) 73 (0, 0)) ∧ W0.grownBy wr (some w.heap.size)) (fun i _ => 64 - (intOf i).toNat)
  case atStart => exact ⟨0, Nat.zero_le _, rfl, by rw [mix_zero]; exact unhide B0, World.grownBy.refl _ _⟩
  case round =>
    obtain ⟨k, hk, rfl, hM, hgk⟩ := hrel
    by_cases hlt : k < 64
    · have hat := fun w => idx (unhide HZ) (k : Int) (by omega) (by omega) w
      simp only [Int.toNat_natCast] at hat
      have hl : (mix f zs k).length = 64 := (mix_len f zs k (by have := unhide HZ; omega)).trans (unhide HZ)
      have G1 : Hid (w.grownBy wr none) := grown_new (unhide G0) hgk (fun g e => by simp at e; omega)
      go_wp2_with fail
      refine (unhide HC k hlt wr (unhide G1)).mono ?_
      rintro e W2 ⟨rfl, g2⟩
      have hM2 := (g2.block w.heap.size (by have := hgk.size; omega) (by simp)).trans hM
      have c2 := sq_cell hM2 k (by omega)
      have f2 := sq_frozen hM2 k
      have hM3 := heap_setCell_same W2 w.heap.size k _ _ (.int .i64 (f k)) hM2
      rw [mix_set f zs k (by have := unhide HZ; omega)] at hM3
      have hg3 := grown_trans (grown_trans hgk (grown_any g2)) (grown_set W2 w.heap.size k (.int .i64 (f k)))
      have H3 := hide hM3
      have HG3 := hide hg3
      clear hM hM2 hM3 hg3 hgk g2 hat
      go_wp2
      go_roundw
      case rel => exact ⟨k + 1, by omega, by go_num, unhide H3, unhide HG3⟩
      case measure => simp [intOf]; omega
    · obtain rfl : k = 64 := by omega
      rw [mix_all f zs (unhide HZ)] at hM
      have hbr := (hgk.block (w.heap.size + 1) (by omega) (by simp)).trans (unhide B1)
      have hms : (sq (made f)).size = 64 := by rw [sq_size, made_len]
      have HM := hide hM
      have HBR := hide hbr
      have HMS := hide hms
      clear hM hbr hms
      go_wp2_with (first | (refine load_row rfl 73 _ rfl w.heap.size rfl (sq (made f)) 73 (unhide HM) _ Try.underlying73 rfl (by rw [unhide HMS]; kernel_rfl) ?_) | (refine store_row rfl 73 _ _ rfl (w.heap.size + 1) rfl (sq (made f)) rfl (sq zs64) 73 (unhide HBR) (by rw [unhide HMS, sq_size, zs64_len]) (by rw [unhide HMS]; kernel_rfl) (sq_one _) ?_; intro w3 hB3 g3))
      refine bodyPost_ret (v := .agg (sq (made f))) ?_ rfl ⟨rfl, ?_⟩
      · rw [results_c1 rfl]
        exact run_loadVar_row w3 _ 73 73 _ (0, 0) _ hB3 Try.underlying73 rfl (by rw [unhide HMS]; kernel_rfl)
      · exact grown_new (grown_new (unhide G0) hgk (fun g e => by simp at e; omega)) g3 (fun g e => by simp at e; omega)

theorem ints_one (zs : List Int) : ∀ u ∈ zs.map (Value.int .i64), u.oneCell' = true := by
  intro u hu
  obtain ⟨y, _, rfl⟩ := List.mem_map.1 hu
  rfl
theorem rd_newsI {w : World} {x : Addr} {m : Nat} {zs : List Int} (h : Rd .i64 w (some x) m zs) : ∀ j u, (zs.map (Value.int .i64))[j]? = some u → w.cell? (x.add j) = some u := by
  intro j u hj
  have hl := h.1
  have hjl : j < m := by
    have := (List.getElem?_eq_some_iff.1 hj).1
    simp at this; omega
  obtain ⟨b, off, e, hc⟩ := h.2 j hjl
  simp only [Option.some.injEq] at e
  subst e
  rw [Addr.add_lit, hc]
  rw [List.getElem?_map] at hj
  have hj2 : j < zs.length := by omega
  simp [hj2] at hj ⊢
  exact hj

set_option maxRecDepth 20000 in
theorem clone (ad : Addr) (cap : Nat) (zs : List Int) (w : World) (hr : Rd .i64 w (some ad) 64 zs) :
    Calls Try.prog 67 #[.slice (some ad) 64 cap] w fun e w' => ∃ v, e = .returned v ∧ w'.ownsRow w.heap.size 3 1 v 64 (zs.map (Value.int .i64)) ∧ w.grownBy w' none := by
  obtain ⟨i0, hi, hz0, hz1, hz2⟩ := info_parts Try.info3
  have HR := hide hr
  clear hr
  have hne : ∀ w, (binOp .eql 24 (.slice (some ad) 64 cap) (.slice none 0 0)).run Try.prog w = .ok (.bool false) w := fun w => by kernel_rfl
  go_enter Try.func67, Try.ntmps67
  go_wp2_with (at_builtin; refine wpList_append_own _ rfl _ _ 24 rfl w.heap.size 3 i0 (.int .i64 0) 1 8 Try.underlying24 hi hz0 hz1 hz2 rfl (by decide) _ 0 [] rfl (World.ownsRow_lit w #[] 0 (Nat.le_refl _) (by decide) rfl) ad 64 cap (zs.map (Value.int .i64)) rfl (by simp [(unhide HR).1]) (rd_newsI ((unhide HR).grown (World.grownBy_alloc _ _ _))) (ints_one zs) (by decide) (by decide) (by simp) ?_)
  intro v' w' hown hg _
  go_wp2
  go_ret
  exact ⟨_, rfl, hown, grown_new (World.grownBy_alloc _ _ _) hg (fun g e => by simp [Value.ownBlock] at e; omega)⟩

theorem list (zs : List Int) (hz : zs.length = 64) (w : World) :
    Calls Try.prog 56 #[.agg (sq zs)] w fun e w' => ∃ v, e = .returned v ∧ w'.ownsRow w.heap.size 3 1 v 64 (zs.map (Value.int .i64)) ∧ w.grownBy w' none := by
  have hr : Rd .i64 (w.alloc (.cells (sq zs) 73)) (some ⟨w.heap.size, 0, none⟩) 64 zs :=
    ⟨hz, fun i hi => ⟨_, _, rfl, by rw [Nat.zero_add]; exact sq_cell (heap_alloc_new w _) i (by omega)⟩⟩
  go_enter Try.func56, Try.ntmps56
  go_wp2_with fail
  refine (clone _ _ zs _ hr).mono ?_
  rintro e w1 ⟨v, rfl, ho, hg⟩
  go_wp2
  go_ret
  exact ⟨_, rfl, own_base ho (by simp), grown_trans (grown_alloc (World.grownBy.refl _ _) _) hg⟩

end Go.Proofs.Ytfgglainjaplgaa

namespace Go.Proofs.Ytfgglainjaplgaa
open Go.RowKit

/-- The order of waves. -/
def zzN : List Nat := [0, 1, 8, 16, 9, 2, 3, 10, 17, 24, 32, 25, 18, 11, 4, 5, 12, 19, 26, 33, 40, 48, 41, 34, 27, 20, 13, 6, 7, 14, 21, 28, 35, 42, 49, 56, 57, 50, 43, 36, 29, 22, 15, 23, 30, 37, 44, 51, 58, 59, 52, 45, 38, 31, 39, 46, 53, 60, 61, 54, 47, 55, 62, 63]
def zzL : List Int := zzN.map Int.ofNat
def zzF (k : Nat) : Int := zzL.getD k 0
/-- How many come ahead of a slanting line. -/
def lineAt : Nat → Nat
  | 0 => 0
  | s + 1 => lineAt s + (min s 7 + 1 - (s - 7))
theorem zz_len : zzL.length = 64 := by rfl
theorem line_end : lineAt 15 = 64 := by rfl
theorem line_le : ∀ s, s < 15 → lineAt s + (min s 7 + 1 - (s - 7)) ≤ 64 := by decide
theorem zz_made : made zzF = zzL := by rfl
theorem zz_up : ∀ s, s < 15 → ∀ i, i < min s 7 + 1 - (s - 7) → s % 2 = 0 → zzN.getD (lineAt s + i) 0 = 8 * (min s 7 - i) + s - (min s 7 - i) := by decide
theorem zz_down : ∀ s, s < 15 → ∀ i, i < min s 7 + 1 - (s - 7) → ¬ s % 2 = 0 → zzN.getD (lineAt s + i) 0 = 8 * ((s - 7) + i) + s - ((s - 7) + i) := by decide
theorem zzF_eq (k : Nat) : zzF k = (zzN.getD k 0 : Nat) := by
  simp only [zzF, zzL, List.getD_eq_getElem?_getD, List.getElem?_map]
  cases zzN[k]? <;> rfl

set_option maxRecDepth 20000 in
set_option maxHeartbeats 1600000 in
theorem zigZag (w : World) :
    Calls Try.prog 74 #[] w fun e w' => e = .returned (.agg (sq zzL)) ∧ w.grownBy w' none := by
  obtain ⟨W0, hW0⟩ : ∃ W0, (w.alloc (.cells #[.int .i64 0, .int .i64 0, .int .i64 0, .int .i64 0, .int .i64 0, .int .i64 0, .int .i64 0, .int .i64 0, .int .i64 0, .int .i64 0, .int .i64 0, .int .i64 0, .int .i64 0, .int .i64 0, .int .i64 0, .int .i64 0, .int .i64 0, .int .i64 0, .int .i64 0, .int .i64 0, .int .i64 0, .int .i64 0, .int .i64 0, .int .i64 0, .int .i64 0, .int .i64 0, .int .i64 0, .int .i64 0, .int .i64 0, .int .i64 0, .int .i64 0, .int .i64 0, .int .i64 0, .int .i64 0, .int .i64 0, .int .i64 0, .int .i64 0, .int .i64 0, .int .i64 0, .int .i64 0, .int .i64 0, .int .i64 0, .int .i64 0, .int .i64 0, .int .i64 0, .int .i64 0, .int .i64 0, .int .i64 0, .int .i64 0, .int .i64 0, .int .i64 0, .int .i64 0, .int .i64 0, .int .i64 0, .int .i64 0, .int .i64 0, .int .i64 0, .int .i64 0, .int .i64 0, .int .i64 0, .int .i64 0, .int .i64 0, .int .i64 0, .int .i64 0] 73)).alloc (.cells #[.int .i64 0, .int .i64 0, .int .i64 0, .int .i64 0, .int .i64 0, .int .i64 0, .int .i64 0, .int .i64 0, .int .i64 0, .int .i64 0, .int .i64 0, .int .i64 0, .int .i64 0, .int .i64 0, .int .i64 0, .int .i64 0, .int .i64 0, .int .i64 0, .int .i64 0, .int .i64 0, .int .i64 0, .int .i64 0, .int .i64 0, .int .i64 0, .int .i64 0, .int .i64 0, .int .i64 0, .int .i64 0, .int .i64 0, .int .i64 0, .int .i64 0, .int .i64 0, .int .i64 0, .int .i64 0, .int .i64 0, .int .i64 0, .int .i64 0, .int .i64 0, .int .i64 0, .int .i64 0, .int .i64 0, .int .i64 0, .int .i64 0, .int .i64 0, .int .i64 0, .int .i64 0, .int .i64 0, .int .i64 0, .int .i64 0, .int .i64 0, .int .i64 0, .int .i64 0, .int .i64 0, .int .i64 0, .int .i64 0, .int .i64 0, .int .i64 0, .int .i64 0, .int .i64 0, .int .i64 0, .int .i64 0, .int .i64 0, .int .i64 0, .int .i64 0] 73) = W0 := ⟨_, rfl⟩
  have G0 : w.grownBy W0 none := by rw [← hW0]; exact grown_alloc (World.grownBy_alloc _ _ _) _
  have b0 : W0.heap[w.heap.size]? = some (.cells (sq zs64) 73 (0, 0)) := by rw [← hW0, sq_z64, Below.heap_alloc _ _ _ (by simp)]; exact heap_alloc_new w _
  have b1 : W0.heap[w.heap.size + 1]? = some (.cells #[.int .i64 0, .int .i64 0, .int .i64 0, .int .i64 0, .int .i64 0, .int .i64 0, .int .i64 0, .int .i64 0, .int .i64 0, .int .i64 0, .int .i64 0, .int .i64 0, .int .i64 0, .int .i64 0, .int .i64 0, .int .i64 0, .int .i64 0, .int .i64 0, .int .i64 0, .int .i64 0, .int .i64 0, .int .i64 0, .int .i64 0, .int .i64 0, .int .i64 0, .int .i64 0, .int .i64 0, .int .i64 0, .int .i64 0, .int .i64 0, .int .i64 0, .int .i64 0, .int .i64 0, .int .i64 0, .int .i64 0, .int .i64 0, .int .i64 0, .int .i64 0, .int .i64 0, .int .i64 0, .int .i64 0, .int .i64 0, .int .i64 0, .int .i64 0, .int .i64 0, .int .i64 0, .int .i64 0, .int .i64 0, .int .i64 0, .int .i64 0, .int .i64 0, .int .i64 0, .int .i64 0, .int .i64 0, .int .i64 0, .int .i64 0, .int .i64 0, .int .i64 0, .int .i64 0, .int .i64 0, .int .i64 0, .int .i64 0, .int .i64 0, .int .i64 0] 73 (0, 0)) := by
    rw [← hW0]
    have := heap_alloc_new (w.alloc (.cells #[.int .i64 0, .int .i64 0, .int .i64 0, .int .i64 0, .int .i64 0, .int .i64 0, .int .i64 0, .int .i64 0, .int .i64 0, .int .i64 0, .int .i64 0, .int .i64 0, .int .i64 0, .int .i64 0, .int .i64 0, .int .i64 0, .int .i64 0, .int .i64 0, .int .i64 0, .int .i64 0, .int .i64 0, .int .i64 0, .int .i64 0, .int .i64 0, .int .i64 0, .int .i64 0, .int .i64 0, .int .i64 0, .int .i64 0, .int .i64 0, .int .i64 0, .int .i64 0, .int .i64 0, .int .i64 0, .int .i64 0, .int .i64 0, .int .i64 0, .int .i64 0, .int .i64 0, .int .i64 0, .int .i64 0, .int .i64 0, .int .i64 0, .int .i64 0, .int .i64 0, .int .i64 0, .int .i64 0, .int .i64 0, .int .i64 0, .int .i64 0, .int .i64 0, .int .i64 0, .int .i64 0, .int .i64 0, .int .i64 0, .int .i64 0, .int .i64 0, .int .i64 0, .int .i64 0, .int .i64 0, .int .i64 0, .int .i64 0, .int .i64 0, .int .i64 0] 73)) (.cells #[.int .i64 0, .int .i64 0, .int .i64 0, .int .i64 0, .int .i64 0, .int .i64 0, .int .i64 0, .int .i64 0, .int .i64 0, .int .i64 0, .int .i64 0, .int .i64 0, .int .i64 0, .int .i64 0, .int .i64 0, .int .i64 0, .int .i64 0, .int .i64 0, .int .i64 0, .int .i64 0, .int .i64 0, .int .i64 0, .int .i64 0, .int .i64 0, .int .i64 0, .int .i64 0, .int .i64 0, .int .i64 0, .int .i64 0, .int .i64 0, .int .i64 0, .int .i64 0, .int .i64 0, .int .i64 0, .int .i64 0, .int .i64 0, .int .i64 0, .int .i64 0, .int .i64 0, .int .i64 0, .int .i64 0, .int .i64 0, .int .i64 0, .int .i64 0, .int .i64 0, .int .i64 0, .int .i64 0, .int .i64 0, .int .i64 0, .int .i64 0, .int .i64 0, .int .i64 0, .int .i64 0, .int .i64 0, .int .i64 0, .int .i64 0, .int .i64 0, .int .i64 0, .int .i64 0, .int .i64 0, .int .i64 0, .int .i64 0, .int .i64 0, .int .i64 0] 73)
    simpa using this
  have s0 : W0.heap.size = w.heap.size + 2 := by rw [← hW0]; simp
  have HW := hide hW0
  have B0 := hide b0
  have B1 := hide b1
  have HG0 := hide G0
  clear hW0 b0 b1 G0
  go_enter Try.func74, Try.ntmps74
  go_wp2_with (rw [unhide HW]; clear HW; refine store_row rfl 73 _ _ rfl (w.heap.size + 1) rfl #[.int .i64 0, .int .i64 0, .int .i64 0, .int .i64 0, .int .i64 0, .int .i64 0, .int .i64 0, .int .i64 0, .int .i64 0, .int .i64 0, .int .i64 0, .int .i64 0, .int .i64 0, .int .i64 0, .int .i64 0, .int .i64 0, .int .i64 0, .int .i64 0, .int .i64 0, .int .i64 0, .int .i64 0, .int .i64 0, .int .i64 0, .int .i64 0, .int .i64 0, .int .i64 0, .int .i64 0, .int .i64 0, .int .i64 0, .int .i64 0, .int .i64 0, .int .i64 0, .int .i64 0, .int .i64 0, .int .i64 0, .int .i64 0, .int .i64 0, .int .i64 0, .int .i64 0, .int .i64 0, .int .i64 0, .int .i64 0, .int .i64 0, .int .i64 0, .int .i64 0, .int .i64 0, .int .i64 0, .int .i64 0, .int .i64 0, .int .i64 0, .int .i64 0, .int .i64 0, .int .i64 0, .int .i64 0, .int .i64 0, .int .i64 0, .int .i64 0, .int .i64 0, .int .i64 0, .int .i64 0, .int .i64 0, .int .i64 0, .int .i64 0, .int .i64 0] rfl #[.int .i64 0, .int .i64 0, .int .i64 0, .int .i64 0, .int .i64 0, .int .i64 0, .int .i64 0, .int .i64 0, .int .i64 0, .int .i64 0, .int .i64 0, .int .i64 0, .int .i64 0, .int .i64 0, .int .i64 0, .int .i64 0, .int .i64 0, .int .i64 0, .int .i64 0, .int .i64 0, .int .i64 0, .int .i64 0, .int .i64 0, .int .i64 0, .int .i64 0, .int .i64 0, .int .i64 0, .int .i64 0, .int .i64 0, .int .i64 0, .int .i64 0, .int .i64 0, .int .i64 0, .int .i64 0, .int .i64 0, .int .i64 0, .int .i64 0, .int .i64 0, .int .i64 0, .int .i64 0, .int .i64 0, .int .i64 0, .int .i64 0, .int .i64 0, .int .i64 0, .int .i64 0, .int .i64 0, .int .i64 0, .int .i64 0, .int .i64 0, .int .i64 0, .int .i64 0, .int .i64 0, .int .i64 0, .int .i64 0, .int .i64 0, .int .i64 0, .int .i64 0, .int .i64 0, .int .i64 0, .int .i64 0, .int .i64 0, .int .i64 0, .int .i64 0] 73 (unhide B1) rfl (by kernel_rfl) (by rw [← sq_z64]; exact sq_one _) ?_; intro w3 hB3 g3; rw [← sq_z64] at hB3)
  go_loopw [9, 2] (fun i a wr => ∃ s : Nat, s ≤ 15 ∧ i = .int .i64 s ∧ a = .int .i64 (lineAt s : Nat) ∧ wr.heap[w.heap.size + 1]? = some (.cells (sq (mix zzF zs64 (lineAt s))) 73 (0, 0)) ∧ w3.grownBy wr (some (w.heap.size + 1))) (fun i _ _ => 15 - (intOf i).toNat)
  case atStart => exact ⟨0, Nat.zero_le _, rfl, rfl, by rw [show lineAt 0 = 0 from rfl, mix_zero]; exact hB3, World.grownBy.refl _ _⟩
  case round =>
    obtain ⟨s, hs, rfl, rfl, hM, hgk⟩ := hrel
    by_cases hlt : s < 15
    · have e1 := i64_in ((s : Int) - 8) (by omega)
      have e2 := i64_in ((s : Int) - 8 + 1) (by omega)
      by_cases h8 : s < 8
      · go_wp2
        go_loopw [22, 2] (fun i a wr => ∃ j : Nat, j ≤ min s 7 + 1 - (s - 7) ∧ i = .int .i64 j ∧ a = .int .i64 ((lineAt s + j : Nat) : Int) ∧ wr.heap[w.heap.size + 1]? = some (.cells (sq (mix zzF zs64 (lineAt s + j))) 73 (0, 0)) ∧ w3.grownBy wr (some (w.heap.size + 1))) (fun i _ _ => 64 - (intOf i).toNat)
        case atStart => exact ⟨0, Nat.zero_le _, rfl, rfl, hM, hgk⟩
        case round =>
          obtain ⟨j, hj, rfl, rfl, hMj, hgj⟩ := hrel
          by_cases hltj : j < min s 7 + 1 - (s - 7)
          · have hpos : lineAt s + j < 64 := by have := line_le s hlt; omega
            have hlen : (mix zzF zs64 (lineAt s + j)).length = 64 := (mix_len zzF zs64 _ (by rw [zs64_len]; omega)).trans zs64_len
            have c2 := sq_cell hMj (lineAt s + j) (by omega)
            have f2 := sq_frozen hMj (lineAt s + j)
            have HS : Hid (∀ v, v = zzF (lineAt s + j) → (wr.setCell ⟨w.heap.size + 1, lineAt s + j, none⟩ (.int .i64 v)).heap[w.heap.size + 1]? = some (.cells (sq (mix zzF zs64 (lineAt s + (j + 1)))) 73 (0, 0)) ∧ w3.grownBy (wr.setCell ⟨w.heap.size + 1, lineAt s + j, none⟩ (.int .i64 v)) (some (w.heap.size + 1))) := by
              rintro v rfl
              have hM3 := heap_setCell_same wr (w.heap.size + 1) (lineAt s + j) _ _ (.int .i64 (zzF (lineAt s + j))) hMj
              rw [mix_set zzF zs64 (lineAt s + j) (by rw [zs64_len]; omega)] at hM3
              exact ⟨hM3, grown_trans hgj (grown_set wr (w.heap.size + 1) (lineAt s + j) (.int .i64 (zzF (lineAt s + j))))⟩
            clear hMj hgj hlen
            by_cases hev : s % 2 = 0
            · -- even
              go_wp2
              go_roundw
              case rel => 
                refine ⟨j + 1, by omega, by go_num, congrArg (Value.int .i64) (by omega), (unhide HS _ ?_).1, (unhide HS _ ?_).2⟩
                all_goals
                  rw [zzF_eq, zz_up s hlt j hltj hev]
                  omega
              case measure => simp [intOf]; omega
            · -- odd
              go_wp2
              go_roundw
              case rel => 
                refine ⟨j + 1, by omega, by go_num, congrArg (Value.int .i64) (by omega), (unhide HS _ ?_).1, (unhide HS _ ?_).2⟩
                all_goals
                  rw [zzF_eq, zz_down s hlt j hltj hev]
                  omega
              case measure => simp [intOf]; omega
          · obtain rfl : j = min s 7 + 1 - (s - 7) := by omega
            have hml : lineAt (s + 1) = lineAt s + (min s 7 + 1 - (s - 7)) := rfl
            go_wp2
            go_roundw
            case rel => exact ⟨s + 1, by omega, by go_num, by rw [hml], by rw [hml]; exact hMj, hgj⟩
            case measure => simp [intOf]; omega
      · have e3 := i64_in (7 - ((s : Int) - 8 + 1)) (by omega)
        have e4 := i64_in (7 - ((s : Int) - 8 + 1) + 1) (by omega)
        go_wp2
        go_loopw [22, 2] (fun i a wr => ∃ j : Nat, j ≤ min s 7 + 1 - (s - 7) ∧ i = .int .i64 j ∧ a = .int .i64 ((lineAt s + j : Nat) : Int) ∧ wr.heap[w.heap.size + 1]? = some (.cells (sq (mix zzF zs64 (lineAt s + j))) 73 (0, 0)) ∧ w3.grownBy wr (some (w.heap.size + 1))) (fun i _ _ => 64 - (intOf i).toNat)
        case atStart => exact ⟨0, Nat.zero_le _, rfl, rfl, hM, hgk⟩
        case round =>
          obtain ⟨j, hj, rfl, rfl, hMj, hgj⟩ := hrel
          by_cases hltj : j < min s 7 + 1 - (s - 7)
          · have hpos : lineAt s + j < 64 := by have := line_le s hlt; omega
            have hlen : (mix zzF zs64 (lineAt s + j)).length = 64 := (mix_len zzF zs64 _ (by rw [zs64_len]; omega)).trans zs64_len
            have c2 := sq_cell hMj (lineAt s + j) (by omega)
            have f2 := sq_frozen hMj (lineAt s + j)
            have HS : Hid (∀ v, v = zzF (lineAt s + j) → (wr.setCell ⟨w.heap.size + 1, lineAt s + j, none⟩ (.int .i64 v)).heap[w.heap.size + 1]? = some (.cells (sq (mix zzF zs64 (lineAt s + (j + 1)))) 73 (0, 0)) ∧ w3.grownBy (wr.setCell ⟨w.heap.size + 1, lineAt s + j, none⟩ (.int .i64 v)) (some (w.heap.size + 1))) := by
              rintro v rfl
              have hM3 := heap_setCell_same wr (w.heap.size + 1) (lineAt s + j) _ _ (.int .i64 (zzF (lineAt s + j))) hMj
              rw [mix_set zzF zs64 (lineAt s + j) (by rw [zs64_len]; omega)] at hM3
              exact ⟨hM3, grown_trans hgj (grown_set wr (w.heap.size + 1) (lineAt s + j) (.int .i64 (zzF (lineAt s + j))))⟩
            clear hMj hgj hlen
            by_cases hev : s % 2 = 0
            · -- even
              go_wp2
              go_roundw
              case rel => 
                refine ⟨j + 1, by omega, by go_num, congrArg (Value.int .i64) (by omega), (unhide HS _ ?_).1, (unhide HS _ ?_).2⟩
                all_goals
                  rw [zzF_eq, zz_up s hlt j hltj hev]
                  omega
              case measure => simp [intOf]; omega
            · -- odd
              go_wp2
              go_roundw
              case rel => 
                refine ⟨j + 1, by omega, by go_num, congrArg (Value.int .i64) (by omega), (unhide HS _ ?_).1, (unhide HS _ ?_).2⟩
                all_goals
                  rw [zzF_eq, zz_down s hlt j hltj hev]
                  omega
              case measure => simp [intOf]; omega
          · obtain rfl : j = min s 7 + 1 - (s - 7) := by omega
            have hml : lineAt (s + 1) = lineAt s + (min s 7 + 1 - (s - 7)) := rfl
            go_wp2
            go_roundw
            case rel => exact ⟨s + 1, by omega, by go_num, by rw [hml], by rw [hml]; exact hMj, hgj⟩
            case measure => simp [intOf]; omega
    · obtain rfl : s = 15 := by omega
      rw [line_end, mix_all zzF zs64 zs64_len, zz_made] at hM
      have hbr := (hgk.block w.heap.size (by have := g3.size; omega) (by simp)).trans ((g3.block w.heap.size (by omega) (by simp)).trans (unhide B0))
      have HM := hide hM
      have HBR := hide hbr
      have HMS : Hid ((sq zzL).size = 64) := by unfold Hid; rw [sq_size, zz_len]
      have HGF : Hid (w.grownBy wr none) := grown_new (unhide HG0) (grown_trans g3 hgk) (fun g e => by simp at e; omega)
      clear hM hbr hgk g3
      go_wp2_with (first | (refine load_row rfl 73 _ rfl (w.heap.size + 1) rfl (sq zzL) 73 (unhide HM) _ Try.underlying73 rfl (by rw [unhide HMS]; kernel_rfl) ?_) | (refine store_row rfl 73 _ _ rfl w.heap.size rfl (sq zzL) rfl (sq zs64) 73 (unhide HBR) (by rw [unhide HMS, sq_size, zs64_len]) (by rw [unhide HMS]; kernel_rfl) (sq_one _) ?_; intro w4 hB4 g4))
      refine bodyPost_ret (v := .agg (sq zzL)) ?_ rfl ⟨rfl, ?_⟩
      · rw [results_c1 rfl]
        exact run_loadVar_row w4 _ 73 73 _ (0, 0) _ hB4 Try.underlying73 rfl (by rw [unhide HMS]; kernel_rfl)
      · exact grown_new (unhide HGF) g4 (fun g e => by simp at e; omega)

end Go.Proofs.Ytfgglainjaplgaa

namespace Go.Proofs.Ytfgglainjaplgaa
open Go.RowKit Go.Shelf

theorem z64_one : (#[.int .i64 0, .int .i64 0, .int .i64 0, .int .i64 0, .int .i64 0, .int .i64 0, .int .i64 0, .int .i64 0, .int .i64 0, .int .i64 0, .int .i64 0, .int .i64 0, .int .i64 0, .int .i64 0, .int .i64 0, .int .i64 0, .int .i64 0, .int .i64 0, .int .i64 0, .int .i64 0, .int .i64 0, .int .i64 0, .int .i64 0, .int .i64 0, .int .i64 0, .int .i64 0, .int .i64 0, .int .i64 0, .int .i64 0, .int .i64 0, .int .i64 0, .int .i64 0, .int .i64 0, .int .i64 0, .int .i64 0, .int .i64 0, .int .i64 0, .int .i64 0, .int .i64 0, .int .i64 0, .int .i64 0, .int .i64 0, .int .i64 0, .int .i64 0, .int .i64 0, .int .i64 0, .int .i64 0, .int .i64 0, .int .i64 0, .int .i64 0, .int .i64 0, .int .i64 0, .int .i64 0, .int .i64 0, .int .i64 0, .int .i64 0, .int .i64 0, .int .i64 0, .int .i64 0, .int .i64 0, .int .i64 0, .int .i64 0, .int .i64 0, .int .i64 0] : Array Value).all (·.oneCell') = true := by rw [← sq_z64]; exact sq_one _

set_option maxRecDepth 20000 in
set_option maxHeartbeats 800000 in
/-- A list that is no square. -/
theorem fixSquare_no (ao : Option Addr) (n cap : Nat) (g : Value) (w : World) (h : n ≠ 64) :
    Calls Try.prog 69 #[.slice ao n cap, g] w fun e w' => e = .returned (.tuple #[.agg (sq zs64), .bool false]) ∧ w.grownBy w' none := by
  have hne : ((n : Int) != 64) = true := by simp; omega
  clear h
  go_enter Try.func69, Try.ntmps69
  go_wp2_with (refine store_row rfl 73 _ _ rfl w.heap.size rfl #[.int .i64 0, .int .i64 0, .int .i64 0, .int .i64 0, .int .i64 0, .int .i64 0, .int .i64 0, .int .i64 0, .int .i64 0, .int .i64 0, .int .i64 0, .int .i64 0, .int .i64 0, .int .i64 0, .int .i64 0, .int .i64 0, .int .i64 0, .int .i64 0, .int .i64 0, .int .i64 0, .int .i64 0, .int .i64 0, .int .i64 0, .int .i64 0, .int .i64 0, .int .i64 0, .int .i64 0, .int .i64 0, .int .i64 0, .int .i64 0, .int .i64 0, .int .i64 0, .int .i64 0, .int .i64 0, .int .i64 0, .int .i64 0, .int .i64 0, .int .i64 0, .int .i64 0, .int .i64 0, .int .i64 0, .int .i64 0, .int .i64 0, .int .i64 0, .int .i64 0, .int .i64 0, .int .i64 0, .int .i64 0, .int .i64 0, .int .i64 0, .int .i64 0, .int .i64 0, .int .i64 0, .int .i64 0, .int .i64 0, .int .i64 0, .int .i64 0, .int .i64 0, .int .i64 0, .int .i64 0, .int .i64 0, .int .i64 0, .int .i64 0, .int .i64 0] rfl #[.int .i64 0, .int .i64 0, .int .i64 0, .int .i64 0, .int .i64 0, .int .i64 0, .int .i64 0, .int .i64 0, .int .i64 0, .int .i64 0, .int .i64 0, .int .i64 0, .int .i64 0, .int .i64 0, .int .i64 0, .int .i64 0, .int .i64 0, .int .i64 0, .int .i64 0, .int .i64 0, .int .i64 0, .int .i64 0, .int .i64 0, .int .i64 0, .int .i64 0, .int .i64 0, .int .i64 0, .int .i64 0, .int .i64 0, .int .i64 0, .int .i64 0, .int .i64 0, .int .i64 0, .int .i64 0, .int .i64 0, .int .i64 0, .int .i64 0, .int .i64 0, .int .i64 0, .int .i64 0, .int .i64 0, .int .i64 0, .int .i64 0, .int .i64 0, .int .i64 0, .int .i64 0, .int .i64 0, .int .i64 0, .int .i64 0, .int .i64 0, .int .i64 0, .int .i64 0, .int .i64 0, .int .i64 0, .int .i64 0, .int .i64 0, .int .i64 0, .int .i64 0, .int .i64 0, .int .i64 0, .int .i64 0, .int .i64 0, .int .i64 0, .int .i64 0] 73 (heap_alloc_new _ _) rfl (by kernel_rfl) z64_one ?_; intro w3 hB3 g3)
  rw [← sq_z64] at hB3
  refine bodyPost_ret (v := .tuple #[.agg (sq zs64), .bool false]) ?_ rfl ⟨rfl, ?_⟩
  · exact results_c2 (p := 4) (q := 5) (ty := 73) rfl _ _ _ w.heap.size rfl _ (run_loadVar_row w3 _ 73 73 _ (0, 0) _ hB3 Try.underlying73 rfl (by rw [sq_size, zs64_len]; kernel_rfl))
  · exact grown_new (World.grownBy_alloc _ _ _) g3 (fun g e => by simp at e; omega)

set_option maxRecDepth 20000 in
set_option maxHeartbeats 800000 in
/-- A list as a square, and whether f leaves each of its numbers. -/
theorem fixSquare_yes (b off cap : Nat) (zs : List Int) (w : World) (hr : Rd .i64 w (some ⟨b, off, none⟩) 64 zs) (f : Nat → Int) (g : Nat) (lb : Array Value) (eg : ∀ args w, (callFunc g args).run Try.prog w = .ok (.enter g args) w)
    (HC : Hid (∀ k, k < 64 → ∀ W, w.grownBy W none → Calls Try.prog g (#[.int .i64 (zs.getD k 0)] ++ lb) W fun e W' => e = .returned (.int .i64 (f k)) ∧ W.grownBy W' none)) :
    Calls Try.prog 69 #[.slice (some ⟨b, off, none⟩) 64 cap, .func (.func g) #[] lb] w fun e w' => e = .returned (.tuple #[.agg (sq zs), .bool (zs == made f)]) ∧ w.grownBy w' none := by
  have hz : zs.length = 64 := hr.1
  have HR := hide hr
  clear hr
  have HZ := hide hz
  clear hz
  have har : ∀ w, (Instr.arrayAt 73 (.slice (some ⟨b, off, none⟩) 64 cap)).run Try.prog w = .ok (.pointer (some ⟨b, off, none⟩)) w := fun w => by kernel_rfl
  have HSL : Hid ((sq zs).size = 64) := by unfold Hid; rw [sq_size, unhide HZ]
  have HLD : ∀ (w : World) (g : Nat), w.heap[g]? = some (.cells (sq zs) 73 (0, 0)) → (loadVar 73 ⟨g, 0, none⟩).run Try.prog w = .ok (.agg (sq zs)) w := fun w g h => run_loadVar_row w g 73 73 _ (0, 0) _ h Try.underlying73 rfl (by rw [unhide HSL]; kernel_rfl)
  have HLD' := hide HLD
  clear HLD
  obtain ⟨W0, hW0⟩ : ∃ W0, (w.alloc (.cells #[.int .i64 0, .int .i64 0, .int .i64 0, .int .i64 0, .int .i64 0, .int .i64 0, .int .i64 0, .int .i64 0, .int .i64 0, .int .i64 0, .int .i64 0, .int .i64 0, .int .i64 0, .int .i64 0, .int .i64 0, .int .i64 0, .int .i64 0, .int .i64 0, .int .i64 0, .int .i64 0, .int .i64 0, .int .i64 0, .int .i64 0, .int .i64 0, .int .i64 0, .int .i64 0, .int .i64 0, .int .i64 0, .int .i64 0, .int .i64 0, .int .i64 0, .int .i64 0, .int .i64 0, .int .i64 0, .int .i64 0, .int .i64 0, .int .i64 0, .int .i64 0, .int .i64 0, .int .i64 0, .int .i64 0, .int .i64 0, .int .i64 0, .int .i64 0, .int .i64 0, .int .i64 0, .int .i64 0, .int .i64 0, .int .i64 0, .int .i64 0, .int .i64 0, .int .i64 0, .int .i64 0, .int .i64 0, .int .i64 0, .int .i64 0, .int .i64 0, .int .i64 0, .int .i64 0, .int .i64 0, .int .i64 0, .int .i64 0, .int .i64 0, .int .i64 0] 73)).alloc (.cells #[.int .i64 0, .int .i64 0, .int .i64 0, .int .i64 0, .int .i64 0, .int .i64 0, .int .i64 0, .int .i64 0, .int .i64 0, .int .i64 0, .int .i64 0, .int .i64 0, .int .i64 0, .int .i64 0, .int .i64 0, .int .i64 0, .int .i64 0, .int .i64 0, .int .i64 0, .int .i64 0, .int .i64 0, .int .i64 0, .int .i64 0, .int .i64 0, .int .i64 0, .int .i64 0, .int .i64 0, .int .i64 0, .int .i64 0, .int .i64 0, .int .i64 0, .int .i64 0, .int .i64 0, .int .i64 0, .int .i64 0, .int .i64 0, .int .i64 0, .int .i64 0, .int .i64 0, .int .i64 0, .int .i64 0, .int .i64 0, .int .i64 0, .int .i64 0, .int .i64 0, .int .i64 0, .int .i64 0, .int .i64 0, .int .i64 0, .int .i64 0, .int .i64 0, .int .i64 0, .int .i64 0, .int .i64 0, .int .i64 0, .int .i64 0, .int .i64 0, .int .i64 0, .int .i64 0, .int .i64 0, .int .i64 0, .int .i64 0, .int .i64 0, .int .i64 0] 73) = W0 := ⟨_, rfl⟩
  have G0 : w.grownBy W0 none := by rw [← hW0]; exact grown_alloc (World.grownBy_alloc _ _ _) _
  have b0 : W0.heap[w.heap.size]? = some (.cells (sq zs64) 73 (0, 0)) := by rw [← hW0, sq_z64, Below.heap_alloc _ _ _ (by simp)]; exact heap_alloc_new w _
  have b1 : W0.heap[w.heap.size + 1]? = some (.cells (sq zs64) 73 (0, 0)) := by
    rw [← hW0, sq_z64]
    have := heap_alloc_new (w.alloc (.cells #[.int .i64 0, .int .i64 0, .int .i64 0, .int .i64 0, .int .i64 0, .int .i64 0, .int .i64 0, .int .i64 0, .int .i64 0, .int .i64 0, .int .i64 0, .int .i64 0, .int .i64 0, .int .i64 0, .int .i64 0, .int .i64 0, .int .i64 0, .int .i64 0, .int .i64 0, .int .i64 0, .int .i64 0, .int .i64 0, .int .i64 0, .int .i64 0, .int .i64 0, .int .i64 0, .int .i64 0, .int .i64 0, .int .i64 0, .int .i64 0, .int .i64 0, .int .i64 0, .int .i64 0, .int .i64 0, .int .i64 0, .int .i64 0, .int .i64 0, .int .i64 0, .int .i64 0, .int .i64 0, .int .i64 0, .int .i64 0, .int .i64 0, .int .i64 0, .int .i64 0, .int .i64 0, .int .i64 0, .int .i64 0, .int .i64 0, .int .i64 0, .int .i64 0, .int .i64 0, .int .i64 0, .int .i64 0, .int .i64 0, .int .i64 0, .int .i64 0, .int .i64 0, .int .i64 0, .int .i64 0, .int .i64 0, .int .i64 0, .int .i64 0, .int .i64 0] 73)) (.cells #[.int .i64 0, .int .i64 0, .int .i64 0, .int .i64 0, .int .i64 0, .int .i64 0, .int .i64 0, .int .i64 0, .int .i64 0, .int .i64 0, .int .i64 0, .int .i64 0, .int .i64 0, .int .i64 0, .int .i64 0, .int .i64 0, .int .i64 0, .int .i64 0, .int .i64 0, .int .i64 0, .int .i64 0, .int .i64 0, .int .i64 0, .int .i64 0, .int .i64 0, .int .i64 0, .int .i64 0, .int .i64 0, .int .i64 0, .int .i64 0, .int .i64 0, .int .i64 0, .int .i64 0, .int .i64 0, .int .i64 0, .int .i64 0, .int .i64 0, .int .i64 0, .int .i64 0, .int .i64 0, .int .i64 0, .int .i64 0, .int .i64 0, .int .i64 0, .int .i64 0, .int .i64 0, .int .i64 0, .int .i64 0, .int .i64 0, .int .i64 0, .int .i64 0, .int .i64 0, .int .i64 0, .int .i64 0, .int .i64 0, .int .i64 0, .int .i64 0, .int .i64 0, .int .i64 0, .int .i64 0, .int .i64 0, .int .i64 0, .int .i64 0, .int .i64 0] 73)
    simpa using this
  have s0 : W0.heap.size = w.heap.size + 2 := by rw [← hW0]; simp
  have HW := hide hW0
  have B0 := hide b0
  have B1 := hide b1
  have HG0 := hide G0
  clear hW0 b0 b1 G0
  go_enter Try.func69, Try.ntmps69
  go_wp2_with (first | (refine load_mid rfl 73 _ rfl b off rfl (sq zs) (sq_rd ((unhide HR).grown (World.grownBy_alloc _ _ _))) _ Try.underlying73 rfl (by rw [unhide HSL]; kernel_rfl) ?_) | (rw [unhide HW]; clear HW; refine store_row rfl 73 _ _ rfl (w.heap.size + 1) rfl (sq zs) rfl (sq zs64) 73 (unhide B1) (by rw [unhide HSL, sq_size, zs64_len]) (by rw [unhide HSL]; kernel_rfl) (sq_one zs) ?_; intro w3 hB3 g3))
  have hG3 : w.grownBy w3 none := grown_new (unhide HG0) g3 (fun g e => by simp at e; omega)
  have hR3 := (g3.block w.heap.size (by omega) (by simp)).trans (unhide B0)
  have s3 := g3.size
  have HSQ := hide (eqSq (zs := zs) (ys := made f) (unhide HZ) (made_len f))
  refine wp_region_noPanic ?_
  refine wp_region_raw (fun w' => w'.heap[w.heap.size + 1]? = some (.cells (sq zs) 73 (0, 0))) [true, true, true, true, false, false, false, false] (by kernel_rfl) (fun _ _ _ _ _ h => h) rfl (by kernel_rfl) hB3 ?_
  iterate 3
    refine heldF_take (v := .agg (sq zs)) (Or.inl ⟨by rfl, ?_⟩) ?_
    · intro w' hSw
      exact exec_row 73 _ rfl (w.heap.size + 1) rfl (sq zs) 73 hSw _ Try.underlying73 rfl (by rw [unhide HSL]; kernel_rfl)
    simp only [Act.put, List.setIfInBounds_toArray, List.set_cons_zero, List.set_cons_succ]
  refine heldF_take (v := ?_) (Or.inl ⟨by rfl, ?_⟩) ?_
  rotate_left 1
  · intro w' hSw
    go_simp
    try with_reducible rfl
  simp only [Act.put, List.setIfInBounds_toArray, List.set_cons_zero, List.set_cons_succ]
  refine heldF_skip (heldF_skip (heldF_skip (heldF_skip (heldF_nil ?_))))
  refine anyH_step1 (i := 4) rfl (by kernel_rfl) (fun K hK => ?_)
  go_simp
  refine (each zs (unhide HZ) f g lb eg _ (fun k hk W hW => unhide HC k hk W (grown_trans (grown_drew hG3) hW))).mono ?_
  rintro e w4 ⟨rfl, g4⟩
  have hB4 := (g4.block (w.heap.size + 1) (by show w.heap.size + 1 < w3.heap.size; omega) (by simp)).trans hB3
  have hR4 := (g4.block w.heap.size (by show w.heap.size < w3.heap.size; omega) (by simp)).trans hR3
  have hG4 : w.grownBy w4 none := grown_trans (grown_drew hG3) g4
  refine hK.out _ _ hB4 ?_
  clear hK K
  try simp only [Act.put, List.setIfInBounds_toArray, List.set_cons_zero, List.set_cons_succ]
  refine anyH_step2 (i := 5) (j := 6) rfl rfl (by kernel_rfl) (fun K hK => ?_) (fun K hK => ?_)
  · have hsq := unhide HSQ
    go_simp
    refine hK.out _ _ hB4 ?_
    clear hK K hsq
    try simp only [Act.put, List.setIfInBounds_toArray, List.set_cons_zero, List.set_cons_succ]
    refine anyH_step1 (i := 6) rfl (by kernel_rfl) (fun K hK => ?_)
    refine step_store_row (by rfl) 73 _ _ rfl w.heap.size rfl (sq zs) rfl (sq zs64) 73 hR4 (by rw [unhide HSL, sq_size, zs64_len]) (by rw [unhide HSL]; kernel_rfl) (sq_one zs) ?_
    intro w5 hB5 g5
    have hB5' := (g5.block (w.heap.size + 1) (Array.getElem?_eq_some_iff.1 hB4).1 (by simp)).trans hB4
    refine hK.out _ _ hB5' ?_
    clear hK K
    try simp only [Act.put]
    refine anyH_step1 (i := 7) rfl (by kernel_rfl) (fun K hK => ?_)
    go_simp
    refine hK.out _ _ hB5' ?_
    clear hK K
    try simp only [Act.put, List.setIfInBounds_toArray, List.set_cons_zero, List.set_cons_succ]
    refine wpAnyH_done (by kernel_rfl) (NoPanic.normal ?_) _
    go_wp2
    refine bodyPost_ret (v := .tuple #[.agg (sq zs), .bool (zs == made f)]) ?_ rfl ⟨rfl, ?_⟩
    · exact results_c2 (p := 4) (q := 5) (ty := 73) rfl _ _ _ w.heap.size rfl _ (unhide HLD' _ _ hB5)
    · exact grown_new hG4 g5 (fun g e => by simp at e; omega)
  · refine step_store_row (by rfl) 73 _ _ rfl w.heap.size rfl (sq zs) rfl (sq zs64) 73 hR4 (by rw [unhide HSL, sq_size, zs64_len]) (by rw [unhide HSL]; kernel_rfl) (sq_one zs) ?_
    intro w5 hB5 g5
    have hB5' := (g5.block (w.heap.size + 1) (Array.getElem?_eq_some_iff.1 hB4).1 (by simp)).trans hB4
    refine hK.out _ _ hB5' ?_
    clear hK K
    try simp only [Act.put]
    refine anyH_step1 (i := 5) rfl (by kernel_rfl) (fun K hK => ?_)
    have hsq := unhide HSQ
    go_simp
    refine hK.out _ _ hB5' ?_
    clear hK K hsq
    try simp only [Act.put, List.setIfInBounds_toArray, List.set_cons_zero, List.set_cons_succ]
    refine anyH_step1 (i := 7) rfl (by kernel_rfl) (fun K hK => ?_)
    go_simp
    refine hK.out _ _ hB5' ?_
    clear hK K
    try simp only [Act.put, List.setIfInBounds_toArray, List.set_cons_zero, List.set_cons_succ]
    refine wpAnyH_done (by kernel_rfl) (NoPanic.normal ?_) _
    go_wp2
    refine bodyPost_ret (v := .tuple #[.agg (sq zs), .bool (zs == made f)]) ?_ rfl ⟨rfl, ?_⟩
    · exact results_c2 (p := 4) (q := 5) (ty := 73) rfl _ _ _ w.heap.size rfl _ (unhide HLD' _ _ hB5)
    · exact grown_new hG4 g5 (fun g e => by simp at e; omega)

/-- A block that is ok, a table that is ok. -/
def numsB (lo hi : Int) (zs : List Int) : Bool := decide (zs.length = 64) && zs.all (fun n => decide (lo ≤ n ∧ n ≤ hi))
theorem clip_same {lo hi : Int} (h : lo ≤ hi) (zs : List Int) (hz : zs.length = 64) : (zs == made (fun k => min (max (zs.getD k 0) lo) hi)) = numsB lo hi zs := by
  rw [Bool.eq_iff_iff]
  simp only [numsB, hz, decide_true, Bool.true_and, beq_iff_eq, List.all_eq_true, decide_eq_true_eq]
  constructor
  · intro e n hn
    obtain ⟨i, hi', rfl⟩ := List.getElem_of_mem hn
    have h1 : zs.getD i 0 = (made (fun k => min (max (zs.getD k 0) lo) hi)).getD i 0 := by rw [← e]
    rw [made_at _ i (by omega)] at h1
    have h2 : zs.getD i 0 = zs[i] := by simp [hi']
    rw [h2] at h1
    omega
  · intro hall
    apply List.ext_getElem?
    intro i
    by_cases hi' : i < zs.length
    · have h1 := hall zs[i] (List.getElem_mem hi')
      rw [List.getElem?_eq_getElem hi', List.getElem?_eq_getElem (by rw [made_len]; omega)]
      simp only [made, List.getElem_map, List.getElem_range, Option.some.injEq]
      have h2 : zs.getD i 0 = zs[i] := by simp [hi']
      rw [h2]
      omega
    · rw [List.getElem?_eq_none (by omega), List.getElem?_eq_none (by rw [made_len]; omega)]

end Go.Proofs.Ytfgglainjaplgaa

namespace Go.Proofs.Ytfgglainjaplgaa
open Go.RowKit

def zz (k : Nat) : Nat := zzN.getD k 0
/-- Where a place stands in the order of waves. -/
def zzI (p : Nat) : Nat := zzN.idxOf p
theorem zz_lt : ∀ k, k < 64 → zz k < 64 := by decide
theorem zzI_zz : ∀ k, k < 64 → zzI (zz k) = k := by decide
theorem zz_zzI : ∀ p, p < 64 → zz (zzI p) = p := by decide
theorem zzI_lt : ∀ p, p < 64 → zzI p < 64 := by decide
def zigged (zs : List Int) : List Int := made (fun k => zs.getD (zz k) 0)
def unzigged (zs : List Int) : List Int := made (fun p => zs.getD (zzI p) 0)
/-- What has been put back behind k steps. -/
def unzTo (zs : List Int) (k : Nat) : List Int := made (fun p => if zzI p < k then zs.getD (zzI p) 0 else 0)
theorem unz_zero (zs : List Int) : unzTo zs 0 = zs64 := by
  simp only [unzTo, Nat.not_lt_zero, if_false]
  rfl
theorem unz_all (zs : List Int) : unzTo zs 64 = unzigged zs := made_congr (fun p hp => if_pos (zzI_lt p hp))
theorem unz_set (zs : List Int) (k : Nat) (h : k < 64) : (sq (unzTo zs k)).setIfInBounds (zz k) (.int .i64 (zs.getD k 0)) = sq (unzTo zs (k + 1)) := by
  unfold unzTo
  rw [made_set _ _ _ (zz_lt k h)]
  congr 1
  apply made_congr
  intro p hp
  by_cases e : p = zz k
  · subst e; simp [zzI_zz k h]
  · have hne : zzI p ≠ k := fun e2 => e (by rw [← e2, zz_zzI p hp])
    by_cases h1 : zzI p < k
    · simp [e, h1, show zzI p < k + 1 by omega]
    · simp [e, h1, show ¬ zzI p < k + 1 by omega]

set_option maxRecDepth 20000 in
set_option maxHeartbeats 1600000 in
theorem toZig (zs : List Int) (hz : zs.length = 64) (w : World) :
    Calls Try.prog 64 #[.agg (sq zs)] w fun e w' => e = .returned (.agg (sq (zigged zs))) ∧ w.grownBy w' none := by
  obtain ⟨W0, hW0⟩ : ∃ W0, ((w.alloc (.cells (sq zs) 73)).alloc (.cells #[.int .i64 0, .int .i64 0, .int .i64 0, .int .i64 0, .int .i64 0, .int .i64 0, .int .i64 0, .int .i64 0, .int .i64 0, .int .i64 0, .int .i64 0, .int .i64 0, .int .i64 0, .int .i64 0, .int .i64 0, .int .i64 0, .int .i64 0, .int .i64 0, .int .i64 0, .int .i64 0, .int .i64 0, .int .i64 0, .int .i64 0, .int .i64 0, .int .i64 0, .int .i64 0, .int .i64 0, .int .i64 0, .int .i64 0, .int .i64 0, .int .i64 0, .int .i64 0, .int .i64 0, .int .i64 0, .int .i64 0, .int .i64 0, .int .i64 0, .int .i64 0, .int .i64 0, .int .i64 0, .int .i64 0, .int .i64 0, .int .i64 0, .int .i64 0, .int .i64 0, .int .i64 0, .int .i64 0, .int .i64 0, .int .i64 0, .int .i64 0, .int .i64 0, .int .i64 0, .int .i64 0, .int .i64 0, .int .i64 0, .int .i64 0, .int .i64 0, .int .i64 0, .int .i64 0, .int .i64 0, .int .i64 0, .int .i64 0, .int .i64 0, .int .i64 0] 73)).alloc (.cells #[.int .i64 0, .int .i64 0, .int .i64 0, .int .i64 0, .int .i64 0, .int .i64 0, .int .i64 0, .int .i64 0, .int .i64 0, .int .i64 0, .int .i64 0, .int .i64 0, .int .i64 0, .int .i64 0, .int .i64 0, .int .i64 0, .int .i64 0, .int .i64 0, .int .i64 0, .int .i64 0, .int .i64 0, .int .i64 0, .int .i64 0, .int .i64 0, .int .i64 0, .int .i64 0, .int .i64 0, .int .i64 0, .int .i64 0, .int .i64 0, .int .i64 0, .int .i64 0, .int .i64 0, .int .i64 0, .int .i64 0, .int .i64 0, .int .i64 0, .int .i64 0, .int .i64 0, .int .i64 0, .int .i64 0, .int .i64 0, .int .i64 0, .int .i64 0, .int .i64 0, .int .i64 0, .int .i64 0, .int .i64 0, .int .i64 0, .int .i64 0, .int .i64 0, .int .i64 0, .int .i64 0, .int .i64 0, .int .i64 0, .int .i64 0, .int .i64 0, .int .i64 0, .int .i64 0, .int .i64 0, .int .i64 0, .int .i64 0, .int .i64 0, .int .i64 0] 73) = W0 := ⟨_, rfl⟩
  have G0 : w.grownBy W0 none := by rw [← hW0]; exact grown_alloc (grown_alloc (World.grownBy_alloc _ _ _) _) _
  have b0 : W0.heap[w.heap.size]? = some (.cells (sq zs) 73 (0, 0)) := by rw [← hW0, Below.heap_alloc _ _ _ (by simp; omega), Below.heap_alloc _ _ _ (by simp)]; exact heap_alloc_new w _
  have b1 : W0.heap[w.heap.size + 1]? = some (.cells (sq zs64) 73 (0, 0)) := by
    rw [← hW0, Below.heap_alloc _ _ _ (by simp), sq_z64]
    have := heap_alloc_new (w.alloc (.cells (sq zs) 73)) (.cells #[.int .i64 0, .int .i64 0, .int .i64 0, .int .i64 0, .int .i64 0, .int .i64 0, .int .i64 0, .int .i64 0, .int .i64 0, .int .i64 0, .int .i64 0, .int .i64 0, .int .i64 0, .int .i64 0, .int .i64 0, .int .i64 0, .int .i64 0, .int .i64 0, .int .i64 0, .int .i64 0, .int .i64 0, .int .i64 0, .int .i64 0, .int .i64 0, .int .i64 0, .int .i64 0, .int .i64 0, .int .i64 0, .int .i64 0, .int .i64 0, .int .i64 0, .int .i64 0, .int .i64 0, .int .i64 0, .int .i64 0, .int .i64 0, .int .i64 0, .int .i64 0, .int .i64 0, .int .i64 0, .int .i64 0, .int .i64 0, .int .i64 0, .int .i64 0, .int .i64 0, .int .i64 0, .int .i64 0, .int .i64 0, .int .i64 0, .int .i64 0, .int .i64 0, .int .i64 0, .int .i64 0, .int .i64 0, .int .i64 0, .int .i64 0, .int .i64 0, .int .i64 0, .int .i64 0, .int .i64 0, .int .i64 0, .int .i64 0, .int .i64 0, .int .i64 0] 73)
    simpa using this
  have b2 : W0.heap[w.heap.size + 2]? = some (.cells #[.int .i64 0, .int .i64 0, .int .i64 0, .int .i64 0, .int .i64 0, .int .i64 0, .int .i64 0, .int .i64 0, .int .i64 0, .int .i64 0, .int .i64 0, .int .i64 0, .int .i64 0, .int .i64 0, .int .i64 0, .int .i64 0, .int .i64 0, .int .i64 0, .int .i64 0, .int .i64 0, .int .i64 0, .int .i64 0, .int .i64 0, .int .i64 0, .int .i64 0, .int .i64 0, .int .i64 0, .int .i64 0, .int .i64 0, .int .i64 0, .int .i64 0, .int .i64 0, .int .i64 0, .int .i64 0, .int .i64 0, .int .i64 0, .int .i64 0, .int .i64 0, .int .i64 0, .int .i64 0, .int .i64 0, .int .i64 0, .int .i64 0, .int .i64 0, .int .i64 0, .int .i64 0, .int .i64 0, .int .i64 0, .int .i64 0, .int .i64 0, .int .i64 0, .int .i64 0, .int .i64 0, .int .i64 0, .int .i64 0, .int .i64 0, .int .i64 0, .int .i64 0, .int .i64 0, .int .i64 0, .int .i64 0, .int .i64 0, .int .i64 0, .int .i64 0] 73 (0, 0)) := by
    rw [← hW0]
    have := heap_alloc_new ((w.alloc (.cells (sq zs) 73)).alloc (.cells #[.int .i64 0, .int .i64 0, .int .i64 0, .int .i64 0, .int .i64 0, .int .i64 0, .int .i64 0, .int .i64 0, .int .i64 0, .int .i64 0, .int .i64 0, .int .i64 0, .int .i64 0, .int .i64 0, .int .i64 0, .int .i64 0, .int .i64 0, .int .i64 0, .int .i64 0, .int .i64 0, .int .i64 0, .int .i64 0, .int .i64 0, .int .i64 0, .int .i64 0, .int .i64 0, .int .i64 0, .int .i64 0, .int .i64 0, .int .i64 0, .int .i64 0, .int .i64 0, .int .i64 0, .int .i64 0, .int .i64 0, .int .i64 0, .int .i64 0, .int .i64 0, .int .i64 0, .int .i64 0, .int .i64 0, .int .i64 0, .int .i64 0, .int .i64 0, .int .i64 0, .int .i64 0, .int .i64 0, .int .i64 0, .int .i64 0, .int .i64 0, .int .i64 0, .int .i64 0, .int .i64 0, .int .i64 0, .int .i64 0, .int .i64 0, .int .i64 0, .int .i64 0, .int .i64 0, .int .i64 0, .int .i64 0, .int .i64 0, .int .i64 0, .int .i64 0] 73)) (.cells #[.int .i64 0, .int .i64 0, .int .i64 0, .int .i64 0, .int .i64 0, .int .i64 0, .int .i64 0, .int .i64 0, .int .i64 0, .int .i64 0, .int .i64 0, .int .i64 0, .int .i64 0, .int .i64 0, .int .i64 0, .int .i64 0, .int .i64 0, .int .i64 0, .int .i64 0, .int .i64 0, .int .i64 0, .int .i64 0, .int .i64 0, .int .i64 0, .int .i64 0, .int .i64 0, .int .i64 0, .int .i64 0, .int .i64 0, .int .i64 0, .int .i64 0, .int .i64 0, .int .i64 0, .int .i64 0, .int .i64 0, .int .i64 0, .int .i64 0, .int .i64 0, .int .i64 0, .int .i64 0, .int .i64 0, .int .i64 0, .int .i64 0, .int .i64 0, .int .i64 0, .int .i64 0, .int .i64 0, .int .i64 0, .int .i64 0, .int .i64 0, .int .i64 0, .int .i64 0, .int .i64 0, .int .i64 0, .int .i64 0, .int .i64 0, .int .i64 0, .int .i64 0, .int .i64 0, .int .i64 0, .int .i64 0, .int .i64 0, .int .i64 0, .int .i64 0] 73)
    simpa using this
  have s0 : W0.heap.size = w.heap.size + 3 := by rw [← hW0]; simp
  have HW := hide hW0
  have B0 := hide b0
  have B1 := hide b1
  have B2 := hide b2
  have HG0 := hide G0
  have HZ := hide hz
  clear hW0 b0 b1 b2 G0 hz
  go_enter Try.func64, Try.ntmps64
  go_wp2_with (rw [unhide HW]; clear HW; refine store_row rfl 73 _ _ rfl (w.heap.size + 2) rfl #[.int .i64 0, .int .i64 0, .int .i64 0, .int .i64 0, .int .i64 0, .int .i64 0, .int .i64 0, .int .i64 0, .int .i64 0, .int .i64 0, .int .i64 0, .int .i64 0, .int .i64 0, .int .i64 0, .int .i64 0, .int .i64 0, .int .i64 0, .int .i64 0, .int .i64 0, .int .i64 0, .int .i64 0, .int .i64 0, .int .i64 0, .int .i64 0, .int .i64 0, .int .i64 0, .int .i64 0, .int .i64 0, .int .i64 0, .int .i64 0, .int .i64 0, .int .i64 0, .int .i64 0, .int .i64 0, .int .i64 0, .int .i64 0, .int .i64 0, .int .i64 0, .int .i64 0, .int .i64 0, .int .i64 0, .int .i64 0, .int .i64 0, .int .i64 0, .int .i64 0, .int .i64 0, .int .i64 0, .int .i64 0, .int .i64 0, .int .i64 0, .int .i64 0, .int .i64 0, .int .i64 0, .int .i64 0, .int .i64 0, .int .i64 0, .int .i64 0, .int .i64 0, .int .i64 0, .int .i64 0, .int .i64 0, .int .i64 0, .int .i64 0, .int .i64 0] rfl #[.int .i64 0, .int .i64 0, .int .i64 0, .int .i64 0, .int .i64 0, .int .i64 0, .int .i64 0, .int .i64 0, .int .i64 0, .int .i64 0, .int .i64 0, .int .i64 0, .int .i64 0, .int .i64 0, .int .i64 0, .int .i64 0, .int .i64 0, .int .i64 0, .int .i64 0, .int .i64 0, .int .i64 0, .int .i64 0, .int .i64 0, .int .i64 0, .int .i64 0, .int .i64 0, .int .i64 0, .int .i64 0, .int .i64 0, .int .i64 0, .int .i64 0, .int .i64 0, .int .i64 0, .int .i64 0, .int .i64 0, .int .i64 0, .int .i64 0, .int .i64 0, .int .i64 0, .int .i64 0, .int .i64 0, .int .i64 0, .int .i64 0, .int .i64 0, .int .i64 0, .int .i64 0, .int .i64 0, .int .i64 0, .int .i64 0, .int .i64 0, .int .i64 0, .int .i64 0, .int .i64 0, .int .i64 0, .int .i64 0, .int .i64 0, .int .i64 0, .int .i64 0, .int .i64 0, .int .i64 0, .int .i64 0, .int .i64 0, .int .i64 0, .int .i64 0] 73 (unhide B2) rfl (by kernel_rfl) (by rw [← sq_z64]; exact sq_one _) ?_; intro w3 hB3 g3; rw [← sq_z64] at hB3)
  refine (zigZag w3).mono ?_
  rintro e w4 ⟨rfl, g4⟩
  have s3 := g3.size
  have s4 := g4.size
  have hB4 := (g4.block (w.heap.size + 2) (by omega) (by simp)).trans hB3
  have hR4 := (g4.block (w.heap.size + 1) (by omega) (by simp)).trans ((g3.block (w.heap.size + 1) (by omega) (by simp)).trans (unhide B1))
  have hS4 := (g4.block w.heap.size (by omega) (by simp)).trans ((g3.block w.heap.size (by omega) (by simp)).trans (unhide B0))
  have G4 : w.grownBy w4 none := grown_trans (grown_new (unhide HG0) g3 (fun g e => by simp at e; omega)) g4
  have HB4 := hide hB4
  have HR4 := hide hR4
  have HS4 := hide hS4
  have HG4 := hide G4
  clear hB4 hR4 hS4 G4 hB3 g3 g4
  go_wp2
  go_loopw [8] (fun i wr => ∃ k : Nat, k ≤ 64 ∧ i = .int .i64 k ∧ wr.heap[w.heap.size + 2]? = some (.cells (sq (mix (fun k => zs.getD (zz k) 0) zs64 k)) 73 (0, 0)) ∧ w4.grownBy wr (some (w.heap.size + 2))) (fun i _ => 64 - (intOf i).toNat)
  case atStart => exact ⟨0, Nat.zero_le _, rfl, by rw [mix_zero]; exact unhide HB4, World.grownBy.refl _ _⟩
  case round =>
    obtain ⟨k, hk, rfl, hM, hgk⟩ := hrel
    by_cases hlt : k < 64
    · obtain ⟨p, hp⟩ : ∃ p, zz k = p := ⟨_, rfl⟩
      have hp64 : p < 64 := by rw [← hp]; exact zz_lt k hlt
      have hat : ∀ w, (Instr.index 73 (.agg (sq zzL)) (.int .i64 (k : Int))).run Try.prog w = .ok (.int .i64 (p : Int)) w := fun w => by
        rw [idx zz_len (k : Int) (by omega) (by omega) w, Int.toNat_natCast]
        have e : zzL.getD k 0 = (p : Int) := by rw [← hp]; exact zzF_eq k
        rw [e]
      have hS := (hgk.block w.heap.size (by omega) (by simp)).trans (unhide HS4)
      have cS := sq_cell hS p (by rw [unhide HZ]; omega)
      have cM := sq_cell hM k (by rw [mix_len _ _ _ (by rw [zs64_len]; omega), zs64_len]; omega)
      have fM := sq_frozen hM k
      have HSET : Hid ((wr.setCell ⟨w.heap.size + 2, k, none⟩ (.int .i64 (zs.getD p 0))).heap[w.heap.size + 2]? = some (.cells (sq (mix (fun k => zs.getD (zz k) 0) zs64 (k + 1))) 73 (0, 0)) ∧ w4.grownBy (wr.setCell ⟨w.heap.size + 2, k, none⟩ (.int .i64 (zs.getD p 0))) (some (w.heap.size + 2))) := by
        refine ⟨?_, grown_trans hgk (grown_set wr _ _ _)⟩
        rw [heap_setCell_same wr (w.heap.size + 2) _ _ _ _ hM]
        rw [← hp, mix_set (fun k => zs.getD (zz k) 0) zs64 k (by rw [zs64_len]; omega)]
      clear hM hS hgk hp
      generalize zs.getD p 0 = z at cS HSET
      go_wp2
      go_roundw
      case rel => exact ⟨k + 1, by omega, by go_num, (unhide HSET).1, (unhide HSET).2⟩
      case measure => simp [intOf]; omega
    · obtain rfl : k = 64 := by omega
      rw [mix_all _ zs64 zs64_len] at hM
      have hbr := (hgk.block (w.heap.size + 1) (by omega) (by simp)).trans (unhide HR4)
      have HM := hide hM
      have HBR := hide hbr
      have HMS : Hid ((sq (zigged zs)).size = 64) := by unfold Hid; rw [sq_size, zigged, made_len]
      have HGF : Hid (w.grownBy wr none) := grown_new (unhide HG4) hgk (fun g e => by simp at e; omega)
      clear hM hbr hgk
      change Hid (wr.heap[w.heap.size + 2]? = some (.cells (sq (zigged zs)) 73 (0, 0))) at HM
      go_wp2_with (first | (refine load_row rfl 73 _ rfl (w.heap.size + 2) rfl (sq (zigged zs)) 73 (unhide HM) _ Try.underlying73 rfl (by rw [unhide HMS]; kernel_rfl) ?_) | (refine store_row rfl 73 _ _ rfl (w.heap.size + 1) rfl (sq (zigged zs)) rfl (sq zs64) 73 (unhide HBR) (by rw [unhide HMS, sq_size, zs64_len]) (by rw [unhide HMS]; kernel_rfl) (sq_one _) ?_; intro w6 hB6 g6))
      refine bodyPost_ret (v := .agg (sq (zigged zs))) ?_ rfl ⟨rfl, ?_⟩
      · rw [results_c1 rfl]
        exact run_loadVar_row w6 _ 73 73 _ (0, 0) _ hB6 Try.underlying73 rfl (by rw [unhide HMS]; kernel_rfl)
      · exact grown_new (unhide HGF) g6 (fun g e => by simp at e; omega)

set_option maxRecDepth 20000 in
set_option maxHeartbeats 1600000 in
theorem fromZig (zs : List Int) (hz : zs.length = 64) (w : World) :
    Calls Try.prog 66 #[.agg (sq zs)] w fun e w' => e = .returned (.agg (sq (unzigged zs))) ∧ w.grownBy w' none := by
  obtain ⟨W0, hW0⟩ : ∃ W0, ((w.alloc (.cells (sq zs) 73)).alloc (.cells #[.int .i64 0, .int .i64 0, .int .i64 0, .int .i64 0, .int .i64 0, .int .i64 0, .int .i64 0, .int .i64 0, .int .i64 0, .int .i64 0, .int .i64 0, .int .i64 0, .int .i64 0, .int .i64 0, .int .i64 0, .int .i64 0, .int .i64 0, .int .i64 0, .int .i64 0, .int .i64 0, .int .i64 0, .int .i64 0, .int .i64 0, .int .i64 0, .int .i64 0, .int .i64 0, .int .i64 0, .int .i64 0, .int .i64 0, .int .i64 0, .int .i64 0, .int .i64 0, .int .i64 0, .int .i64 0, .int .i64 0, .int .i64 0, .int .i64 0, .int .i64 0, .int .i64 0, .int .i64 0, .int .i64 0, .int .i64 0, .int .i64 0, .int .i64 0, .int .i64 0, .int .i64 0, .int .i64 0, .int .i64 0, .int .i64 0, .int .i64 0, .int .i64 0, .int .i64 0, .int .i64 0, .int .i64 0, .int .i64 0, .int .i64 0, .int .i64 0, .int .i64 0, .int .i64 0, .int .i64 0, .int .i64 0, .int .i64 0, .int .i64 0, .int .i64 0] 73)).alloc (.cells #[.int .i64 0, .int .i64 0, .int .i64 0, .int .i64 0, .int .i64 0, .int .i64 0, .int .i64 0, .int .i64 0, .int .i64 0, .int .i64 0, .int .i64 0, .int .i64 0, .int .i64 0, .int .i64 0, .int .i64 0, .int .i64 0, .int .i64 0, .int .i64 0, .int .i64 0, .int .i64 0, .int .i64 0, .int .i64 0, .int .i64 0, .int .i64 0, .int .i64 0, .int .i64 0, .int .i64 0, .int .i64 0, .int .i64 0, .int .i64 0, .int .i64 0, .int .i64 0, .int .i64 0, .int .i64 0, .int .i64 0, .int .i64 0, .int .i64 0, .int .i64 0, .int .i64 0, .int .i64 0, .int .i64 0, .int .i64 0, .int .i64 0, .int .i64 0, .int .i64 0, .int .i64 0, .int .i64 0, .int .i64 0, .int .i64 0, .int .i64 0, .int .i64 0, .int .i64 0, .int .i64 0, .int .i64 0, .int .i64 0, .int .i64 0, .int .i64 0, .int .i64 0, .int .i64 0, .int .i64 0, .int .i64 0, .int .i64 0, .int .i64 0, .int .i64 0] 73) = W0 := ⟨_, rfl⟩
  have G0 : w.grownBy W0 none := by rw [← hW0]; exact grown_alloc (grown_alloc (World.grownBy_alloc _ _ _) _) _
  have b0 : W0.heap[w.heap.size]? = some (.cells (sq zs) 73 (0, 0)) := by rw [← hW0, Below.heap_alloc _ _ _ (by simp; omega), Below.heap_alloc _ _ _ (by simp)]; exact heap_alloc_new w _
  have b1 : W0.heap[w.heap.size + 1]? = some (.cells (sq zs64) 73 (0, 0)) := by
    rw [← hW0, Below.heap_alloc _ _ _ (by simp), sq_z64]
    have := heap_alloc_new (w.alloc (.cells (sq zs) 73)) (.cells #[.int .i64 0, .int .i64 0, .int .i64 0, .int .i64 0, .int .i64 0, .int .i64 0, .int .i64 0, .int .i64 0, .int .i64 0, .int .i64 0, .int .i64 0, .int .i64 0, .int .i64 0, .int .i64 0, .int .i64 0, .int .i64 0, .int .i64 0, .int .i64 0, .int .i64 0, .int .i64 0, .int .i64 0, .int .i64 0, .int .i64 0, .int .i64 0, .int .i64 0, .int .i64 0, .int .i64 0, .int .i64 0, .int .i64 0, .int .i64 0, .int .i64 0, .int .i64 0, .int .i64 0, .int .i64 0, .int .i64 0, .int .i64 0, .int .i64 0, .int .i64 0, .int .i64 0, .int .i64 0, .int .i64 0, .int .i64 0, .int .i64 0, .int .i64 0, .int .i64 0, .int .i64 0, .int .i64 0, .int .i64 0, .int .i64 0, .int .i64 0, .int .i64 0, .int .i64 0, .int .i64 0, .int .i64 0, .int .i64 0, .int .i64 0, .int .i64 0, .int .i64 0, .int .i64 0, .int .i64 0, .int .i64 0, .int .i64 0, .int .i64 0, .int .i64 0] 73)
    simpa using this
  have b2 : W0.heap[w.heap.size + 2]? = some (.cells #[.int .i64 0, .int .i64 0, .int .i64 0, .int .i64 0, .int .i64 0, .int .i64 0, .int .i64 0, .int .i64 0, .int .i64 0, .int .i64 0, .int .i64 0, .int .i64 0, .int .i64 0, .int .i64 0, .int .i64 0, .int .i64 0, .int .i64 0, .int .i64 0, .int .i64 0, .int .i64 0, .int .i64 0, .int .i64 0, .int .i64 0, .int .i64 0, .int .i64 0, .int .i64 0, .int .i64 0, .int .i64 0, .int .i64 0, .int .i64 0, .int .i64 0, .int .i64 0, .int .i64 0, .int .i64 0, .int .i64 0, .int .i64 0, .int .i64 0, .int .i64 0, .int .i64 0, .int .i64 0, .int .i64 0, .int .i64 0, .int .i64 0, .int .i64 0, .int .i64 0, .int .i64 0, .int .i64 0, .int .i64 0, .int .i64 0, .int .i64 0, .int .i64 0, .int .i64 0, .int .i64 0, .int .i64 0, .int .i64 0, .int .i64 0, .int .i64 0, .int .i64 0, .int .i64 0, .int .i64 0, .int .i64 0, .int .i64 0, .int .i64 0, .int .i64 0] 73 (0, 0)) := by
    rw [← hW0]
    have := heap_alloc_new ((w.alloc (.cells (sq zs) 73)).alloc (.cells #[.int .i64 0, .int .i64 0, .int .i64 0, .int .i64 0, .int .i64 0, .int .i64 0, .int .i64 0, .int .i64 0, .int .i64 0, .int .i64 0, .int .i64 0, .int .i64 0, .int .i64 0, .int .i64 0, .int .i64 0, .int .i64 0, .int .i64 0, .int .i64 0, .int .i64 0, .int .i64 0, .int .i64 0, .int .i64 0, .int .i64 0, .int .i64 0, .int .i64 0, .int .i64 0, .int .i64 0, .int .i64 0, .int .i64 0, .int .i64 0, .int .i64 0, .int .i64 0, .int .i64 0, .int .i64 0, .int .i64 0, .int .i64 0, .int .i64 0, .int .i64 0, .int .i64 0, .int .i64 0, .int .i64 0, .int .i64 0, .int .i64 0, .int .i64 0, .int .i64 0, .int .i64 0, .int .i64 0, .int .i64 0, .int .i64 0, .int .i64 0, .int .i64 0, .int .i64 0, .int .i64 0, .int .i64 0, .int .i64 0, .int .i64 0, .int .i64 0, .int .i64 0, .int .i64 0, .int .i64 0, .int .i64 0, .int .i64 0, .int .i64 0, .int .i64 0] 73)) (.cells #[.int .i64 0, .int .i64 0, .int .i64 0, .int .i64 0, .int .i64 0, .int .i64 0, .int .i64 0, .int .i64 0, .int .i64 0, .int .i64 0, .int .i64 0, .int .i64 0, .int .i64 0, .int .i64 0, .int .i64 0, .int .i64 0, .int .i64 0, .int .i64 0, .int .i64 0, .int .i64 0, .int .i64 0, .int .i64 0, .int .i64 0, .int .i64 0, .int .i64 0, .int .i64 0, .int .i64 0, .int .i64 0, .int .i64 0, .int .i64 0, .int .i64 0, .int .i64 0, .int .i64 0, .int .i64 0, .int .i64 0, .int .i64 0, .int .i64 0, .int .i64 0, .int .i64 0, .int .i64 0, .int .i64 0, .int .i64 0, .int .i64 0, .int .i64 0, .int .i64 0, .int .i64 0, .int .i64 0, .int .i64 0, .int .i64 0, .int .i64 0, .int .i64 0, .int .i64 0, .int .i64 0, .int .i64 0, .int .i64 0, .int .i64 0, .int .i64 0, .int .i64 0, .int .i64 0, .int .i64 0, .int .i64 0, .int .i64 0, .int .i64 0, .int .i64 0] 73)
    simpa using this
  have s0 : W0.heap.size = w.heap.size + 3 := by rw [← hW0]; simp
  have HW := hide hW0
  have B0 := hide b0
  have B1 := hide b1
  have B2 := hide b2
  have HG0 := hide G0
  have HZ := hide hz
  clear hW0 b0 b1 b2 G0 hz
  go_enter Try.func66, Try.ntmps66
  go_wp2_with (rw [unhide HW]; clear HW; refine store_row rfl 73 _ _ rfl (w.heap.size + 2) rfl #[.int .i64 0, .int .i64 0, .int .i64 0, .int .i64 0, .int .i64 0, .int .i64 0, .int .i64 0, .int .i64 0, .int .i64 0, .int .i64 0, .int .i64 0, .int .i64 0, .int .i64 0, .int .i64 0, .int .i64 0, .int .i64 0, .int .i64 0, .int .i64 0, .int .i64 0, .int .i64 0, .int .i64 0, .int .i64 0, .int .i64 0, .int .i64 0, .int .i64 0, .int .i64 0, .int .i64 0, .int .i64 0, .int .i64 0, .int .i64 0, .int .i64 0, .int .i64 0, .int .i64 0, .int .i64 0, .int .i64 0, .int .i64 0, .int .i64 0, .int .i64 0, .int .i64 0, .int .i64 0, .int .i64 0, .int .i64 0, .int .i64 0, .int .i64 0, .int .i64 0, .int .i64 0, .int .i64 0, .int .i64 0, .int .i64 0, .int .i64 0, .int .i64 0, .int .i64 0, .int .i64 0, .int .i64 0, .int .i64 0, .int .i64 0, .int .i64 0, .int .i64 0, .int .i64 0, .int .i64 0, .int .i64 0, .int .i64 0, .int .i64 0, .int .i64 0] rfl #[.int .i64 0, .int .i64 0, .int .i64 0, .int .i64 0, .int .i64 0, .int .i64 0, .int .i64 0, .int .i64 0, .int .i64 0, .int .i64 0, .int .i64 0, .int .i64 0, .int .i64 0, .int .i64 0, .int .i64 0, .int .i64 0, .int .i64 0, .int .i64 0, .int .i64 0, .int .i64 0, .int .i64 0, .int .i64 0, .int .i64 0, .int .i64 0, .int .i64 0, .int .i64 0, .int .i64 0, .int .i64 0, .int .i64 0, .int .i64 0, .int .i64 0, .int .i64 0, .int .i64 0, .int .i64 0, .int .i64 0, .int .i64 0, .int .i64 0, .int .i64 0, .int .i64 0, .int .i64 0, .int .i64 0, .int .i64 0, .int .i64 0, .int .i64 0, .int .i64 0, .int .i64 0, .int .i64 0, .int .i64 0, .int .i64 0, .int .i64 0, .int .i64 0, .int .i64 0, .int .i64 0, .int .i64 0, .int .i64 0, .int .i64 0, .int .i64 0, .int .i64 0, .int .i64 0, .int .i64 0, .int .i64 0, .int .i64 0, .int .i64 0, .int .i64 0] 73 (unhide B2) rfl (by kernel_rfl) (by rw [← sq_z64]; exact sq_one _) ?_; intro w3 hB3 g3; rw [← sq_z64] at hB3)
  refine (zigZag w3).mono ?_
  rintro e w4 ⟨rfl, g4⟩
  have s3 := g3.size
  have s4 := g4.size
  have hB4 := (g4.block (w.heap.size + 2) (by omega) (by simp)).trans hB3
  have hR4 := (g4.block (w.heap.size + 1) (by omega) (by simp)).trans ((g3.block (w.heap.size + 1) (by omega) (by simp)).trans (unhide B1))
  have hS4 := (g4.block w.heap.size (by omega) (by simp)).trans ((g3.block w.heap.size (by omega) (by simp)).trans (unhide B0))
  have G4 : w.grownBy w4 none := grown_trans (grown_new (unhide HG0) g3 (fun g e => by simp at e; omega)) g4
  have HB4 := hide hB4
  have HR4 := hide hR4
  have HS4 := hide hS4
  have HG4 := hide G4
  clear hB4 hR4 hS4 G4 hB3 g3 g4
  go_wp2
  go_loopw [8] (fun i wr => ∃ k : Nat, k ≤ 64 ∧ i = .int .i64 k ∧ wr.heap[w.heap.size + 2]? = some (.cells (sq (unzTo zs k)) 73 (0, 0)) ∧ w4.grownBy wr (some (w.heap.size + 2))) (fun i _ => 64 - (intOf i).toNat)
  case atStart => exact ⟨0, Nat.zero_le _, rfl, by rw [unz_zero]; exact unhide HB4, World.grownBy.refl _ _⟩
  case round =>
    obtain ⟨k, hk, rfl, hM, hgk⟩ := hrel
    by_cases hlt : k < 64
    · obtain ⟨p, hp⟩ : ∃ p, zz k = p := ⟨_, rfl⟩
      have hp64 : p < 64 := by rw [← hp]; exact zz_lt k hlt
      have hat : ∀ w, (Instr.index 73 (.agg (sq zzL)) (.int .i64 (k : Int))).run Try.prog w = .ok (.int .i64 (p : Int)) w := fun w => by
        rw [idx zz_len (k : Int) (by omega) (by omega) w, Int.toNat_natCast]
        have e : zzL.getD k 0 = (p : Int) := by rw [← hp]; exact zzF_eq k
        rw [e]
      have hS := (hgk.block w.heap.size (by omega) (by simp)).trans (unhide HS4)
      have cS := sq_cell hS k (by rw [unhide HZ]; omega)
      have cM := sq_cell hM p (by rw [unzTo, made_len]; omega)
      have fM := sq_frozen hM p
      have HSET : Hid ((wr.setCell ⟨w.heap.size + 2, p, none⟩ (.int .i64 (zs.getD k 0))).heap[w.heap.size + 2]? = some (.cells (sq (unzTo zs (k + 1))) 73 (0, 0)) ∧ w4.grownBy (wr.setCell ⟨w.heap.size + 2, p, none⟩ (.int .i64 (zs.getD k 0))) (some (w.heap.size + 2))) := by
        refine ⟨?_, grown_trans hgk (grown_set wr _ _ _)⟩
        rw [heap_setCell_same wr (w.heap.size + 2) _ _ _ _ hM]
        rw [← hp, unz_set zs k hlt]
      clear hM hS hgk hp
      generalize zs.getD k 0 = z at cS HSET
      go_wp2
      go_roundw
      case rel => exact ⟨k + 1, by omega, by go_num, (unhide HSET).1, (unhide HSET).2⟩
      case measure => simp [intOf]; omega
    · obtain rfl : k = 64 := by omega
      rw [unz_all] at hM
      have hbr := (hgk.block (w.heap.size + 1) (by omega) (by simp)).trans (unhide HR4)
      have HM := hide hM
      have HBR := hide hbr
      have HMS : Hid ((sq (unzigged zs)).size = 64) := by unfold Hid; rw [sq_size, unzigged, made_len]
      have HGF : Hid (w.grownBy wr none) := grown_new (unhide HG4) hgk (fun g e => by simp at e; omega)
      clear hM hbr hgk
      skip
      go_wp2_with (first | (refine load_row rfl 73 _ rfl (w.heap.size + 2) rfl (sq (unzigged zs)) 73 (unhide HM) _ Try.underlying73 rfl (by rw [unhide HMS]; kernel_rfl) ?_) | (refine store_row rfl 73 _ _ rfl (w.heap.size + 1) rfl (sq (unzigged zs)) rfl (sq zs64) 73 (unhide HBR) (by rw [unhide HMS, sq_size, zs64_len]) (by rw [unhide HMS]; kernel_rfl) (sq_one _) ?_; intro w6 hB6 g6))
      refine bodyPost_ret (v := .agg (sq (unzigged zs))) ?_ rfl ⟨rfl, ?_⟩
      · rw [results_c1 rfl]
        exact run_loadVar_row w6 _ 73 73 _ (0, 0) _ hB6 Try.underlying73 rfl (by rw [unhide HMS]; kernel_rfl)
      · exact grown_new (unhide HGF) g6 (fun g e => by simp at e; omega)

end Go.Proofs.Ytfgglainjaplgaa

namespace Go.Proofs.Ytfgglainjaplgaa

def absI (n : Int) : Int := if n < 0 then -n else n
/-- n by 2^lo, cut. -/
def cutI (n : Int) (lo : Nat) : Int := if n < 0 then -(-n / 2 ^ lo) else n / 2 ^ lo
def bitI (n : Int) (hi lo : Nat) : Int := if n < 0 ∧ cutI n hi = 0 then -(absI n / 2 ^ lo % 2) else absI n / 2 ^ lo % 2
def firstL (z : List Int) (fr m lo : Nat) : List Int := (List.range m).map fun j => cutI (z.getD (fr + j) 0) lo
def refineL (z : List Int) (fr m hi lo : Nat) : List Int := (List.range m).map fun j => bitI (z.getD (fr + j) 0) hi lo
def inLev (n : Int) : Bool := decide (-16383 ≤ n ∧ n ≤ 16383)
/-- One number put. -/
def stepF (lo k : Nat) (n : Int) (z : List Int) : Option (List Int) := if inLev n && inLev (n * 2 ^ lo) then some (z.set k (n * 2 ^ lo)) else none
def finer (lo : Nat) (n y : Int) : Int := y + (if y < 0 then -n else n) * 2 ^ lo
def stepR (lo k : Nat) (n : Int) (z : List Int) : Option (List Int) :=
  if decide (-1 ≤ n ∧ n ≤ 1) && !(decide (n < 0) && decide (z.getD k 0 ≠ 0)) && inLev (finer lo n (z.getD k 0)) then some (z.set k (finer lo n (z.getD k 0))) else none
/-- The first j numbers of a list put, from place k on. -/
def putT (step : Nat → Int → List Int → Option (List Int)) (k : Nat) (list : List Int) (z : List Int) : Nat → Option (List Int)
  | 0 => some z
  | j + 1 => match putT step k list z j with
    | some y => step (k + j) (list.getD j 0) y
    | none => none
theorem putT_none {step : Nat → Int → List Int → Option (List Int)} {k : Nat} {list z : List Int} {j : Nat} (h : putT step k list z j = none) : ∀ m, j ≤ m → putT step k list z m = none := by
  intro m hm
  induction m with
  | zero => obtain rfl : j = 0 := by omega
            exact h
  | succ m ih =>
    by_cases e : j = m + 1
    · rw [← e]; exact h
    · show (match putT step k list z m with | some y => step (k + m) (list.getD m 0) y | none => none) = none
      rw [ih (by omega)]
theorem putT_next {step : Nat → Int → List Int → Option (List Int)} {k : Nat} {list z y : List Int} {j : Nat} (h : putT step k list z j = some y) : putT step k list z (j + 1) = step (k + j) (list.getD j 0) y := by
  show (match putT step k list z j with | some y => step (k + j) (list.getD j 0) y | none => none) = _
  rw [h]

/-- The four answers. -/
def placesOf (a : Scn) : Nat := (a.to - a.fr + 1).toNat
def firstG (b : List Int) (a : Scn) : List Int := if levB (-16383) 16383 b && passB a && decide (a.hi = 0) then firstL (zigged b) a.fr.toNat (placesOf a) a.lo.toNat else []
def refineG (b : List Int) (a : Scn) : List Int := if levB (-16383) 16383 b && passB a && !decide (a.hi = 0) then refineL (zigged b) a.fr.toNat (placesOf a) a.hi.toNat a.lo.toNat else []
def ofO (o : Option (List Int)) : List Int := match o with | some z => unzigged z | none => []
def putFirstG (b : List Int) (a : Scn) (l : List Int) : List Int := if levB (-16383) 16383 b && passB a && decide (a.hi = 0) && decide ((l.length : Int) = a.to - a.fr + 1) then ofO (putT (stepF a.lo.toNat) a.fr.toNat l (zigged b) (placesOf a)) else []
def putRefineG (b : List Int) (a : Scn) (l : List Int) : List Int := if levB (-16383) 16383 b && passB a && !decide (a.hi = 0) && decide ((l.length : Int) = a.to - a.fr + 1) then ofO (putT (stepR a.lo.toNat) a.fr.toNat l (zigged b) (placesOf a)) else []

/-- n to the bits from l on; nothing of it, where none was told. -/
def truncI (n : Int) (l : Int) : Int := if l < 0 then 0 else cutI n l.toNat * 2 ^ l.toNat
theorem pow2_pos (l : Nat) : (0 : Int) < 2 ^ l := Int.pow_pos (by decide)
theorem half_step (a : Int) (l : Nat) : a / 2 ^ l = 2 * (a / 2 ^ (l + 1)) + a / 2 ^ l % 2 := by
  have h : a / 2 ^ (l + 1) = a / 2 ^ l / 2 := by rw [Int.pow_succ, ← Int.ediv_ediv_of_nonneg (Int.le_of_lt (pow2_pos l))]
  rw [h]
  omega
theorem trunc_nat (n : Int) (l : Nat) : truncI n (l : Int) = cutI n l * 2 ^ l := by
  unfold truncI
  rw [if_neg (by omega), Int.toNat_natCast]
theorem trunc_bound (n : Int) (l : Int) (h : -16383 ≤ n ∧ n ≤ 16383) : -16383 ≤ truncI n l ∧ truncI n l ≤ 16383 := by
  unfold truncI
  split
  · omega
  · have hp := pow2_pos l.toNat
    have key : ∀ a : Int, 0 ≤ a → 0 ≤ a / 2 ^ l.toNat * 2 ^ l.toNat ∧ a / 2 ^ l.toNat * 2 ^ l.toNat ≤ a := fun a ha => by
      have h1 := Int.emod_add_mul_ediv a (2 ^ l.toNat)
      have h2 := Int.emod_nonneg a (Int.ne_of_gt hp)
      have h3 : 0 ≤ a / 2 ^ l.toNat := Int.ediv_nonneg ha (Int.le_of_lt hp)
      have h4 := Int.mul_nonneg h3 (Int.le_of_lt hp)
      rw [Int.mul_comm] at h1
      omega
    unfold cutI
    split
    · have := key (-n) (by omega)
      rw [Int.neg_mul]
      omega
    · have := key n (by omega)
      omega

/-- A refining pass makes it finer by one bit. -/
theorem refine_step (n : Int) (l : Nat) : finer l (bitI n (l + 1) l) (truncI n ((l + 1 : Nat) : Int)) = truncI n (l : Int) := by
  have hp := pow2_pos l
  have hq := pow2_pos (l + 1)
  have h2 : (2 : Int) ^ (l + 1) = 2 ^ l * 2 := Int.pow_succ _ _
  rw [trunc_nat, trunc_nat]
  unfold finer
  by_cases hn : n < 0
  · have hh := half_step (-n) l
    have h0 : 0 ≤ -n / 2 ^ (l + 1) := Int.ediv_nonneg (by omega) (Int.le_of_lt hq)
    unfold bitI cutI absI
    simp only [hn, if_true, true_and]
    generalize -n / 2 ^ (l + 1) = q at *
    generalize -n / 2 ^ l % 2 = r at *
    rw [hh]
    by_cases hq0 : q = 0
    · subst hq0
      simp
    · have e1 : ¬ (-q = 0) := by omega
      have e2 : -q * 2 ^ (l + 1) < 0 := Int.mul_neg_of_neg_of_pos (by omega) hq
      rw [if_neg e1, if_pos e2, h2]
      have : (-(2 * q + r)) * 2 ^ l = -q * (2 ^ l * 2) + -r * 2 ^ l := by
        rw [Int.neg_add, Int.add_mul]
        congr 1
        rw [← Int.mul_assoc, Int.mul_comm (-q * 2 ^ l) 2, ← Int.mul_assoc]
        congr 1
        rw [Int.mul_neg]
      exact this.symm
  · have hh := half_step n l
    have h0 : 0 ≤ n / 2 ^ (l + 1) := Int.ediv_nonneg (by omega) (Int.le_of_lt hq)
    unfold bitI cutI absI
    simp only [hn, if_false, false_and]
    generalize n / 2 ^ (l + 1) = q at *
    generalize n / 2 ^ l % 2 = r at *
    rw [hh]
    have e2 : ¬ (q * 2 ^ (l + 1) < 0) := by have := Int.mul_nonneg h0 (Int.le_of_lt hq); omega
    rw [if_neg e2, h2, Int.add_mul]
    congr 1
    rw [← Int.mul_assoc, Int.mul_comm (q * 2 ^ l) 2, ← Int.mul_assoc]
/-- .. and may be put. -/
theorem refine_ok (n : Int) (l : Nat) (hn : -16383 ≤ n ∧ n ≤ 16383) : (decide (-1 ≤ bitI n (l + 1) l ∧ bitI n (l + 1) l ≤ 1) && !(decide (bitI n (l + 1) l < 0) && decide (truncI n ((l + 1 : Nat) : Int) ≠ 0)) && inLev (finer l (bitI n (l + 1) l) (truncI n ((l + 1 : Nat) : Int)))) = true := by
  have hb := trunc_bound n (l : Int) hn
  have hm : 0 ≤ absI n / 2 ^ l % 2 ∧ absI n / 2 ^ l % 2 ≤ 1 := by omega
  rw [refine_step]
  have h1 : -1 ≤ bitI n (l + 1) l ∧ bitI n (l + 1) l ≤ 1 := by unfold bitI; split <;> omega
  have h2 : ¬ (bitI n (l + 1) l < 0 ∧ truncI n ((l + 1 : Nat) : Int) ≠ 0) := by
    rintro ⟨h3, h4⟩
    unfold bitI at h3
    split at h3
    · rename_i h5
      refine h4 ?_
      rw [trunc_nat, h5.2, Int.zero_mul]
    · omega
  have e2 : (decide (bitI n (l + 1) l < 0) && decide (truncI n ((l + 1 : Nat) : Int) ≠ 0)) = false := by
    rw [Bool.eq_false_iff]
    intro h
    rw [Bool.and_eq_true, decide_eq_true_eq, decide_eq_true_eq] at h
    exact h2 h
  rw [e2, decide_eq_true h1]
  unfold inLev
  rw [decide_eq_true hb]
  rfl
/-- A first pass tells it to its bit, and may be put. -/
theorem first_step (n : Int) (l : Nat) (hn : -16383 ≤ n ∧ n ≤ 16383) : cutI n l * 2 ^ l = truncI n (l : Int) ∧ (inLev (cutI n l) && inLev (cutI n l * 2 ^ l)) = true := by
  have e : cutI n l * 2 ^ l = truncI n (l : Int) := (trunc_nat n l).symm
  have hb := trunc_bound n (l : Int) hn
  refine ⟨e, ?_⟩
  have hp := pow2_pos l
  have hc : -16383 ≤ cutI n l ∧ cutI n l ≤ 16383 := by
    have key : ∀ a : Int, 0 ≤ a → 0 ≤ a / 2 ^ l ∧ a / 2 ^ l ≤ a := fun a ha => ⟨Int.ediv_nonneg ha (Int.le_of_lt hp), Int.ediv_le_self _ ha⟩
    unfold cutI
    split
    · have := key (-n) (by omega); omega
    · have := key n (by omega); omega
  rw [e]
  unfold inLev
  rw [decide_eq_true hb, decide_eq_true hc]
  rfl

end Go.Proofs.Ytfgglainjaplgaa

namespace Go.Proofs.Ytfgglainjaplgaa
open Go.RowKit

/-- An answer: a row of its own. -/
def Row13 (w : World) (L : List Int) (e : Ending) (w' : World) : Prop := ∃ so sc, e = .returned (.slice so L.length sc) ∧ w'.ownsRow w.heap.size 3 1 (.slice so L.length sc) L.length (L.map (Value.int .i64)) ∧ w.grownBy w' none
def ImplFirst : Prop := ∀ (ao : Option Addr) (n cap : Nat) (zs : List Int) (w : World), Rd .i64 w ao n zs → n ≤ 1048576 → ∀ (vo : Option Addr) (vn vc : Nat) (a : Scn), Rd .i64 w vo vn a.cs → vn ≤ 1048576 → ∀ (L : List Int), Hid (firstG zs a = L) →
    Calls Try.prog 12 #[.slice ao n cap, .agg #[.slice vo vn vc, .int .i64 a.fr, .int .i64 a.to, .int .i64 a.hi, .int .i64 a.lo]] w (Row13 w L)
def ImplRefine : Prop := ∀ (ao : Option Addr) (n cap : Nat) (zs : List Int) (w : World), Rd .i64 w ao n zs → n ≤ 1048576 → ∀ (vo : Option Addr) (vn vc : Nat) (a : Scn), Rd .i64 w vo vn a.cs → vn ≤ 1048576 → ∀ (L : List Int), Hid (refineG zs a = L) →
    Calls Try.prog 16 #[.slice ao n cap, .agg #[.slice vo vn vc, .int .i64 a.fr, .int .i64 a.to, .int .i64 a.hi, .int .i64 a.lo]] w (Row13 w L)
def ImplPutF : Prop := ∀ (ao : Option Addr) (n cap : Nat) (zs : List Int) (w : World), Rd .i64 w ao n zs → n ≤ 1048576 → ∀ (vo : Option Addr) (vn vc : Nat) (a : Scn), Rd .i64 w vo vn a.cs → vn ≤ 1048576 → ∀ (lo : Option Addr) (ln lc : Nat) (ls : List Int), Rd .i64 w lo ln ls → ln ≤ 1048576 → ∀ (L : List Int), Hid (putFirstG zs a ls = L) →
    Calls Try.prog 15 #[.slice ao n cap, .agg #[.slice vo vn vc, .int .i64 a.fr, .int .i64 a.to, .int .i64 a.hi, .int .i64 a.lo], .slice lo ln lc] w (Row13 w L)
def ImplPutR : Prop := ∀ (ao : Option Addr) (n cap : Nat) (zs : List Int) (w : World), Rd .i64 w ao n zs → n ≤ 1048576 → ∀ (vo : Option Addr) (vn vc : Nat) (a : Scn), Rd .i64 w vo vn a.cs → vn ≤ 1048576 → ∀ (lo : Option Addr) (ln lc : Nat) (ls : List Int), Rd .i64 w lo ln ls → ln ≤ 1048576 → ∀ (L : List Int), Hid (putRefineG zs a ls = L) →
    Calls Try.prog 18 #[.slice ao n cap, .agg #[.slice vo vn vc, .int .i64 a.fr, .int .i64 a.to, .int .i64 a.hi, .int .i64 a.lo], .slice lo ln lc] w (Row13 w L)

/-- An answer is never more than 64 numbers. -/
theorem first_few (zs : List Int) (a : Scn) : (firstG zs a).length ≤ 64 := by
  unfold firstG
  split
  · rename_i h
    have hp : passB a = true := by simp only [Bool.and_eq_true] at h; exact h.1.2
    unfold passB at hp
    simp only [Bool.and_eq_true, decide_eq_true_eq] at hp
    simp only [firstL, List.length_map, List.length_range, placesOf]
    omega
  · simp
theorem refine_few (zs : List Int) (a : Scn) : (refineG zs a).length ≤ 64 := by
  unfold refineG
  split
  · rename_i h
    have hp : passB a = true := by simp only [Bool.and_eq_true] at h; exact h.1.2
    unfold passB at hp
    simp only [Bool.and_eq_true, decide_eq_true_eq] at hp
    simp only [refineL, List.length_map, List.length_range, placesOf]
    omega
  · simp
theorem of_few (o : Option (List Int)) : (ofO o).length ≤ 64 := by
  unfold ofO
  split
  · unfold unzigged; rw [made_len]; exact Nat.le_refl _
  · simp
theorem putF_few (zs : List Int) (a : Scn) (ls : List Int) : (putFirstG zs a ls).length ≤ 64 := by
  unfold putFirstG
  split
  · exact of_few _
  · simp
theorem putR_few (zs : List Int) (a : Scn) (ls : List Int) : (putRefineG zs a ls).length ≤ 64 := by
  unfold putRefineG
  split
  · exact of_few _
  · simp

end Go.Proofs.Ytfgglainjaplgaa

namespace Go.Proofs.Ytfgglainjaplgaa
open Go.RowKit

/-- How many of a slanting line come ahead of step k. -/
def ahead (s k : Nat) : Nat := lineAt s + (min k 8 - (s - 7))
theorem ahead_zero (s : Nat) : ahead s 0 = lineAt s := by simp [ahead]
theorem ahead_end (s : Nat) : ahead s (s + 1) = lineAt (s + 1) := by simp only [ahead, lineAt]; omega
theorem ahead_le : ∀ s, s < 15 → ∀ k, k < s + 1 → k < 8 → s - k < 8 → ahead s k < 64 := by decide
theorem ahead_in (s k : Nat) (h1 : k < 8) (h2 : s - k < 8) (hk : k ≤ s) : ahead s (k + 1) = ahead s k + 1 := by simp only [ahead]; omega
theorem ahead_out (s k : Nat) (hk : k ≤ s) (h : ¬ (k < 8 ∧ s - k < 8)) : ahead s (k + 1) = ahead s k := by simp only [ahead]; omega
theorem ahead_up : ∀ s, s < 15 → ∀ k, k < s + 1 → k < 8 → s - k < 8 → s % 2 = 0 → zzN.getD (ahead s k) 0 = 8 * (s - k) + s - (s - k) := by decide
theorem ahead_down : ∀ s, s < 15 → ∀ k, k < s + 1 → k < 8 → s - k < 8 → s % 2 = 1 → zzN.getD (ahead s k) 0 = 8 * k + s - k := by decide
theorem zz_take (k : Nat) (h : k < 64) (z : Int) (hz : z = zzF k) : zzL.take k ++ [z] = zzL.take (k + 1) := by
  subst hz
  rw [List.take_add_one]
  have : zzL[k]? = some (zzF k) := by
    rw [List.getElem?_eq_getElem (by rw [zz_len]; exact h)]
    simp [zzF, List.getD_eq_getElem?_getD, List.getElem?_eq_getElem (show k < zzL.length by rw [zz_len]; exact h)]
  rw [this]
  rfl

set_option maxRecDepth 20000 in
set_option maxHeartbeats 1600000 in
theorem specZigZag (w : World) :
    Calls Try.prog 45 #[] w fun e w' => ∃ so sc, e = .returned (.slice so zzL.length sc) ∧ w'.ownsRow w.heap.size 3 1 (.slice so zzL.length sc) zzL.length (zzL.map (Value.int .i64)) ∧ w.grownBy w' none := by
  have hown0 : (w.alloc (.cells #[] 3)).ownsRow w.heap.size 3 1 (.slice (some ⟨w.heap.size, 0, none⟩) 0 0) 0 [] := World.ownsRow_lit w #[] 0 (Nat.le_refl _) (by unfold maxLen; omega) rfl
  have HO := hide hown0
  clear hown0
  go_enter Try.func45, Try.ntmps45
  go_wp2
  go_loopw [1, 2] (fun o i wr => ∃ s : Nat, s ≤ 15 ∧ i = .int .i64 s ∧ Hid (wr.ownsRow w.heap.size 3 1 o (lineAt s) ((zzL.take (lineAt s)).map (Value.int .i64))) ∧ Hid (w.grownBy wr none)) (fun _ i _ => 15 - (intOf i).toNat)
  case atStart => exact ⟨0, Nat.zero_le _, rfl, unhide HO, World.grownBy_alloc _ _ _⟩
  case round =>
    obtain ⟨s, hs, rfl, hM, hgk⟩ := hrel
    obtain ⟨so, sc, rfl⟩ := own_form (unhide hM)
    by_cases hlt : s < 15
    · have HM := hide (unhide hM)
      clear hM
      have hd : decide ((s : Int) < 15) = true := by simp; omega
      go_wp2
      go_loopw [1, 3] (fun o i wr => ∃ k : Nat, k ≤ s + 1 ∧ i = .int .i64 k ∧ Hid (wr.ownsRow w.heap.size 3 1 o (ahead s k) ((zzL.take (ahead s k)).map (Value.int .i64))) ∧ Hid (w.grownBy wr none)) (fun _ i _ => 64 - (intOf i).toNat)
      case atStart => exact ⟨0, Nat.zero_le _, rfl, by unfold Hid; rw [ahead_zero]; exact unhide HM, hgk⟩
      case round =>
        obtain ⟨k, hk, rfl, hMk, hgk2⟩ := hrel
        obtain ⟨so2, sc2, rfl⟩ := own_form (unhide hMk)
        by_cases hltk : k < s + 1
        · have HMK := hide (unhide hMk)
          clear hMk
          by_cases hin : k < 8 ∧ s - k < 8
          · obtain ⟨h1, h2⟩ := hin
            have hin : ahead s (k + 1) = ahead s k + 1 := ahead_in s k h1 h2 (by omega)
            have HIN := hide hin
            clear hin
            have HLT := hide (ahead_le s hlt k hltk h1 h2)
            by_cases hev : s % 2 = 0
            · have HZ := hide ((zzF_eq (ahead s k)).trans (congrArg Int.ofNat (ahead_up s hlt k hltk h1 h2 hev)))
              go_wp2_with (at_builtin; refine append_int rfl _ _ rfl w _ (ahead s k) (zzL.take (ahead s k)) rfl (unhide HMK) _ rfl (by have := unhide HLT; omega) (unhide hgk2) ?_; intro v' w' ho hg)
              go_roundw
              case rel =>
                refine ⟨k + 1, by omega, by go_num, ?_, hg⟩
                rw [zz_take _ (unhide HLT) _ (by rw [unhide HZ]; show _ = ((_ : Nat) : Int); omega)] at ho
                unfold Hid; rw [unhide HIN]; exact ho
              case measure => simp [intOf]; omega
            · have HZ := hide ((zzF_eq (ahead s k)).trans (congrArg Int.ofNat (ahead_down s hlt k hltk h1 h2 (by omega))))
              go_wp2_with (at_builtin; refine append_int rfl _ _ rfl w _ (ahead s k) (zzL.take (ahead s k)) rfl (unhide HMK) _ rfl (by have := unhide HLT; omega) (unhide hgk2) ?_; intro v' w' ho hg)
              go_roundw
              case rel =>
                refine ⟨k + 1, by omega, by go_num, ?_, hg⟩
                rw [zz_take _ (unhide HLT) _ (by rw [unhide HZ]; show _ = ((_ : Nat) : Int); omega)] at ho
                unfold Hid; rw [unhide HIN]; exact ho
              case measure => simp [intOf]; omega
          · have HOUT := hide (ahead_out s k (by omega) hin)
            by_cases hev : s % 2 = 0
            · by_cases h1 : s - k < 8
              · have h2 : ¬ k < 8 := fun e => hin ⟨e, h1⟩
                go_wp2
                go_roundw
                case rel => exact ⟨k + 1, by omega, by go_num, by unfold Hid; rw [unhide HOUT]; exact unhide HMK, hgk2⟩
                case measure => simp [intOf]; omega
              · go_wp2
                go_roundw
                case rel => exact ⟨k + 1, by omega, by go_num, by unfold Hid; rw [unhide HOUT]; exact unhide HMK, hgk2⟩
                case measure => simp [intOf]; omega
            · by_cases h1 : k < 8
              · have h2 : ¬ s - k < 8 := fun e => hin ⟨h1, e⟩
                go_wp2
                go_roundw
                case rel => exact ⟨k + 1, by omega, by go_num, by unfold Hid; rw [unhide HOUT]; exact unhide HMK, hgk2⟩
                case measure => simp [intOf]; omega
              · go_wp2
                go_roundw
                case rel => exact ⟨k + 1, by omega, by go_num, by unfold Hid; rw [unhide HOUT]; exact unhide HMK, hgk2⟩
                case measure => simp [intOf]; omega
        · obtain rfl : k = s + 1 := by omega
          have HE := hide (ahead_end s)
          go_wp2
          go_roundw
          case rel => exact ⟨s + 1, by omega, by go_num, by unfold Hid; rw [← unhide HE]; exact unhide hMk, hgk2⟩
          case measure => simp [intOf]; omega
    · obtain rfl : s = 15 := by omega
      have hM := unhide hM
      rw [line_end, List.take_of_length_le (by rw [zz_len]; omega)] at hM
      have HM := hide hM
      clear hM
      go_wp2
      go_ret
      exact ⟨_, _, rfl, unhide HM, unhide hgk⟩

end Go.Proofs.Ytfgglainjaplgaa

namespace Go.Proofs.Ytfgglainjaplgaa
open Go.RowKit

theorem nums_all {lo hi : Int} {zs : List Int} (hz : zs.length = 64) (h : ∀ j, j < 64 → lo ≤ zs.getD j 0 ∧ zs.getD j 0 ≤ hi) : numsB lo hi zs = true := by
  simp only [numsB, hz, decide_true, Bool.true_and, List.all_eq_true, decide_eq_true_eq]
  intro n hn
  obtain ⟨i, hi', rfl⟩ := List.getElem_of_mem hn
  have h2 : zs.getD i 0 = zs[i] := by simp [hi']
  rw [← h2]
  exact h i (by omega)
theorem nums_at {lo hi : Int} {zs : List Int} (h : numsB lo hi zs = true) : zs.length = 64 ∧ ∀ j, j < 64 → lo ≤ zs.getD j 0 ∧ zs.getD j 0 ≤ hi := by
  simp only [numsB, Bool.and_eq_true, decide_eq_true_eq, List.all_eq_true] at h
  refine ⟨h.1, fun j hj => ?_⟩
  have hj' : j < zs.length := by omega
  have h2 : zs.getD j 0 = zs[j] := by simp [hj']
  rw [h2]
  exact h.2 _ (List.getElem_mem hj')

set_option maxHeartbeats 800000 in
theorem specNums (ao : Option Addr) (n cap : Nat) (zs : List Int) (lo hi : Int) (w : World) (hr : Rd .i64 w ao n zs) (b : Bool) (hb : Hid (numsB lo hi zs = b)) :
    Calls Try.prog 54 #[.slice ao n cap, .int .i64 lo, .int .i64 hi] w fun e w' => e = .returned (.bool b) ∧ w.grownBy w' none := by
  by_cases h : n = 64
  · subst h
    have HR := hide hr
    have HZ := hide hr.1
    clear hr
    go_enter Try.func54, Try.ntmps54
    go_wp2
    go_loopw [7] (fun i wr => ∃ k : Nat, k ≤ 64 ∧ i = .int .i64 k ∧ (Hid (∀ j, j < k → lo ≤ zs.getD j 0 ∧ zs.getD j 0 ≤ hi)) ∧ w.grownBy wr none) (fun i _ => 64 - (intOf i).toNat)
    case atStart => exact ⟨0, Nat.zero_le _, rfl, fun j hj => absurd hj (by omega), World.grownBy.refl _ _⟩
    case round =>
      obtain ⟨k, hk, rfl, HK, hgk⟩ := hrel
      by_cases hlt : k < 64
      · obtain ⟨bb, off, rfl, hc⟩ := (unhide HR).2 k hlt
        have hcell := hgk.cell hc (by simp)
        obtain ⟨t, HT⟩ : ∃ t, Hid (decide (lo ≤ zs.getD k 0 ∧ zs.getD k 0 ≤ hi) = t) := ⟨_, rfl⟩
        clear hc
        obtain ⟨z, HX⟩ : ∃ z, Hid (zs.getD k 0 = z) := ⟨_, rfl⟩
        rw [unhide HX] at hcell HT
        go_wp2_with fail
        refine (between z lo hi t HT wr).mono ?_
        rintro e w2 ⟨rfl, rfl⟩
        cases t with
        | true =>
          go_wp2
          go_roundw
          case rel =>
            refine ⟨k + 1, by omega, by go_num, fun j hj => ?_, hgk⟩
            by_cases e : j = k
            · subst e; rw [unhide HX]; have := unhide HT; simpa using this
            · exact unhide HK j (by omega)
          case measure => simp [intOf]; omega
        | false =>
          have hf : b = false := by
            cases hbb : b with
            | false => rfl
            | true =>
              have h1 := (nums_at ((unhide hb).trans hbb)).2 k hlt
              rw [unhide HX] at h1
              have := unhide HT
              simp at this
              omega
          subst hf
          go_wp2
          go_ret
          exact ⟨rfl, hgk⟩
      · obtain rfl : k = 64 := by omega
        have ht : b = true := by rw [← unhide hb]; exact nums_all (unhide HZ) (unhide HK)
        subst ht
        go_wp2
        go_ret
        exact ⟨rfl, hgk⟩
  · have hb' : b = false := by rw [← unhide hb]; simp [numsB, hr.1, h]
    subst hb'
    have hne : ((n : Int) != 64) = true := by simp; omega
    clear hr hb
    go_enter Try.func54, Try.ntmps54
    go_wp2
    go_ret
    exact ⟨rfl, World.grownBy.refl _ _⟩

set_option maxHeartbeats 400000 in
theorem specBlockOk (ao : Option Addr) (n cap : Nat) (zs : List Int) (w : World) (hr : Rd .i64 w ao n zs) (b : Bool) (hb : Hid (numsB (-32767) 32767 zs = b)) :
    Calls Try.prog 44 #[.slice ao n cap] w fun e w' => e = .returned (.bool b) ∧ w.grownBy w' none := by
  have HR := hide hr
  clear hr
  go_enter Try.func44, Try.ntmps44
  go_wp2_with fail
  refine (specNums ao n cap zs _ _ _ (unhide HR) b hb).mono ?_
  rintro e w1 ⟨rfl, g⟩
  go_wp2
  go_ret
  exact ⟨rfl, g⟩

end Go.Proofs.Ytfgglainjaplgaa
