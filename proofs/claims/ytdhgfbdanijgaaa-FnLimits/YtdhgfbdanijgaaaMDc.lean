/-
  TabKit, TabImpl, TabImpl2, LevSpec, LevelFix, Tree, TreeG, TreeGA, QuietLast.
-/
import Derived.Test.YtdhgfbdanijgaaaRows
import Derived.Deep.WholeRow
import Derived.Deep.MidRow
import Derived.ChangeKeysEq
import Derived.Laws.ResultCell
import Derived.Maps.AppendAt
import Derived.Deep.RegionHeld3
import Derived.Shelf.Abstract
import Derived.Deep.AppendLies
import Derived.Deep.Quiet
import Derived.BigQuiet
import Derived.Test.YtdhgfbdanijgaaaMDb

namespace Go.Proofs.Ytdhgfbdanijgaaa
open Go.RowKit

/-- The cells of numbers. -/
def sq (zs : List Int) : Array Value := (zs.map (Value.int .i64)).toArray
theorem sq_size (zs : List Int) : (sq zs).size = zs.length := by simp [sq]
theorem sq_one (zs : List Int) : (sq zs).all (·.oneCell') = true := by simp [sq, Value.oneCell']
theorem sq_at (zs : List Int) (i : Nat) (h : i < zs.length) : (sq zs)[i]? = some (.int .i64 (zs.getD i 0)) := by simp [sq, h]
/-- Sixty-four noughts. -/
def zs64 : List Int := List.replicate 64 0
theorem zs64_len : zs64.length = 64 := by simp [zs64]
theorem sq_z64 : sq zs64 = #[.int .i64 0, .int .i64 0, .int .i64 0, .int .i64 0, .int .i64 0, .int .i64 0, .int .i64 0, .int .i64 0, .int .i64 0, .int .i64 0, .int .i64 0, .int .i64 0, .int .i64 0, .int .i64 0, .int .i64 0, .int .i64 0, .int .i64 0, .int .i64 0, .int .i64 0, .int .i64 0, .int .i64 0, .int .i64 0, .int .i64 0, .int .i64 0, .int .i64 0, .int .i64 0, .int .i64 0, .int .i64 0, .int .i64 0, .int .i64 0, .int .i64 0, .int .i64 0, .int .i64 0, .int .i64 0, .int .i64 0, .int .i64 0, .int .i64 0, .int .i64 0, .int .i64 0, .int .i64 0, .int .i64 0, .int .i64 0, .int .i64 0, .int .i64 0, .int .i64 0, .int .i64 0, .int .i64 0, .int .i64 0, .int .i64 0, .int .i64 0, .int .i64 0, .int .i64 0, .int .i64 0, .int .i64 0, .int .i64 0, .int .i64 0, .int .i64 0, .int .i64 0, .int .i64 0, .int .i64 0, .int .i64 0, .int .i64 0, .int .i64 0, .int .i64 0] := by rfl
/-- A list whose first k numbers are f's. -/
def mix (f : Nat → Int) (zs : List Int) (k : Nat) : List Int := (List.range k).map f ++ zs.drop k
/-- Sixty-four numbers of f. -/
def made (f : Nat → Int) : List Int := (List.range 64).map f
theorem made_len (f : Nat → Int) : (made f).length = 64 := by simp [made]
theorem made_at (f : Nat → Int) (i : Nat) (h : i < 64) : (made f).getD i 0 = f i := by simp [made, h]
theorem made_take (f : Nat → Int) (k : Nat) (h : k < 64) (z : Int) (hz : z = f k) : (made f).take k ++ [z] = (made f).take (k + 1) := by
  subst hz
  rw [List.take_add_one]
  have : (made f)[k]? = some (f k) := by simp [made, h]
  rw [this]
  rfl
theorem made_take_all (f : Nat → Int) : (made f).take 64 = made f := List.take_of_length_le (by rw [made_len]; exact Nat.le_refl _)
theorem mix_zero (f : Nat → Int) (zs : List Int) : mix f zs 0 = zs := by simp [mix]
theorem mix_all (f : Nat → Int) (zs : List Int) (h : zs.length = 64) : mix f zs 64 = made f := by simp [mix, made, List.drop_eq_nil_of_le (Nat.le_of_eq h)]
theorem mix_len (f : Nat → Int) (zs : List Int) (k : Nat) (h : k ≤ zs.length) : (mix f zs k).length = zs.length := by simp [mix]; omega
theorem mix_set (f : Nat → Int) (zs : List Int) (k : Nat) (h : k < zs.length) : (sq (mix f zs k)).setIfInBounds k (.int .i64 (f k)) = sq (mix f zs (k + 1)) := by
  unfold sq mix
  apply Array.ext'
  simp only [List.setIfInBounds_toArray, List.map_append, List.range_succ, List.map_cons, List.map_nil, List.append_assoc]
  rw [List.set_append_right _ _ (by simp), List.drop_eq_getElem_cons h]
  simp only [List.map_cons, List.length_map, List.length_range, Nat.sub_self, List.set_cons_zero, List.cons_append, List.nil_append]
theorem made_congr {f g : Nat → Int} (h : ∀ p, p < 64 → f p = g p) : made f = made g := by
  unfold made
  apply List.map_congr_left
  intro p hp
  exact h p (by simpa using hp)
theorem made_set (f : Nat → Int) (j : Nat) (v : Int) (hj : j < 64) : (sq (made f)).setIfInBounds j (.int .i64 v) = sq (made (fun p => if p = j then v else f p)) := by
  apply Array.ext_getElem?
  intro i
  by_cases hi : i < 64
  · rw [Array.getElem?_setIfInBounds, sq_at _ i (by rw [made_len]; exact hi), sq_at _ i (by rw [made_len]; exact hi), sq_size, made_len, made_at _ i hi, made_at _ i hi]
    by_cases e : j = i
    · subst e; simp [hj]
    · simp [e, Ne.symm e]
  · rw [Array.getElem?_eq_none (by simp [sq_size, made_len]; omega), Array.getElem?_eq_none (by simp [sq_size, made_len]; omega)]
theorem sq_rd {w : World} {b off n : Nat} {zs : List Int} (h : Rd .i64 w (some ⟨b, off, none⟩) n zs) : ∀ j v, (sq zs)[j]? = some v → w.cell? ⟨b, off + j, none⟩ = some v := by
  intro j v hj
  have hjl : j < n := by
    have := (Array.getElem?_eq_some_iff.1 hj).1
    rw [sq_size, h.1] at this; exact this
  obtain ⟨b', off', e, hc⟩ := h.2 j hjl
  simp only [Option.some.injEq, Addr.mk.injEq, and_true] at e
  obtain ⟨rfl, rfl⟩ := e
  rw [hc, ← sq_at zs j (by rw [h.1]; exact hjl), hj]
theorem sq_cell {w : World} {g : Nat} {zs : List Int} {t : TypeId} (hb : w.heap[g]? = some (.cells (sq zs) t (0, 0))) (i : Nat) (h : i < zs.length) : w.cell? ⟨g, i, none⟩ = some (.int .i64 (zs.getD i 0)) := by
  rw [cell_of_row w _ i _ _ (0, 0) hb]; exact sq_at zs i h
theorem sq_frozen {w : World} {g : Nat} {zs : List Int} {t : TypeId} (hb : w.heap[g]? = some (.cells (sq zs) t (0, 0))) (i : Nat) : w.frozen? ⟨g, i, none⟩ = false := frozen_of_row w g i _ _ hb
/-- A number of an array that is held as a value. -/
theorem idx {zs : List Int} (hz : zs.length = 64) (k : Int) (h0 : 0 ≤ k) (h1 : k < 64) (w : World) : (Instr.index 62 (.agg (sq zs)) (.int .i64 k)).run Try.prog w = .ok (.int .i64 (zs.getD k.toNat 0)) w := by
  have h := sq_at zs k.toNat (by omega)
  simp [Instr.index, asIntOf, Sem.run_bind, run_underlying Try.underlying62, run_underlying Try.underlying3, Result.andThen_ok, h0, h1, Go.part, isAgg, h]

/-- One number more behind a row of one's own. -/
theorem append_int {w : World} {ops : Array Oper} {rest : List Oper} {o : Oper} {a : Act} {Q : Exit → Act → World → Prop} (hgd : o.guard = none) (s x : Operand)
    (ho : o.op = .call { callee := .builtin .append, args := #[s, x], argTypes := #[39, 39] })
    (B : World) (v : Value) (n : Nat) (xs : List Int) (hs : a.eval s = v) (hown : w.ownsRow B.heap.size 3 1 v n (xs.map (Value.int .i64))) (z : Int) (hx : a.eval x = .slice (some ⟨w.heap.size, 0, none⟩) 1 1)
    (hb : n + 1 ≤ 1000000) (hB : B.grownBy w none)
    (h : ∀ v' w', w'.ownsRow B.heap.size 3 1 v' (n + 1) ((xs ++ [z]).map (Value.int .i64)) → B.grownBy w' none → wpList Try.prog ops Q rest (a.put o.dst v') w') :
    wpList Try.prog ops Q (o :: rest) a (w.alloc (.cells #[.int .i64 z] 3)) := by
  obtain ⟨i0, hi, hz0, hz1, hz2⟩ := info_parts Try.info3
  refine wpList_append_own _ hgd s x 39 ho B.heap.size 3 i0 (.int .i64 0) 1 8 Try.underlying39 hi hz0 hz1 hz2 rfl (by decide) v n _ hs (hown.alloc _) ⟨w.heap.size, 0, none⟩ 1 1 [.int .i64 z] hx rfl (cell_one_new _ _ _) (by intro u hu; simp at hu; subst hu; rfl) (by unfold maxLen; omega) (by omega) (by have := hB.size; simp; omega) ?_
  intro v' w' h1 h2 _
  refine h v' w' (by rw [List.map_append]; exact h1) (grown_new (grown_alloc hB _) h2 (fun g e => (hown.lt g e).1))

/-- A row of one's own that grows from the block g0 on, all other blocks of S staying as they are. -/
structure OutI (B S : World) (g0 : Nat) (wr : World) (v : Value) (n : Nat) (xs : List Int) : Prop where
  own : wr.ownsRow B.heap.size 3 1 v n (xs.map (Value.int .i64))
  base : B.grownBy wr none
  kept : S.grownBy wr (some g0)
  lies : ∀ g, v.ownBlock = some g → g = g0 ∨ S.heap.size ≤ g
theorem append_out {w : World} {ops : Array Oper} {rest : List Oper} {o : Oper} {a : Act} {Q : Exit → Act → World → Prop} (hgd : o.guard = none) (s x : Operand)
    (ho : o.op = .call { callee := .builtin .append, args := #[s, x], argTypes := #[39, 39] })
    (B S : World) (g0 : Nat) (v : Value) (n : Nat) (xs : List Int) (hs : a.eval s = v) (hown : OutI B S g0 w v n xs) (z : Int) (hx : a.eval x = .slice (some ⟨w.heap.size, 0, none⟩) 1 1)
    (hb : n + 1 ≤ 1000000)
    (h : ∀ v' w', OutI B S g0 w' v' (n + 1) (xs ++ [z]) → wpList Try.prog ops Q rest (a.put o.dst v') w') :
    wpList Try.prog ops Q (o :: rest) a (w.alloc (.cells #[.int .i64 z] 3)) := by
  obtain ⟨i0, hi, hz0, hz1, hz2⟩ := info_parts Try.info3
  refine wpList_append_own_at _ hgd s x 39 ho B.heap.size 3 i0 (.int .i64 0) 1 8 Try.underlying39 hi hz0 hz1 hz2 rfl (by decide) v n _ hs (hown.own.alloc _) ⟨w.heap.size, 0, none⟩ 1 1 [.int .i64 z] hx rfl (cell_one_new _ _ _) (by intro u hu; simp at hu; subst hu; rfl) (by unfold maxLen; omega) (by omega) (by have := hown.base.size; simp; omega) ?_
  intro v' w' h1 h2 _ h4
  have hsz := hown.kept.size
  refine h v' w' ⟨by rw [List.map_append]; exact h1, grown_new (grown_alloc hown.base _) h2 (fun g e => (hown.own.lt g e).1), ?_, ?_⟩
  · have hA : S.grownBy (w.alloc (.cells #[.int .i64 z] 3)) (some g0) := grown_trans hown.kept (World.grownBy_alloc _ _ _)
    refine ⟨h2.os.trans hA.os, h2.tape.trans hA.tape, h2.output.trans hA.output, Nat.le_trans hA.size h2.size, fun k hk hne => (h2.block k (Nat.lt_of_lt_of_le hk hA.size) ?_).trans (hA.block k hk hne)⟩
    intro e
    rcases hown.lies k e.symm with e2 | e2
    · exact hne (by rw [e2])
    · omega
  · intro g e
    rcases h4 with h4 | h4
    · exact hown.lies g (by rw [← h4]; exact e)
    · rw [h4] at e
      simp at e
      right; omega

/-- Squares compared. -/
theorem eqSq {zs ys : List Int} (hz : zs.length = 64) (hy : ys.length = 64) (w : World) : (Op.equalIn 10000 62 (.agg (sq zs)) (.agg (sq ys))).run Try.prog w = .ok (zs == ys) w := by
  obtain ⟨i0, hi, _⟩ := info_parts Try.info3
  rw [run_equalIn_array w 9999 (sq zs) (sq ys) Try.underlying62 hi]
  have hc : Try.prog.cellsOf 3 = 1 := by kernel_rfl
  rw [hc]
  have key : ∀ (l : List Nat), (∀ i ∈ l, i < 64) → (Op.eqItems 9999 3 1 (sq zs) (sq ys) l).run Try.prog w = .ok (l.all fun i => zs.getD i 0 == ys.getD i 0) w := by
    intro l hl
    induction l with
    | nil => simp [Op.eqItems]
    | cons i l ih =>
      have hi : i < 64 := hl i (by simp)
      have h1 := sq_at zs i (by omega)
      have h2 := sq_at ys i (by omega)
      have px : (Go.part 3 (sq zs) (i * 1)).run Try.prog w = .ok (.int .i64 (zs.getD i 0)) w := by
        rw [Nat.mul_one]; simp [Go.part, isAgg, run_underlying Try.underlying3, h1]
      have py : (Go.part 3 (sq ys) (i * 1)).run Try.prog w = .ok (.int .i64 (ys.getD i 0)) w := by
        rw [Nat.mul_one]; simp [Go.part, isAgg, run_underlying Try.underlying3, h2]
      simp only [Op.eqItems, Sem.run_bind, px, py, Result.andThen_ok, run_equalIn_int w 9998 3 .i64 .i64 _ _ Try.underlying3, List.all_cons]
      cases hb : (zs.getD i 0 == ys.getD i 0)
      · simp
      · simp only [Bool.not_true, Bool.false_eq_true, if_false, Bool.true_and]
        exact ih fun j hj => hl j (by simp [hj])
  rw [key _ (fun i hi => by simpa using hi)]
  refine congrArg (fun b => Result.ok b w) ?_
  generalize hN : (64 : Nat) = N at *
  rw [Bool.eq_iff_iff]
  simp only [List.all_eq_true, List.mem_range, beq_iff_eq]
  constructor
  · intro h
    apply List.ext_getElem?
    intro i
    by_cases hi : i < N
    · have := h i hi
      rw [List.getElem?_eq_getElem (by omega), List.getElem?_eq_getElem (by omega)]
      simpa [List.getD_eq_getElem?_getD, show i < zs.length by omega, show i < ys.length by omega] using this
    · rw [List.getElem?_eq_none (by omega), List.getElem?_eq_none (by omega)]
  · rintro rfl i _; rfl

end Go.Proofs.Ytdhgfbdanijgaaa

namespace Go.Proofs.Ytdhgfbdanijgaaa
open Go.RowKit

set_option maxRecDepth 20000 in
set_option maxHeartbeats 800000 in
theorem each (zs : List Int) (hz : zs.length = 64) (f : Nat → Int) (g : Nat) (lb : Array Value) (eg : ∀ args w, (callFunc g args).run Try.prog w = .ok (.enter g args) w) (w : World)
    (HC : Hid (∀ k, k < 64 → ∀ W, w.grownBy W none → Calls Try.prog g (#[.int .i64 (zs.getD k 0)] ++ lb) W fun e W' => e = .returned (.int .i64 (f k)) ∧ W.grownBy W' none)) :
    Calls Try.prog 39 #[.agg (sq zs), .func (.func g) #[] lb] w fun e w' => e = .returned (.agg (sq (made f))) ∧ w.grownBy w' none := by
  have hs : (sq zs).size = 64 := by rw [sq_size, hz]
  obtain ⟨W0, hW0⟩ : ∃ W0, ((w.alloc (.cells (sq zs) 62)).alloc (.cells #[.int .i64 0, .int .i64 0, .int .i64 0, .int .i64 0, .int .i64 0, .int .i64 0, .int .i64 0, .int .i64 0, .int .i64 0, .int .i64 0, .int .i64 0, .int .i64 0, .int .i64 0, .int .i64 0, .int .i64 0, .int .i64 0, .int .i64 0, .int .i64 0, .int .i64 0, .int .i64 0, .int .i64 0, .int .i64 0, .int .i64 0, .int .i64 0, .int .i64 0, .int .i64 0, .int .i64 0, .int .i64 0, .int .i64 0, .int .i64 0, .int .i64 0, .int .i64 0, .int .i64 0, .int .i64 0, .int .i64 0, .int .i64 0, .int .i64 0, .int .i64 0, .int .i64 0, .int .i64 0, .int .i64 0, .int .i64 0, .int .i64 0, .int .i64 0, .int .i64 0, .int .i64 0, .int .i64 0, .int .i64 0, .int .i64 0, .int .i64 0, .int .i64 0, .int .i64 0, .int .i64 0, .int .i64 0, .int .i64 0, .int .i64 0, .int .i64 0, .int .i64 0, .int .i64 0, .int .i64 0, .int .i64 0, .int .i64 0, .int .i64 0, .int .i64 0] 62)) = W0 := ⟨_, rfl⟩
  have b0 : W0.heap[w.heap.size]? = some (.cells (sq zs) 62 (0, 0)) := by
    rw [← hW0, Below.heap_alloc _ _ _ (by simp)]
    exact heap_alloc_new w _
  have b1 : W0.heap[w.heap.size + 1]? = some (.cells (sq zs64) 62 (0, 0)) := by
    rw [← hW0, sq_z64]
    have := heap_alloc_new (w.alloc (.cells (sq zs) 62)) (.cells #[.int .i64 0, .int .i64 0, .int .i64 0, .int .i64 0, .int .i64 0, .int .i64 0, .int .i64 0, .int .i64 0, .int .i64 0, .int .i64 0, .int .i64 0, .int .i64 0, .int .i64 0, .int .i64 0, .int .i64 0, .int .i64 0, .int .i64 0, .int .i64 0, .int .i64 0, .int .i64 0, .int .i64 0, .int .i64 0, .int .i64 0, .int .i64 0, .int .i64 0, .int .i64 0, .int .i64 0, .int .i64 0, .int .i64 0, .int .i64 0, .int .i64 0, .int .i64 0, .int .i64 0, .int .i64 0, .int .i64 0, .int .i64 0, .int .i64 0, .int .i64 0, .int .i64 0, .int .i64 0, .int .i64 0, .int .i64 0, .int .i64 0, .int .i64 0, .int .i64 0, .int .i64 0, .int .i64 0, .int .i64 0, .int .i64 0, .int .i64 0, .int .i64 0, .int .i64 0, .int .i64 0, .int .i64 0, .int .i64 0, .int .i64 0, .int .i64 0, .int .i64 0, .int .i64 0, .int .i64 0, .int .i64 0, .int .i64 0, .int .i64 0, .int .i64 0] 62)
    simpa using this
  have hsz : W0.heap.size = w.heap.size + 2 := by rw [← hW0]; simp
  have G0 : Hid (w.grownBy W0 none) := by rw [← hW0]; exact grown_alloc (grown_alloc (World.grownBy.refl _ _) _) _
  have HW := hide hW0
  have B0 := hide b0
  have B1 := hide b1
  have HS := hide hs
  have HZ := hide hz
  clear hW0 b0 b1 hz
  go_enter Try.func39, Try.ntmps39
  go_wp2_with (rw [unhide HW]; refine load_row rfl 62 _ rfl w.heap.size rfl (sq zs) 62 (unhide B0) _ Try.underlying62 rfl (by rw [unhide HS]; kernel_rfl) ?_)
  clear HW hs
  go_loopw [8] (fun i wr => ∃ k : Nat, k ≤ 64 ∧ i = .int .i64 k ∧ wr.heap[w.heap.size]? = some (.cells (sq (mix f zs k)) 62 (0, 0)) ∧ W0.grownBy wr (some w.heap.size)) (fun i _ => 64 - (intOf i).toNat)
  case atStart => exact ⟨0, Nat.zero_le _, rfl, by rw [mix_zero]; exact unhide B0, World.grownBy.refl _ _⟩
  case round =>
    obtain ⟨k, hk, rfl, hM, hgk⟩ := hrel
    by_cases hlt : k < 64
    · have hat := fun w => idx (unhide HZ) (k : Int) (by omega) (by omega) w
      simp only [Int.toNat_natCast] at hat
      have hl : (mix f zs k).length = 64 := (mix_len f zs k (by have := unhide HZ; omega)).trans (unhide HZ)
      have G1 : Hid (w.grownBy wr none) := grown_new (unhide G0) hgk (fun g e => by simp at e; omega)
      go_wp2_with fail
      refine (unhide HC k hlt wr (unhide G1)).mono ?_
      rintro e W2 ⟨rfl, g2⟩
      have hM2 := (g2.block w.heap.size (by have := hgk.size; omega) (by simp)).trans hM
      have c2 := sq_cell hM2 k (by omega)
      have f2 := sq_frozen hM2 k
      have hM3 := heap_setCell_same W2 w.heap.size k _ _ (.int .i64 (f k)) hM2
      rw [mix_set f zs k (by have := unhide HZ; omega)] at hM3
      have hg3 := grown_trans (grown_trans hgk (grown_any g2)) (grown_set W2 w.heap.size k (.int .i64 (f k)))
      have H3 := hide hM3
      have HG3 := hide hg3
      clear hM hM2 hM3 hg3 hgk g2 hat
      go_wp2
      go_roundw
      case rel => exact ⟨k + 1, by omega, by go_num, unhide H3, unhide HG3⟩
      case measure => simp [intOf]; omega
    · obtain rfl : k = 64 := by omega
      rw [mix_all f zs (unhide HZ)] at hM
      have hbr := (hgk.block (w.heap.size + 1) (by omega) (by simp)).trans (unhide B1)
      have hms : (sq (made f)).size = 64 := by rw [sq_size, made_len]
      have HM := hide hM
      have HBR := hide hbr
      have HMS := hide hms
      clear hM hbr hms
      go_wp2_with (first | (refine load_row rfl 62 _ rfl w.heap.size rfl (sq (made f)) 62 (unhide HM) _ Try.underlying62 rfl (by rw [unhide HMS]; kernel_rfl) ?_) | (refine store_row rfl 62 _ _ rfl (w.heap.size + 1) rfl (sq (made f)) rfl (sq zs64) 62 (unhide HBR) (by rw [unhide HMS, sq_size, zs64_len]) (by rw [unhide HMS]; kernel_rfl) (sq_one _) ?_; intro w3 hB3 g3))
      refine bodyPost_ret (v := .agg (sq (made f))) ?_ rfl ⟨rfl, ?_⟩
      · rw [results_c1 rfl]
        exact run_loadVar_row w3 _ 62 62 _ (0, 0) _ hB3 Try.underlying62 rfl (by rw [unhide HMS]; kernel_rfl)
      · exact grown_new (grown_new (unhide G0) hgk (fun g e => by simp at e; omega)) g3 (fun g e => by simp at e; omega)

theorem nearestStep (n : Int) (w : World) :
    Calls Try.prog 28 #[.int .i64 n] w fun e w' => e = .returned (.int .i64 (min (max n 1) 1023)) ∧ w = w' := by
  go_enter Try.func28, Try.ntmps28
  go_wp2
  all_goals
    go_ret
    refine ⟨ret_int ?_, rfl⟩
    first | omega | (split at * <;> omega)

theorem ints_one (zs : List Int) : ∀ u ∈ zs.map (Value.int .i64), u.oneCell' = true := by
  intro u hu
  obtain ⟨y, _, rfl⟩ := List.mem_map.1 hu
  rfl
theorem rd_newsI {w : World} {x : Addr} {m : Nat} {zs : List Int} (h : Rd .i64 w (some x) m zs) : ∀ j u, (zs.map (Value.int .i64))[j]? = some u → w.cell? (x.add j) = some u := by
  intro j u hj
  have hl := h.1
  have hjl : j < m := by
    have := (List.getElem?_eq_some_iff.1 hj).1
    simp at this; omega
  obtain ⟨b, off, e, hc⟩ := h.2 j hjl
  simp only [Option.some.injEq] at e
  subst e
  rw [Addr.add_lit, hc]
  rw [List.getElem?_map] at hj
  have hj2 : j < zs.length := by omega
  simp [hj2] at hj ⊢
  exact hj

end Go.Proofs.Ytdhgfbdanijgaaa

namespace Go.Proofs.Ytdhgfbdanijgaaa
open Go.RowKit Go.Shelf

theorem z64_one : (#[.int .i64 0, .int .i64 0, .int .i64 0, .int .i64 0, .int .i64 0, .int .i64 0, .int .i64 0, .int .i64 0, .int .i64 0, .int .i64 0, .int .i64 0, .int .i64 0, .int .i64 0, .int .i64 0, .int .i64 0, .int .i64 0, .int .i64 0, .int .i64 0, .int .i64 0, .int .i64 0, .int .i64 0, .int .i64 0, .int .i64 0, .int .i64 0, .int .i64 0, .int .i64 0, .int .i64 0, .int .i64 0, .int .i64 0, .int .i64 0, .int .i64 0, .int .i64 0, .int .i64 0, .int .i64 0, .int .i64 0, .int .i64 0, .int .i64 0, .int .i64 0, .int .i64 0, .int .i64 0, .int .i64 0, .int .i64 0, .int .i64 0, .int .i64 0, .int .i64 0, .int .i64 0, .int .i64 0, .int .i64 0, .int .i64 0, .int .i64 0, .int .i64 0, .int .i64 0, .int .i64 0, .int .i64 0, .int .i64 0, .int .i64 0, .int .i64 0, .int .i64 0, .int .i64 0, .int .i64 0, .int .i64 0, .int .i64 0, .int .i64 0, .int .i64 0] : Array Value).all (·.oneCell') = true := by rw [← sq_z64]; exact sq_one _

set_option maxRecDepth 20000 in
set_option maxHeartbeats 800000 in
/-- A list that is no square. -/
theorem fixSquare_no (ao : Option Addr) (n cap : Nat) (g : Value) (w : World) (h : n ≠ 64) :
    Calls Try.prog 27 #[.slice ao n cap, g] w fun e w' => e = .returned (.tuple #[.agg (sq zs64), .bool false]) ∧ w.grownBy w' none := by
  have hne : ((n : Int) != 64) = true := by simp; omega
  clear h
  go_enter Try.func27, Try.ntmps27
  go_wp2_with (refine store_row rfl 62 _ _ rfl w.heap.size rfl #[.int .i64 0, .int .i64 0, .int .i64 0, .int .i64 0, .int .i64 0, .int .i64 0, .int .i64 0, .int .i64 0, .int .i64 0, .int .i64 0, .int .i64 0, .int .i64 0, .int .i64 0, .int .i64 0, .int .i64 0, .int .i64 0, .int .i64 0, .int .i64 0, .int .i64 0, .int .i64 0, .int .i64 0, .int .i64 0, .int .i64 0, .int .i64 0, .int .i64 0, .int .i64 0, .int .i64 0, .int .i64 0, .int .i64 0, .int .i64 0, .int .i64 0, .int .i64 0, .int .i64 0, .int .i64 0, .int .i64 0, .int .i64 0, .int .i64 0, .int .i64 0, .int .i64 0, .int .i64 0, .int .i64 0, .int .i64 0, .int .i64 0, .int .i64 0, .int .i64 0, .int .i64 0, .int .i64 0, .int .i64 0, .int .i64 0, .int .i64 0, .int .i64 0, .int .i64 0, .int .i64 0, .int .i64 0, .int .i64 0, .int .i64 0, .int .i64 0, .int .i64 0, .int .i64 0, .int .i64 0, .int .i64 0, .int .i64 0, .int .i64 0, .int .i64 0] rfl #[.int .i64 0, .int .i64 0, .int .i64 0, .int .i64 0, .int .i64 0, .int .i64 0, .int .i64 0, .int .i64 0, .int .i64 0, .int .i64 0, .int .i64 0, .int .i64 0, .int .i64 0, .int .i64 0, .int .i64 0, .int .i64 0, .int .i64 0, .int .i64 0, .int .i64 0, .int .i64 0, .int .i64 0, .int .i64 0, .int .i64 0, .int .i64 0, .int .i64 0, .int .i64 0, .int .i64 0, .int .i64 0, .int .i64 0, .int .i64 0, .int .i64 0, .int .i64 0, .int .i64 0, .int .i64 0, .int .i64 0, .int .i64 0, .int .i64 0, .int .i64 0, .int .i64 0, .int .i64 0, .int .i64 0, .int .i64 0, .int .i64 0, .int .i64 0, .int .i64 0, .int .i64 0, .int .i64 0, .int .i64 0, .int .i64 0, .int .i64 0, .int .i64 0, .int .i64 0, .int .i64 0, .int .i64 0, .int .i64 0, .int .i64 0, .int .i64 0, .int .i64 0, .int .i64 0, .int .i64 0, .int .i64 0, .int .i64 0, .int .i64 0, .int .i64 0] 62 (heap_alloc_new _ _) rfl (by kernel_rfl) z64_one ?_; intro w3 hB3 g3)
  rw [← sq_z64] at hB3
  refine bodyPost_ret (v := .tuple #[.agg (sq zs64), .bool false]) ?_ rfl ⟨rfl, ?_⟩
  · exact results_c2 (p := 4) (q := 5) (ty := 62) rfl _ _ _ w.heap.size rfl _ (run_loadVar_row w3 _ 62 62 _ (0, 0) _ hB3 Try.underlying62 rfl (by rw [sq_size, zs64_len]; kernel_rfl))
  · exact grown_new (World.grownBy_alloc _ _ _) g3 (fun g e => by simp at e; omega)

set_option maxRecDepth 20000 in
set_option maxHeartbeats 800000 in
/-- A list as a square, and whether f leaves each of its numbers. -/
theorem fixSquare_yes (b off cap : Nat) (zs : List Int) (w : World) (hr : Rd .i64 w (some ⟨b, off, none⟩) 64 zs) (f : Nat → Int) (g : Nat) (lb : Array Value) (eg : ∀ args w, (callFunc g args).run Try.prog w = .ok (.enter g args) w)
    (HC : Hid (∀ k, k < 64 → ∀ W, w.grownBy W none → Calls Try.prog g (#[.int .i64 (zs.getD k 0)] ++ lb) W fun e W' => e = .returned (.int .i64 (f k)) ∧ W.grownBy W' none)) :
    Calls Try.prog 27 #[.slice (some ⟨b, off, none⟩) 64 cap, .func (.func g) #[] lb] w fun e w' => e = .returned (.tuple #[.agg (sq zs), .bool (zs == made f)]) ∧ w.grownBy w' none := by
  have hz : zs.length = 64 := hr.1
  have HR := hide hr
  clear hr
  have HZ := hide hz
  clear hz
  have har : ∀ w, (Instr.arrayAt 62 (.slice (some ⟨b, off, none⟩) 64 cap)).run Try.prog w = .ok (.pointer (some ⟨b, off, none⟩)) w := fun w => by kernel_rfl
  have HSL : Hid ((sq zs).size = 64) := by unfold Hid; rw [sq_size, unhide HZ]
  have HLD : ∀ (w : World) (g : Nat), w.heap[g]? = some (.cells (sq zs) 62 (0, 0)) → (loadVar 62 ⟨g, 0, none⟩).run Try.prog w = .ok (.agg (sq zs)) w := fun w g h => run_loadVar_row w g 62 62 _ (0, 0) _ h Try.underlying62 rfl (by rw [unhide HSL]; kernel_rfl)
  have HLD' := hide HLD
  clear HLD
  obtain ⟨W0, hW0⟩ : ∃ W0, (w.alloc (.cells #[.int .i64 0, .int .i64 0, .int .i64 0, .int .i64 0, .int .i64 0, .int .i64 0, .int .i64 0, .int .i64 0, .int .i64 0, .int .i64 0, .int .i64 0, .int .i64 0, .int .i64 0, .int .i64 0, .int .i64 0, .int .i64 0, .int .i64 0, .int .i64 0, .int .i64 0, .int .i64 0, .int .i64 0, .int .i64 0, .int .i64 0, .int .i64 0, .int .i64 0, .int .i64 0, .int .i64 0, .int .i64 0, .int .i64 0, .int .i64 0, .int .i64 0, .int .i64 0, .int .i64 0, .int .i64 0, .int .i64 0, .int .i64 0, .int .i64 0, .int .i64 0, .int .i64 0, .int .i64 0, .int .i64 0, .int .i64 0, .int .i64 0, .int .i64 0, .int .i64 0, .int .i64 0, .int .i64 0, .int .i64 0, .int .i64 0, .int .i64 0, .int .i64 0, .int .i64 0, .int .i64 0, .int .i64 0, .int .i64 0, .int .i64 0, .int .i64 0, .int .i64 0, .int .i64 0, .int .i64 0, .int .i64 0, .int .i64 0, .int .i64 0, .int .i64 0] 62)).alloc (.cells #[.int .i64 0, .int .i64 0, .int .i64 0, .int .i64 0, .int .i64 0, .int .i64 0, .int .i64 0, .int .i64 0, .int .i64 0, .int .i64 0, .int .i64 0, .int .i64 0, .int .i64 0, .int .i64 0, .int .i64 0, .int .i64 0, .int .i64 0, .int .i64 0, .int .i64 0, .int .i64 0, .int .i64 0, .int .i64 0, .int .i64 0, .int .i64 0, .int .i64 0, .int .i64 0, .int .i64 0, .int .i64 0, .int .i64 0, .int .i64 0, .int .i64 0, .int .i64 0, .int .i64 0, .int .i64 0, .int .i64 0, .int .i64 0, .int .i64 0, .int .i64 0, .int .i64 0, .int .i64 0, .int .i64 0, .int .i64 0, .int .i64 0, .int .i64 0, .int .i64 0, .int .i64 0, .int .i64 0, .int .i64 0, .int .i64 0, .int .i64 0, .int .i64 0, .int .i64 0, .int .i64 0, .int .i64 0, .int .i64 0, .int .i64 0, .int .i64 0, .int .i64 0, .int .i64 0, .int .i64 0, .int .i64 0, .int .i64 0, .int .i64 0, .int .i64 0] 62) = W0 := ⟨_, rfl⟩
  have G0 : w.grownBy W0 none := by rw [← hW0]; exact grown_alloc (World.grownBy_alloc _ _ _) _
  have b0 : W0.heap[w.heap.size]? = some (.cells (sq zs64) 62 (0, 0)) := by rw [← hW0, sq_z64, Below.heap_alloc _ _ _ (by simp)]; exact heap_alloc_new w _
  have b1 : W0.heap[w.heap.size + 1]? = some (.cells (sq zs64) 62 (0, 0)) := by
    rw [← hW0, sq_z64]
    have := heap_alloc_new (w.alloc (.cells #[.int .i64 0, .int .i64 0, .int .i64 0, .int .i64 0, .int .i64 0, .int .i64 0, .int .i64 0, .int .i64 0, .int .i64 0, .int .i64 0, .int .i64 0, .int .i64 0, .int .i64 0, .int .i64 0, .int .i64 0, .int .i64 0, .int .i64 0, .int .i64 0, .int .i64 0, .int .i64 0, .int .i64 0, .int .i64 0, .int .i64 0, .int .i64 0, .int .i64 0, .int .i64 0, .int .i64 0, .int .i64 0, .int .i64 0, .int .i64 0, .int .i64 0, .int .i64 0, .int .i64 0, .int .i64 0, .int .i64 0, .int .i64 0, .int .i64 0, .int .i64 0, .int .i64 0, .int .i64 0, .int .i64 0, .int .i64 0, .int .i64 0, .int .i64 0, .int .i64 0, .int .i64 0, .int .i64 0, .int .i64 0, .int .i64 0, .int .i64 0, .int .i64 0, .int .i64 0, .int .i64 0, .int .i64 0, .int .i64 0, .int .i64 0, .int .i64 0, .int .i64 0, .int .i64 0, .int .i64 0, .int .i64 0, .int .i64 0, .int .i64 0, .int .i64 0] 62)) (.cells #[.int .i64 0, .int .i64 0, .int .i64 0, .int .i64 0, .int .i64 0, .int .i64 0, .int .i64 0, .int .i64 0, .int .i64 0, .int .i64 0, .int .i64 0, .int .i64 0, .int .i64 0, .int .i64 0, .int .i64 0, .int .i64 0, .int .i64 0, .int .i64 0, .int .i64 0, .int .i64 0, .int .i64 0, .int .i64 0, .int .i64 0, .int .i64 0, .int .i64 0, .int .i64 0, .int .i64 0, .int .i64 0, .int .i64 0, .int .i64 0, .int .i64 0, .int .i64 0, .int .i64 0, .int .i64 0, .int .i64 0, .int .i64 0, .int .i64 0, .int .i64 0, .int .i64 0, .int .i64 0, .int .i64 0, .int .i64 0, .int .i64 0, .int .i64 0, .int .i64 0, .int .i64 0, .int .i64 0, .int .i64 0, .int .i64 0, .int .i64 0, .int .i64 0, .int .i64 0, .int .i64 0, .int .i64 0, .int .i64 0, .int .i64 0, .int .i64 0, .int .i64 0, .int .i64 0, .int .i64 0, .int .i64 0, .int .i64 0, .int .i64 0, .int .i64 0] 62)
    simpa using this
  have s0 : W0.heap.size = w.heap.size + 2 := by rw [← hW0]; simp
  have HW := hide hW0
  have B0 := hide b0
  have B1 := hide b1
  have HG0 := hide G0
  clear hW0 b0 b1 G0
  go_enter Try.func27, Try.ntmps27
  go_wp2_with (first | (refine load_mid rfl 62 _ rfl b off rfl (sq zs) (sq_rd ((unhide HR).grown (World.grownBy_alloc _ _ _))) _ Try.underlying62 rfl (by rw [unhide HSL]; kernel_rfl) ?_) | (rw [unhide HW]; clear HW; refine store_row rfl 62 _ _ rfl (w.heap.size + 1) rfl (sq zs) rfl (sq zs64) 62 (unhide B1) (by rw [unhide HSL, sq_size, zs64_len]) (by rw [unhide HSL]; kernel_rfl) (sq_one zs) ?_; intro w3 hB3 g3))
  have hG3 : w.grownBy w3 none := grown_new (unhide HG0) g3 (fun g e => by simp at e; omega)
  have hR3 := (g3.block w.heap.size (by omega) (by simp)).trans (unhide B0)
  have s3 := g3.size
  have HSQ := hide (eqSq (zs := zs) (ys := made f) (unhide HZ) (made_len f))
  refine wp_region_noPanic ?_
  refine wp_region_raw (fun w' => w'.heap[w.heap.size + 1]? = some (.cells (sq zs) 62 (0, 0))) [true, true, true, true, false, false, false, false] (by kernel_rfl) (fun _ _ _ _ _ h => h) rfl (by kernel_rfl) hB3 ?_
  iterate 3
    refine heldF_take (v := .agg (sq zs)) (Or.inl ⟨by rfl, ?_⟩) ?_
    · intro w' hSw
      exact exec_row 62 _ rfl (w.heap.size + 1) rfl (sq zs) 62 hSw _ Try.underlying62 rfl (by rw [unhide HSL]; kernel_rfl)
    simp only [Act.put, List.setIfInBounds_toArray, List.set_cons_zero, List.set_cons_succ]
  refine heldF_take (v := ?_) (Or.inl ⟨by rfl, ?_⟩) ?_
  rotate_left 1
  · intro w' hSw
    go_simp
    try with_reducible rfl
  simp only [Act.put, List.setIfInBounds_toArray, List.set_cons_zero, List.set_cons_succ]
  refine heldF_skip (heldF_skip (heldF_skip (heldF_skip (heldF_nil ?_))))
  refine anyH_step1 (i := 4) rfl (by kernel_rfl) (fun K hK => ?_)
  go_simp
  refine (each zs (unhide HZ) f g lb eg _ (fun k hk W hW => unhide HC k hk W (grown_trans (grown_drew hG3) hW))).mono ?_
  rintro e w4 ⟨rfl, g4⟩
  have hB4 := (g4.block (w.heap.size + 1) (by show w.heap.size + 1 < w3.heap.size; omega) (by simp)).trans hB3
  have hR4 := (g4.block w.heap.size (by show w.heap.size < w3.heap.size; omega) (by simp)).trans hR3
  have hG4 : w.grownBy w4 none := grown_trans (grown_drew hG3) g4
  refine hK.out _ _ hB4 ?_
  clear hK K
  try simp only [Act.put, List.setIfInBounds_toArray, List.set_cons_zero, List.set_cons_succ]
  refine anyH_step2 (i := 5) (j := 6) rfl rfl (by kernel_rfl) (fun K hK => ?_) (fun K hK => ?_)
  · have hsq := unhide HSQ
    go_simp
    refine hK.out _ _ hB4 ?_
    clear hK K hsq
    try simp only [Act.put, List.setIfInBounds_toArray, List.set_cons_zero, List.set_cons_succ]
    refine anyH_step1 (i := 6) rfl (by kernel_rfl) (fun K hK => ?_)
    refine step_store_row (by rfl) 62 _ _ rfl w.heap.size rfl (sq zs) rfl (sq zs64) 62 hR4 (by rw [unhide HSL, sq_size, zs64_len]) (by rw [unhide HSL]; kernel_rfl) (sq_one zs) ?_
    intro w5 hB5 g5
    have hB5' := (g5.block (w.heap.size + 1) (Array.getElem?_eq_some_iff.1 hB4).1 (by simp)).trans hB4
    refine hK.out _ _ hB5' ?_
    clear hK K
    try simp only [Act.put]
    refine anyH_step1 (i := 7) rfl (by kernel_rfl) (fun K hK => ?_)
    go_simp
    refine hK.out _ _ hB5' ?_
    clear hK K
    try simp only [Act.put, List.setIfInBounds_toArray, List.set_cons_zero, List.set_cons_succ]
    refine wpAnyH_done (by kernel_rfl) (NoPanic.normal ?_) _
    go_wp2
    refine bodyPost_ret (v := .tuple #[.agg (sq zs), .bool (zs == made f)]) ?_ rfl ⟨rfl, ?_⟩
    · exact results_c2 (p := 4) (q := 5) (ty := 62) rfl _ _ _ w.heap.size rfl _ (unhide HLD' _ _ hB5)
    · exact grown_new hG4 g5 (fun g e => by simp at e; omega)
  · refine step_store_row (by rfl) 62 _ _ rfl w.heap.size rfl (sq zs) rfl (sq zs64) 62 hR4 (by rw [unhide HSL, sq_size, zs64_len]) (by rw [unhide HSL]; kernel_rfl) (sq_one zs) ?_
    intro w5 hB5 g5
    have hB5' := (g5.block (w.heap.size + 1) (Array.getElem?_eq_some_iff.1 hB4).1 (by simp)).trans hB4
    refine hK.out _ _ hB5' ?_
    clear hK K
    try simp only [Act.put]
    refine anyH_step1 (i := 5) rfl (by kernel_rfl) (fun K hK => ?_)
    have hsq := unhide HSQ
    go_simp
    refine hK.out _ _ hB5' ?_
    clear hK K hsq
    try simp only [Act.put, List.setIfInBounds_toArray, List.set_cons_zero, List.set_cons_succ]
    refine anyH_step1 (i := 7) rfl (by kernel_rfl) (fun K hK => ?_)
    go_simp
    refine hK.out _ _ hB5' ?_
    clear hK K
    try simp only [Act.put, List.setIfInBounds_toArray, List.set_cons_zero, List.set_cons_succ]
    refine wpAnyH_done (by kernel_rfl) (NoPanic.normal ?_) _
    go_wp2
    refine bodyPost_ret (v := .tuple #[.agg (sq zs), .bool (zs == made f)]) ?_ rfl ⟨rfl, ?_⟩
    · exact results_c2 (p := 4) (q := 5) (ty := 62) rfl _ _ _ w.heap.size rfl _ (unhide HLD' _ _ hB5)
    · exact grown_new hG4 g5 (fun g e => by simp at e; omega)

/-- A block that is ok, a table that is ok. -/
def numsB (lo hi : Int) (zs : List Int) : Bool := decide (zs.length = 64) && zs.all (fun n => decide (lo ≤ n ∧ n ≤ hi))
theorem clip_same {lo hi : Int} (h : lo ≤ hi) (zs : List Int) (hz : zs.length = 64) : (zs == made (fun k => min (max (zs.getD k 0) lo) hi)) = numsB lo hi zs := by
  rw [Bool.eq_iff_iff]
  simp only [numsB, hz, decide_true, Bool.true_and, beq_iff_eq, List.all_eq_true, decide_eq_true_eq]
  constructor
  · intro e n hn
    obtain ⟨i, hi', rfl⟩ := List.getElem_of_mem hn
    have h1 : zs.getD i 0 = (made (fun k => min (max (zs.getD k 0) lo) hi)).getD i 0 := by rw [← e]
    rw [made_at _ i (by omega)] at h1
    have h2 : zs.getD i 0 = zs[i] := by simp [hi']
    rw [h2] at h1
    omega
  · intro hall
    apply List.ext_getElem?
    intro i
    by_cases hi' : i < zs.length
    · have h1 := hall zs[i] (List.getElem_mem hi')
      rw [List.getElem?_eq_getElem hi', List.getElem?_eq_getElem (by rw [made_len]; omega)]
      simp only [made, List.getElem_map, List.getElem_range, Option.some.injEq]
      have h2 : zs.getD i 0 = zs[i] := by simp [hi']
      rw [h2]
      omega
    · rw [List.getElem?_eq_none (by omega), List.getElem?_eq_none (by rw [made_len]; omega)]

set_option maxRecDepth 20000 in
set_option maxHeartbeats 400000 in
theorem fixTable (ao : Option Addr) (n cap : Nat) (zs : List Int) (w : World) (hr : Rd .i64 w ao n zs) (b : Bool) (hb : Hid (numsB 1 1023 zs = b)) :
    Calls Try.prog 21 #[.slice ao n cap] w fun e w' => (∃ ys, e = .returned (.tuple #[.agg (sq ys), .bool b]) ∧ ys.length = 64 ∧ (n = 64 → ys = zs)) ∧ w.grownBy w' none := by
  by_cases h : n = 64
  · subst h
    obtain ⟨bb, off, rfl, _⟩ := hr.2 0 (by omega)
    have e : (zs == made (fun k => min (max (zs.getD k 0) 1) 1023)) = b := by rw [clip_same (by omega) zs hr.1]; exact unhide hb
    have HZ := hide hr.1
    have HR := hide (hr.grown (World.grownBy_alloc w (.cells #[.int .i64 0, .int .i64 0, .int .i64 0, .int .i64 0, .int .i64 0, .int .i64 0, .int .i64 0, .int .i64 0, .int .i64 0, .int .i64 0, .int .i64 0, .int .i64 0, .int .i64 0, .int .i64 0, .int .i64 0, .int .i64 0, .int .i64 0, .int .i64 0, .int .i64 0, .int .i64 0, .int .i64 0, .int .i64 0, .int .i64 0, .int .i64 0, .int .i64 0, .int .i64 0, .int .i64 0, .int .i64 0, .int .i64 0, .int .i64 0, .int .i64 0, .int .i64 0, .int .i64 0, .int .i64 0, .int .i64 0, .int .i64 0, .int .i64 0, .int .i64 0, .int .i64 0, .int .i64 0, .int .i64 0, .int .i64 0, .int .i64 0, .int .i64 0, .int .i64 0, .int .i64 0, .int .i64 0, .int .i64 0, .int .i64 0, .int .i64 0, .int .i64 0, .int .i64 0, .int .i64 0, .int .i64 0, .int .i64 0, .int .i64 0, .int .i64 0, .int .i64 0, .int .i64 0, .int .i64 0, .int .i64 0, .int .i64 0, .int .i64 0, .int .i64 0] 62) none))
    clear hr
    go_enter Try.func21, Try.ntmps21
    go_wp2_with fail
    refine (fixSquare_yes bb off cap zs _ (unhide HR) (fun k => min (max (zs.getD k 0) 1) 1023) 28 #[] (enters_of Try.func28 (by kernel_rfl) rfl) (fun k hk W hW => (nearestStep (zs.getD k 0) W).mono ?_)).mono ?_
    · rintro e w' ⟨rfl, rfl⟩
      exact ⟨rfl, World.grownBy.refl _ _⟩
    · rintro e' w' ⟨rfl, g⟩
      rw [e]
      clear HR hb e
      have hB := (g.block w.heap.size (by simp) (by simp)).trans (heap_alloc_new w _)
      have HB := hide hB
      clear hB
      go_wp2_with (refine store_row rfl 62 _ _ rfl w.heap.size rfl (sq zs) rfl #[.int .i64 0, .int .i64 0, .int .i64 0, .int .i64 0, .int .i64 0, .int .i64 0, .int .i64 0, .int .i64 0, .int .i64 0, .int .i64 0, .int .i64 0, .int .i64 0, .int .i64 0, .int .i64 0, .int .i64 0, .int .i64 0, .int .i64 0, .int .i64 0, .int .i64 0, .int .i64 0, .int .i64 0, .int .i64 0, .int .i64 0, .int .i64 0, .int .i64 0, .int .i64 0, .int .i64 0, .int .i64 0, .int .i64 0, .int .i64 0, .int .i64 0, .int .i64 0, .int .i64 0, .int .i64 0, .int .i64 0, .int .i64 0, .int .i64 0, .int .i64 0, .int .i64 0, .int .i64 0, .int .i64 0, .int .i64 0, .int .i64 0, .int .i64 0, .int .i64 0, .int .i64 0, .int .i64 0, .int .i64 0, .int .i64 0, .int .i64 0, .int .i64 0, .int .i64 0, .int .i64 0, .int .i64 0, .int .i64 0, .int .i64 0, .int .i64 0, .int .i64 0, .int .i64 0, .int .i64 0, .int .i64 0, .int .i64 0, .int .i64 0, .int .i64 0] 62 (unhide HB) (by rw [sq_size, unhide HZ]; rfl) (by rw [sq_size, unhide HZ]; kernel_rfl) (sq_one _) ?_; intro w3 hB3 g3)
      refine bodyPost_ret (v := .tuple #[.agg (sq zs), .bool b]) ?_ rfl ⟨⟨_, rfl, (by first | exact unhide HZ | exact zs64_len), ?_⟩, ?_⟩
      · exact results_c2 (p := 2) (q := 3) (ty := 62) rfl _ _ _ w.heap.size rfl _ (run_loadVar_row w3 _ 62 62 _ (0, 0) _ hB3 Try.underlying62 rfl (by rw [sq_size, unhide HZ]; kernel_rfl))
      · intro hh; first | rfl | exact absurd hh h
      · exact grown_new (grown_new (World.grownBy_alloc _ _ _) g (fun g e => by simp at e)) g3 (fun g e => by simp at e; omega)
  · have hb' : b = false := by rw [← unhide hb]; simp [numsB, hr.1, h]
    subst hb'
    clear hr hb
    go_enter Try.func21, Try.ntmps21
    go_wp2_with fail
    refine (fixSquare_no ao n cap _ _ h).mono ?_
    rintro e' w' ⟨rfl, g⟩
    have hB := (g.block w.heap.size (by simp) (by simp)).trans (heap_alloc_new w _)
    have HB := hide hB
    clear hB
    go_wp2_with (refine store_row rfl 62 _ _ rfl w.heap.size rfl (sq zs64) rfl #[.int .i64 0, .int .i64 0, .int .i64 0, .int .i64 0, .int .i64 0, .int .i64 0, .int .i64 0, .int .i64 0, .int .i64 0, .int .i64 0, .int .i64 0, .int .i64 0, .int .i64 0, .int .i64 0, .int .i64 0, .int .i64 0, .int .i64 0, .int .i64 0, .int .i64 0, .int .i64 0, .int .i64 0, .int .i64 0, .int .i64 0, .int .i64 0, .int .i64 0, .int .i64 0, .int .i64 0, .int .i64 0, .int .i64 0, .int .i64 0, .int .i64 0, .int .i64 0, .int .i64 0, .int .i64 0, .int .i64 0, .int .i64 0, .int .i64 0, .int .i64 0, .int .i64 0, .int .i64 0, .int .i64 0, .int .i64 0, .int .i64 0, .int .i64 0, .int .i64 0, .int .i64 0, .int .i64 0, .int .i64 0, .int .i64 0, .int .i64 0, .int .i64 0, .int .i64 0, .int .i64 0, .int .i64 0, .int .i64 0, .int .i64 0, .int .i64 0, .int .i64 0, .int .i64 0, .int .i64 0, .int .i64 0, .int .i64 0, .int .i64 0, .int .i64 0] 62 (unhide HB) (by rw [sq_size, zs64_len]; rfl) (by rw [sq_size, zs64_len]; kernel_rfl) (sq_one _) ?_; intro w3 hB3 g3)
    refine bodyPost_ret (v := .tuple #[.agg (sq zs64), .bool false]) ?_ rfl ⟨⟨_, rfl, (by first | exact unhide HZ | exact zs64_len), ?_⟩, ?_⟩
    · exact results_c2 (p := 2) (q := 3) (ty := 62) rfl _ _ _ w.heap.size rfl _ (run_loadVar_row w3 _ 62 62 _ (0, 0) _ hB3 Try.underlying62 rfl (by rw [sq_size, zs64_len]; kernel_rfl))
    · intro hh; first | rfl | exact absurd hh h
    · exact grown_new (grown_new (World.grownBy_alloc _ _ _) g (fun g e => by simp at e)) g3 (fun g e => by simp at e; omega)

set_option maxRecDepth 20000 in
set_option maxHeartbeats 400000 in
theorem implTableOk (ao : Option Addr) (n cap : Nat) (zs : List Int) (w : World) (hr : Rd .i64 w ao n zs) (b : Bool) (hb : Hid (numsB 1 1023 zs = b)) :
    Calls Try.prog 11 #[.slice ao n cap] w fun e w' => e = .returned (.bool b) ∧ w.grownBy w' none := by
  have HR := hide hr
  clear hr
  go_enter Try.func11, Try.ntmps11
  go_wp2_with fail
  refine (fixTable ao n cap zs _ (unhide HR) b hb).mono ?_
  rintro e w1 ⟨⟨ys, rfl, hy, _⟩, g⟩
  have HY := hide hy
  clear hy
  go_wp2_with (refine store_row rfl 62 _ _ rfl w1.heap.size rfl (sq ys) rfl #[.int .i64 0, .int .i64 0, .int .i64 0, .int .i64 0, .int .i64 0, .int .i64 0, .int .i64 0, .int .i64 0, .int .i64 0, .int .i64 0, .int .i64 0, .int .i64 0, .int .i64 0, .int .i64 0, .int .i64 0, .int .i64 0, .int .i64 0, .int .i64 0, .int .i64 0, .int .i64 0, .int .i64 0, .int .i64 0, .int .i64 0, .int .i64 0, .int .i64 0, .int .i64 0, .int .i64 0, .int .i64 0, .int .i64 0, .int .i64 0, .int .i64 0, .int .i64 0, .int .i64 0, .int .i64 0, .int .i64 0, .int .i64 0, .int .i64 0, .int .i64 0, .int .i64 0, .int .i64 0, .int .i64 0, .int .i64 0, .int .i64 0, .int .i64 0, .int .i64 0, .int .i64 0, .int .i64 0, .int .i64 0, .int .i64 0, .int .i64 0, .int .i64 0, .int .i64 0, .int .i64 0, .int .i64 0, .int .i64 0, .int .i64 0, .int .i64 0, .int .i64 0, .int .i64 0, .int .i64 0, .int .i64 0, .int .i64 0, .int .i64 0, .int .i64 0] 62 (heap_alloc_new _ _) (by rw [sq_size, unhide HY]; rfl) (by rw [sq_size, unhide HY]; kernel_rfl) (sq_one _) ?_; intro w3 hB3 g3)
  go_ret
  exact ⟨rfl, grown_new (grown_alloc g _) g3 (fun g' e => by simp at e; have := g.size; omega)⟩

end Go.Proofs.Ytdhgfbdanijgaaa

namespace Go.Proofs.Ytdhgfbdanijgaaa
open Go.RowKit

def levB (lo hi : Int) (zs : List Int) : Bool := decide (zs.length = 64) && zs.all (fun n => decide (lo ≤ n ∧ n ≤ hi))

theorem lev_all {lo hi : Int} {zs : List Int} (hz : zs.length = 64) (h : ∀ j, j < 64 → lo ≤ zs.getD j 0 ∧ zs.getD j 0 ≤ hi) : levB lo hi zs = true := by
  simp only [levB, hz, decide_true, Bool.true_and, List.all_eq_true, decide_eq_true_eq]
  intro n hn
  obtain ⟨i, hi', rfl⟩ := List.getElem_of_mem hn
  have h2 : zs.getD i 0 = zs[i] := by simp [hi']
  rw [← h2]
  exact h i (by omega)
theorem lev_at {lo hi : Int} {zs : List Int} (h : levB lo hi zs = true) : zs.length = 64 ∧ ∀ j, j < 64 → lo ≤ zs.getD j 0 ∧ zs.getD j 0 ≤ hi := by
  simp only [levB, Bool.and_eq_true, decide_eq_true_eq, List.all_eq_true] at h
  refine ⟨h.1, fun j hj => ?_⟩
  have hj' : j < zs.length := by omega
  have h2 : zs.getD j 0 = zs[j] := by simp [hj']
  rw [h2]
  exact h.2 _ (List.getElem_mem hj')

end Go.Proofs.Ytdhgfbdanijgaaa

namespace Go.Proofs.Ytdhgfbdanijgaaa
open Go.RowKit Go.Shelf

theorem nearestLevel (n : Int) (w : World) :
    Calls Try.prog 45 #[.int .i64 n] w fun e w' => e = .returned (.int .i64 (min (max n (-16383)) 16383)) ∧ w = w' := by
  go_enter Try.func45, Try.ntmps45
  go_wp2
  all_goals
    go_ret
    refine ⟨ret_int ?_, rfl⟩
    first | omega | (split at * <;> omega)

set_option maxRecDepth 20000 in
set_option maxHeartbeats 400000 in
theorem fixLevels (ao : Option Addr) (n cap : Nat) (zs : List Int) (w : World) (hr : Rd .i64 w ao n zs) (b : Bool) (hb : Hid (levB (-16383) 16383 zs = b)) :
    Calls Try.prog 35 #[.slice ao n cap] w fun e w' => (∃ ys, e = .returned (.tuple #[.agg (sq ys), .bool b]) ∧ ys.length = 64 ∧ (n = 64 → ys = zs)) ∧ w.grownBy w' none := by
  by_cases h : n = 64
  · subst h
    obtain ⟨bb, off, rfl, _⟩ := hr.2 0 (by omega)
    have e : (zs == made (fun k => min (max (zs.getD k 0) (-16383)) 16383)) = b := by rw [clip_same (by omega) zs hr.1]; exact unhide hb
    have HZ := hide hr.1
    have HR := hide (hr.grown (World.grownBy_alloc w (.cells #[.int .i64 0, .int .i64 0, .int .i64 0, .int .i64 0, .int .i64 0, .int .i64 0, .int .i64 0, .int .i64 0, .int .i64 0, .int .i64 0, .int .i64 0, .int .i64 0, .int .i64 0, .int .i64 0, .int .i64 0, .int .i64 0, .int .i64 0, .int .i64 0, .int .i64 0, .int .i64 0, .int .i64 0, .int .i64 0, .int .i64 0, .int .i64 0, .int .i64 0, .int .i64 0, .int .i64 0, .int .i64 0, .int .i64 0, .int .i64 0, .int .i64 0, .int .i64 0, .int .i64 0, .int .i64 0, .int .i64 0, .int .i64 0, .int .i64 0, .int .i64 0, .int .i64 0, .int .i64 0, .int .i64 0, .int .i64 0, .int .i64 0, .int .i64 0, .int .i64 0, .int .i64 0, .int .i64 0, .int .i64 0, .int .i64 0, .int .i64 0, .int .i64 0, .int .i64 0, .int .i64 0, .int .i64 0, .int .i64 0, .int .i64 0, .int .i64 0, .int .i64 0, .int .i64 0, .int .i64 0, .int .i64 0, .int .i64 0, .int .i64 0, .int .i64 0] 62) none))
    clear hr
    go_enter Try.func35, Try.ntmps35
    go_wp2_with fail
    refine (fixSquare_yes bb off cap zs _ (unhide HR) (fun k => min (max (zs.getD k 0) (-16383)) 16383) 45 #[] (enters_of Try.func45 (by kernel_rfl) rfl) (fun k hk W hW => (nearestLevel (zs.getD k 0) W).mono ?_)).mono ?_
    · rintro e w' ⟨rfl, rfl⟩
      exact ⟨rfl, World.grownBy.refl _ _⟩
    · rintro e' w' ⟨rfl, g⟩
      rw [e]
      clear HR hb e
      have hB := (g.block w.heap.size (by simp) (by simp)).trans (heap_alloc_new w _)
      have HB := hide hB
      clear hB
      go_wp2_with (refine store_row rfl 62 _ _ rfl w.heap.size rfl (sq zs) rfl #[.int .i64 0, .int .i64 0, .int .i64 0, .int .i64 0, .int .i64 0, .int .i64 0, .int .i64 0, .int .i64 0, .int .i64 0, .int .i64 0, .int .i64 0, .int .i64 0, .int .i64 0, .int .i64 0, .int .i64 0, .int .i64 0, .int .i64 0, .int .i64 0, .int .i64 0, .int .i64 0, .int .i64 0, .int .i64 0, .int .i64 0, .int .i64 0, .int .i64 0, .int .i64 0, .int .i64 0, .int .i64 0, .int .i64 0, .int .i64 0, .int .i64 0, .int .i64 0, .int .i64 0, .int .i64 0, .int .i64 0, .int .i64 0, .int .i64 0, .int .i64 0, .int .i64 0, .int .i64 0, .int .i64 0, .int .i64 0, .int .i64 0, .int .i64 0, .int .i64 0, .int .i64 0, .int .i64 0, .int .i64 0, .int .i64 0, .int .i64 0, .int .i64 0, .int .i64 0, .int .i64 0, .int .i64 0, .int .i64 0, .int .i64 0, .int .i64 0, .int .i64 0, .int .i64 0, .int .i64 0, .int .i64 0, .int .i64 0, .int .i64 0, .int .i64 0] 62 (unhide HB) (by rw [sq_size, unhide HZ]; rfl) (by rw [sq_size, unhide HZ]; kernel_rfl) (sq_one _) ?_; intro w3 hB3 g3)
      refine bodyPost_ret (v := .tuple #[.agg (sq zs), .bool b]) ?_ rfl ⟨⟨_, rfl, (by first | exact unhide HZ | exact zs64_len), ?_⟩, ?_⟩
      · exact results_c2 (p := 2) (q := 3) (ty := 62) rfl _ _ _ w.heap.size rfl _ (run_loadVar_row w3 _ 62 62 _ (0, 0) _ hB3 Try.underlying62 rfl (by rw [sq_size, unhide HZ]; kernel_rfl))
      · intro hh; first | rfl | exact absurd hh h
      · exact grown_new (grown_new (World.grownBy_alloc _ _ _) g (fun g e => by simp at e)) g3 (fun g e => by simp at e; omega)
  · have hb' : b = false := by rw [← unhide hb]; simp [levB, hr.1, h]
    subst hb'
    clear hr hb
    go_enter Try.func35, Try.ntmps35
    go_wp2_with fail
    refine (fixSquare_no ao n cap _ _ h).mono ?_
    rintro e' w' ⟨rfl, g⟩
    have hB := (g.block w.heap.size (by simp) (by simp)).trans (heap_alloc_new w _)
    have HB := hide hB
    clear hB
    go_wp2_with (refine store_row rfl 62 _ _ rfl w.heap.size rfl (sq zs64) rfl #[.int .i64 0, .int .i64 0, .int .i64 0, .int .i64 0, .int .i64 0, .int .i64 0, .int .i64 0, .int .i64 0, .int .i64 0, .int .i64 0, .int .i64 0, .int .i64 0, .int .i64 0, .int .i64 0, .int .i64 0, .int .i64 0, .int .i64 0, .int .i64 0, .int .i64 0, .int .i64 0, .int .i64 0, .int .i64 0, .int .i64 0, .int .i64 0, .int .i64 0, .int .i64 0, .int .i64 0, .int .i64 0, .int .i64 0, .int .i64 0, .int .i64 0, .int .i64 0, .int .i64 0, .int .i64 0, .int .i64 0, .int .i64 0, .int .i64 0, .int .i64 0, .int .i64 0, .int .i64 0, .int .i64 0, .int .i64 0, .int .i64 0, .int .i64 0, .int .i64 0, .int .i64 0, .int .i64 0, .int .i64 0, .int .i64 0, .int .i64 0, .int .i64 0, .int .i64 0, .int .i64 0, .int .i64 0, .int .i64 0, .int .i64 0, .int .i64 0, .int .i64 0, .int .i64 0, .int .i64 0, .int .i64 0, .int .i64 0, .int .i64 0, .int .i64 0] 62 (unhide HB) (by rw [sq_size, zs64_len]; rfl) (by rw [sq_size, zs64_len]; kernel_rfl) (sq_one _) ?_; intro w3 hB3 g3)
    refine bodyPost_ret (v := .tuple #[.agg (sq zs64), .bool false]) ?_ rfl ⟨⟨_, rfl, (by first | exact unhide HZ | exact zs64_len), ?_⟩, ?_⟩
    · exact results_c2 (p := 2) (q := 3) (ty := 62) rfl _ _ _ w.heap.size rfl _ (run_loadVar_row w3 _ 62 62 _ (0, 0) _ hB3 Try.underlying62 rfl (by rw [sq_size, zs64_len]; kernel_rfl))
    · intro hh; first | rfl | exact absurd hh h
    · exact grown_new (grown_new (World.grownBy_alloc _ _ _) g (fun g e => by simp at e)) g3 (fun g e => by simp at e; omega)

end Go.Proofs.Ytdhgfbdanijgaaa

namespace Go.Proofs.Ytdhgfbdanijgaaa
open Go.RowKit

theorem grown_atT {a b : World} {g : Nat} {o : Obj} {row : Option Nat} (h : a.grownBy b row) (hg : a.heap[g]? = some o) (hne : row ≠ some g) : b.heap[g]? = some o :=
  (h.block g (Array.getElem?_eq_some_iff.1 hg).1 (fun e => hne e.symm)).trans hg

/-- What may be another one: the blocks of a list, and new ones. -/
structure Wr (F : List Nat) (w w' : World) : Prop where
  os : w'.os = w.os
  tape : w'.tape = w.tape
  output : w'.output = w.output
  size : w.heap.size ≤ w'.heap.size
  block : ∀ k, k < w.heap.size → k ∉ F → w'.heap[k]? = w.heap[k]?
theorem Wr.refl (F : List Nat) (w : World) : Wr F w w := ⟨rfl, rfl, rfl, Nat.le_refl _, fun _ _ _ => rfl⟩
theorem Wr.trans {F : List Nat} {a b c : World} (h : Wr F a b) (g : Wr F b c) : Wr F a c :=
  ⟨g.os.trans h.os, g.tape.trans h.tape, g.output.trans h.output, Nat.le_trans h.size g.size, fun k hk hn => (g.block k (Nat.lt_of_lt_of_le hk h.size) hn).trans (h.block k hk hn)⟩
theorem Wr.mono {F G : List Nat} {a b : World} (h : Wr F a b) (hs : ∀ x ∈ F, x ∈ G) : Wr G a b := ⟨h.os, h.tape, h.output, h.size, fun k hk hn => h.block k hk (fun e => hn (hs k e))⟩
theorem Wr.ofNone {F : List Nat} {a b : World} (h : a.grownBy b none) : Wr F a b := ⟨h.os, h.tape, h.output, h.size, fun k hk _ => h.block k hk (by simp)⟩
theorem Wr.ofRow {F : List Nat} {a b : World} {row : Option Nat} (h : a.grownBy b row) (hr : ∀ g, row = some g → g ∈ F) : Wr F a b :=
  ⟨h.os, h.tape, h.output, h.size, fun k hk hn => h.block k hk (fun e => hn (hr k e.symm))⟩
theorem Wr.toNone {a b : World} (h : Wr [] a b) : a.grownBy b none := ⟨h.os, h.tape, h.output, h.size, fun k hk _ => h.block k hk (by simp)⟩
/-- Seen from a world in which the blocks were not yet. -/
theorem Wr.new {F : List Nat} {B a b : World} (hB : B.grownBy a none) (h : Wr F a b) (hF : ∀ g ∈ F, B.heap.size ≤ g) : B.grownBy b none :=
  ⟨h.os.trans hB.os, h.tape.trans hB.tape, h.output.trans hB.output, Nat.le_trans hB.size h.size, fun k hk _ => (h.block k (Nat.lt_of_lt_of_le hk hB.size) (fun e => by have := hF k e; omega)).trans (hB.block k hk (by simp))⟩

/-- What is read of a row of numbers, and of a row of rows. -/
def RdI (k : IntKind) (w : World) (u : Value) (xs : List Int) : Prop := ∃ ao cap, u = .slice ao xs.length cap ∧ Rd k w ao xs.length xs
def RdR {α : Type} (P : World → Value → α → Prop) (w : World) (v : Value) (L : List α) : Prop :=
  ∃ ao cap, v = .slice ao L.length cap ∧ ∀ i (h : i < L.length), ∃ b off u, ao = some ⟨b, off, none⟩ ∧ w.cell? ⟨b, off + i, none⟩ = some u ∧ P w u L[i]
def StR {α : Type} (P : World → Value → α → Prop) : Prop := ∀ w w' u a, P w u a → w.grownBy w' none → P w' u a
theorem RdI.st (k : IntKind) : StR (RdI k) := fun _ _ _ _ ⟨ao, cap, e, h⟩ g => ⟨ao, cap, e, h.grown g⟩
theorem RdR.st {α : Type} {P : World → Value → α → Prop} (hP : StR P) : StR (RdR P) := fun _ _ _ _ ⟨ao, cap, e, h⟩ g =>
  ⟨ao, cap, e, fun i hi => by obtain ⟨b, off, u, e1, h1, h2⟩ := h i hi; exact ⟨b, off, u, e1, g.cell h1 (by simp), hP _ _ _ _ h2 g⟩⟩

/-- Who owns a row of numbers, and a row of rows: the blocks that they lie in. -/
def blk (v : Value) : List Nat := v.ownBlock.toList
theorem mem_blk {v : Value} {g : Nat} : g ∈ blk v ↔ v.ownBlock = some g := by unfold blk; simp
def OwI (k : IntKind) (e : TypeId) (w : World) (u : Value) (xs : List Int) (F : List Nat) : Prop := w.ownsRow 0 e 1 u xs.length (xs.map (Value.int k)) ∧ F = blk u
def OwR {α : Type} (e : TypeId) (P : World → Value → α → List Nat → Prop) (w : World) (v : Value) (L : List α) (F : List Nat) : Prop :=
  ∃ (us : List Value) (Fs : List (List Nat)), us.length = L.length ∧ Fs.length = L.length ∧ w.ownsRow 0 e 1 v L.length us ∧ (∀ i (h : i < L.length), P w (us.getD i (.slice none 0 0)) L[i] (Fs.getD i [])) ∧ F = blk v ++ Fs.flatten
structure OwOk {α : Type} (P : World → Value → α → List Nat → Prop) : Prop where
  same : ∀ w w' u a F, P w u a F → (∀ g ∈ F, w'.heap[g]? = w.heap[g]?) → P w' u a F
  lt : ∀ w u a F, P w u a F → ∀ g ∈ F, g < w.heap.size
  form : ∀ w u a F, P w u a F → ∃ ao n cap, u = .slice ao n cap
theorem OwOk.wr {α : Type} {P : World → Value → α → List Nat → Prop} (hP : OwOk P) {w w' : World} {u : Value} {a : α} {F G : List Nat} (h : P w u a F) (g : Wr G w w') (hd : ∀ x ∈ F, x ∉ G) : P w' u a F :=
  hP.same w w' u a F h (fun x hx => g.block x (hP.lt w u a F h x hx) (hd x hx))
theorem OwOk.keep {α : Type} {P : World → Value → α → List Nat → Prop} (hP : OwOk P) {w w' : World} {u : Value} {a : α} {F : List Nat} (h : P w u a F) (g : w.grownBy w' none) : P w' u a F :=
  hP.wr h (Wr.ofNone (F := []) g) (fun x _ => by simp)

theorem OwI.ok (k : IntKind) (e : TypeId) : OwOk (OwI k e) :=
  ⟨fun w w' u a F h hs => ⟨own_sameAt h.1 (fun g hg => hs g (by rw [h.2]; exact mem_blk.2 hg)), h.2⟩,
   fun w u a F h g hg => (h.1.lt g (mem_blk.1 (by rw [← h.2]; exact hg))).2,
   fun w u a F h => by obtain ⟨ao, cap, rfl⟩ := own_form h.1; exact ⟨_, _, _, rfl⟩⟩
theorem OwI.rd {k : IntKind} {e : TypeId} {w : World} {u : Value} {xs : List Int} {F : List Nat} (h : OwI k e w u xs F) : RdI k w u xs := by
  obtain ⟨ao, cap, rfl⟩ := own_form h.1
  exact ⟨ao, cap, rfl, own_rd h.1⟩
theorem OwI.nodup {k : IntKind} {e : TypeId} {w : World} {u : Value} {xs : List Int} {F : List Nat} (h : OwI k e w u xs F) : F.Nodup := by
  rw [h.2]; unfold blk; cases u.ownBlock <;> simp
theorem OwI.of {k : IntKind} {e : TypeId} {w : World} {u : Value} {xs : List Int} {base : Nat} (h : w.ownsRow base e 1 u xs.length (xs.map (Value.int k))) : OwI k e w u xs (blk u) := ⟨own_base h (Nat.zero_le _), rfl⟩
theorem OwI.nil (k : IntKind) (e : TypeId) (w : World) : OwI k e w (.slice none 0 0) [] [] := ⟨⟨rfl, .inl ⟨rfl, rfl⟩⟩, rfl⟩

section
variable {α : Type} {e : TypeId} {P : World → Value → α → List Nat → Prop} {w : World} {v : Value} {L : List α} {F : List Nat}
theorem flat_in {Fs : List (List Nat)} {i : Nat} (h : i < Fs.length) : ∀ x ∈ Fs.getD i [], x ∈ Fs.flatten := fun x hx =>
  List.mem_flatten.2 ⟨Fs[i], List.getElem_mem h, by simpa [h] using hx⟩
theorem flat_apart {Fs : List (List Nat)} (h : Fs.flatten.Nodup) {i j : Nat} (hi : i < Fs.length) (hj : j < Fs.length) (hne : i ≠ j) : ∀ x ∈ Fs.getD i [], x ∉ Fs.getD j [] := by
  intro x hx hy
  have hp := (List.pairwise_flatten.1 h).2
  rw [List.pairwise_iff_getElem] at hp
  have hx' : x ∈ Fs[i] := by simpa [hi] using hx
  have hy' : x ∈ Fs[j] := by simpa [hj] using hy
  rcases Nat.lt_or_gt_of_ne hne with hlt | hlt
  · exact hp i j hi hj hlt x hx' x hy' rfl
  · exact hp j i hj hi hlt x hy' x hx' rfl
theorem OwR.ok (hP : OwOk P) : OwOk (OwR e P) := by
  refine ⟨?_, ?_, ?_⟩
  · rintro w w' u a F ⟨us, Fs, h1, h2, h3, h4, rfl⟩ hs
    refine ⟨us, Fs, h1, h2, own_sameAt h3 (fun g hg => hs g (by simp [mem_blk.2 hg])), fun i hi => ?_, rfl⟩
    exact hP.same w w' _ _ _ (h4 i hi) (fun g hg => hs g (by have := flat_in (by omega) g hg; simp [this]))
  · rintro w u a F ⟨us, Fs, h1, h2, h3, h4, rfl⟩ g hg
    rcases List.mem_append.1 hg with hg | hg
    · exact (h3.lt g (mem_blk.1 hg)).2
    · obtain ⟨l, hl, hgl⟩ := List.mem_flatten.1 hg
      obtain ⟨i, hi, rfl⟩ := List.mem_iff_getElem.1 hl
      exact hP.lt w _ _ _ (h4 i (by omega)) g (by simpa [hi] using hgl)
  · rintro w u a F ⟨us, Fs, h1, h2, h3, h4, rfl⟩
    obtain ⟨ao, cap, rfl⟩ := own_form h3
    exact ⟨_, _, _, rfl⟩
theorem OwR.form (h : OwR e P w v L F) : ∃ ao cap, v = .slice ao L.length cap := by
  obtain ⟨us, Fs, _, _, h3, _⟩ := h
  exact own_form h3
theorem OwR.rd {Q : World → Value → α → Prop} (hPQ : ∀ w u a F, P w u a F → Q w u a) (h : OwR e P w v L F) : RdR Q w v L := by
  obtain ⟨us, Fs, h1, h2, h3, h4, rfl⟩ := h
  obtain ⟨ao, cap, rfl⟩ := own_form h3
  refine ⟨ao, cap, rfl, fun i hi => ?_⟩
  obtain ⟨g, rfl, _, _⟩ := own_at h3 (by omega)
  refine ⟨g, 0, us.getD i (.slice none 0 0), rfl, ?_, hPQ _ _ _ _ (h4 i hi)⟩
  rw [Nat.zero_add, h3.cellAt i (by omega)]
  simp [show i < us.length by omega]
theorem OwR.nil (e : TypeId) (P : World → Value → α → List Nat → Prop) (w : World) : OwR e P w (.slice none 0 0) [] [] := ⟨[], [], rfl, rfl, ⟨rfl, .inl ⟨rfl, rfl⟩⟩, fun i hi => absurd hi (by simp), rfl⟩
/-- An element of a row that is owned, and what becomes of the row when the element becomes another one. -/
theorem OwR.at (hP : OwOk P) (h : OwR e P w v L F) (hF : F.Nodup) (i : Nat) (hi : i < L.length) : ∃ g cap u Fi, v = .slice (some ⟨g, 0, none⟩) L.length cap ∧ g ∈ F ∧ w.cell? ⟨g, i, none⟩ = some u ∧ P w u L[i] Fi ∧ Fi.Nodup ∧ g ∉ Fi ∧ (∀ x ∈ Fi, x ∈ F) ∧
    ∀ w' a', Wr Fi w w' → P w' u a' Fi → OwR e P w' v (L.set i a') F := by
  obtain ⟨us, Fs, h1, h2, h3, h4, rfl⟩ := h
  obtain ⟨ao, cap, rfl⟩ := own_form h3
  obtain ⟨g, rfl, _, _⟩ := own_at h3 (by omega)
  have hn := List.nodup_append.1 hF
  have hgb : g ∈ blk (Value.slice (some ⟨g, 0, none⟩) L.length cap) := mem_blk.2 rfl
  have hgi : ∀ j, j < L.length → g ∉ Fs.getD j [] := fun j hj hx => hn.2.2 g hgb g (flat_in (by omega) g hx) rfl
  refine ⟨g, cap, us.getD i (.slice none 0 0), Fs.getD i [], rfl, by simp [hgb], ?_, h4 i hi, ?_, hgi i hi, fun x hx => by simp [flat_in (show i < Fs.length by omega) x hx], fun w' a' hw hp => ?_⟩
  · rw [h3.cellAt i (by omega)]
    simp [show i < us.length by omega]
  · have := (List.pairwise_flatten.1 hn.2.1).1 (Fs.getD i []) (by rw [List.getD_eq_getElem?_getD, List.getElem?_eq_getElem (by omega)]; simp)
    exact this
  · refine ⟨us, Fs, by simp [h1], by simp [h2], ?_, fun j hj => ?_, rfl⟩
    · rw [List.length_set]
      exact own_sameAt h3 (fun x hx => hw.block x (h3.lt x hx).2 (by have e9 : g = x := Option.some.inj hx; subst e9; exact hgi i hi))
    · rw [List.length_set] at hj
      by_cases e9 : i = j
      · subst e9; simp; exact hp
      · rw [List.getElem_set_ne e9]
        exact hP.wr (h4 j hj) hw (flat_apart hn.2.1 (by omega) (by omega) (fun e => e9 e.symm))
/-- An element of a row that is owned, and what becomes of the row when the element becomes another one, in other blocks. -/
theorem OwR.turn (hP : OwOk P) (h : OwR e P w v L F) (hF : F.Nodup) (i : Nat) (hi : i < L.length) : ∃ g cap u Fi, v = .slice (some ⟨g, 0, none⟩) L.length cap ∧ w.cell? ⟨g, i, none⟩ = some u ∧ P w u L[i] Fi ∧ Fi.Nodup ∧ (∀ x ∈ Fi, x ∈ F) ∧
    ∀ w' a' Fi', Wr Fi w w' → P w' u a' Fi' → Fi'.Nodup → (∀ x ∈ Fi', x ∈ Fi ∨ x ∉ F) → ∃ F', OwR e P w' v (L.set i a') F' ∧ F'.Nodup ∧ ∀ x ∈ F', x ∈ F ∨ x ∈ Fi' := by
  obtain ⟨us, Fs, h1, h2, h3, h4, rfl⟩ := h
  obtain ⟨ao, cap, rfl⟩ := own_form h3
  obtain ⟨g, rfl, _, _⟩ := own_at h3 (by omega)
  have hn := List.nodup_append.1 hF
  have hgb : g ∈ blk (Value.slice (some ⟨g, 0, none⟩) L.length cap) := mem_blk.2 rfl
  have hgi : ∀ j, j < L.length → g ∉ Fs.getD j [] := fun j hj hx => hn.2.2 g hgb g (flat_in (by omega) g hx) rfl
  refine ⟨g, cap, us.getD i (.slice none 0 0), Fs.getD i [], rfl, ?_, h4 i hi, ?_, fun x hx => by simp [flat_in (show i < Fs.length by omega) x hx], fun w' a' Fi' hw hp hn' hd => ?_⟩
  · rw [h3.cellAt i (by omega)]
    simp [show i < us.length by omega]
  · have := (List.pairwise_flatten.1 hn.2.1).1 (Fs.getD i []) (by rw [List.getD_eq_getElem?_getD, List.getElem?_eq_getElem (by omega)]; simp)
    exact this
  · have hmem : ∀ x, x ∈ (Fs.set i Fi').flatten → x ∈ Fs.flatten ∨ x ∈ Fi' := by
      intro x hx
      obtain ⟨l, hl, hxl⟩ := List.mem_flatten.1 hx
      rcases List.mem_or_eq_of_mem_set hl with hl | rfl
      · exact .inl (List.mem_flatten.2 ⟨l, hl, hxl⟩)
      · exact .inr hxl
    have hdj : ∀ j, j < Fs.length → j ≠ i → ∀ x ∈ Fi', x ∉ Fs.getD j [] := fun j hj hji x hx hx2 => by
      rcases hd x hx with h5 | h5
      · exact flat_apart hn.2.1 (by omega) hj (fun e => hji e.symm) x h5 hx2
      · exact h5 (by simp [flat_in hj x hx2])
    have hgF : g ∉ Fi' := fun hx => by
      rcases hd g hx with h5 | h5
      · exact hgi i hi h5
      · exact h5 (by simp [hgb])
    refine ⟨blk (.slice (some ⟨g, 0, none⟩) L.length cap) ++ (Fs.set i Fi').flatten, ⟨us, Fs.set i Fi', by simp [h1], by simp [h2], ?_, fun j hj => ?_, rfl⟩, ?_, ?_⟩
    · rw [List.length_set]
      exact own_sameAt h3 (fun x hx => hw.block x (h3.lt x hx).2 (by have e9 : g = x := Option.some.inj hx; subst e9; exact hgi i hi))
    · rw [List.length_set] at hj
      by_cases e9 : i = j
      · subst e9
        have ef : (Fs.set i Fi').getD i [] = Fi' := by simp [show i < Fs.length by omega]
        rw [ef]
        simp only [List.getElem_set_self]
        exact hp
      · have ef : (Fs.set i Fi').getD j [] = Fs.getD j [] := by simp [e9]
        rw [ef, List.getElem_set_ne e9]
        exact hP.wr (h4 j hj) hw (flat_apart hn.2.1 (by omega) (by omega) (fun e => e9 e.symm))
    · refine List.nodup_append.2 ⟨hn.1, ?_, fun a ha b hb => ?_⟩
      · refine List.pairwise_flatten.2 ⟨fun l hl => ?_, ?_⟩
        · rcases List.mem_or_eq_of_mem_set hl with hl | rfl
          · exact (List.pairwise_flatten.1 hn.2.1).1 l hl
          · exact hn'
        · rw [List.pairwise_iff_getElem]
          intro p q hp1 hq1 hpq x hx y hy
          rw [List.length_set] at hp1 hq1
          rintro rfl
          have hin : ∀ r (hr : r < Fs.length), x ∈ (Fs.set i Fi')[r]'(by simpa using hr) → (r = i ∧ x ∈ Fi') ∨ (r ≠ i ∧ x ∈ Fs.getD r []) := by
            intro r hr hxr
            by_cases e9 : i = r
            · subst e9; simp at hxr; exact .inl ⟨rfl, hxr⟩
            · rw [List.getElem_set_ne e9] at hxr
              exact .inr ⟨fun e => e9 e.symm, by simpa [hr] using hxr⟩
          rcases hin p hp1 hx with ⟨e1, x1⟩ | ⟨e1, x1⟩ <;> rcases hin q hq1 hy with ⟨e2, x2⟩ | ⟨e2, x2⟩
          · omega
          · exact hdj q hq1 e2 x x1 x2
          · exact hdj p hp1 e1 x x2 x1
          · exact flat_apart hn.2.1 hp1 hq1 (by omega) x x1 x2
      · rintro rfl
        rcases hmem a hb with h5 | h5
        · exact hn.2.2 a ha a h5 rfl
        · have e9 : g = a := Option.some.inj (mem_blk.1 ha)
          subst e9
          exact hgF h5
    · intro x hx
      rcases List.mem_append.1 hx with hx | hx
      · exact .inl (by simp [hx])
      · rcases hmem x hx with h5 | h5
        · exact .inl (by simp [h5])
        · exact .inr h5
theorem OwR.slot (h : OwR e P w v L F) (i : Nat) (hi : i < L.length) : ∃ g cap u, v = .slice (some ⟨g, 0, none⟩) L.length cap ∧ w.cell? ⟨g, i, none⟩ = some u ∧ w.frozen? ⟨g, i, none⟩ = false := by
  obtain ⟨us, Fs, h1, h2, h3, h4, rfl⟩ := h
  obtain ⟨ao, cap, rfl⟩ := own_form h3
  obtain ⟨g, rfl, _, _⟩ := own_at h3 (by omega)
  refine ⟨g, cap, us.getD i (.slice none 0 0), rfl, ?_, h3.frozenAt i⟩
  rw [h3.cellAt i (by omega)]
  simp [show i < us.length by omega]
/-- An element of a row that is owned is another value. -/
theorem OwR.put (hP : OwOk P) (h : OwR e P w v L F) (hF : F.Nodup) (i : Nat) (hi : i < L.length) {g : Nat} (hg : v.ownBlock = some g) {u' : Value} {a' : α} {Fi' : List Nat} (hp : P w u' a' Fi') (hn' : Fi'.Nodup) (hd : ∀ x ∈ Fi', x ∉ F) :
    ∃ F', OwR e P (w.setCell ⟨g, i, none⟩ u') v (L.set i a') F' ∧ F'.Nodup ∧ ∀ x ∈ F', x ∈ F ∨ x ∈ Fi' := by
  obtain ⟨us, Fs, h1, h2, h3, h4, rfl⟩ := h
  obtain ⟨ao, cap, rfl⟩ := own_form h3
  obtain ⟨g0, rfl, _, _⟩ := own_at h3 (by omega)
  obtain rfl : g0 = g := Option.some.inj hg
  have hn := List.nodup_append.1 hF
  have hgb : g0 ∈ blk (Value.slice (some ⟨g0, 0, none⟩) L.length cap) := mem_blk.2 rfl
  have hgi : ∀ j, j < L.length → g0 ∉ Fs.getD j [] := fun j hj hx => hn.2.2 g0 hgb g0 (flat_in (by omega) g0 hx) rfl
  have s1 := h3.stored i u'
  have hgF : g0 ∉ Fi' := fun hx => hd g0 hx (by simp [hgb])
  have hw : Wr [g0] w (w.setCell ⟨g0, i, none⟩ u') := Wr.ofRow (grown_set w g0 i u') (fun x hx => by have := Option.some.inj hx; simp [this])
  have hmem : ∀ x, x ∈ (Fs.set i Fi').flatten → x ∈ Fs.flatten ∨ x ∈ Fi' := by
    intro x hx
    obtain ⟨l, hl, hxl⟩ := List.mem_flatten.1 hx
    rcases List.mem_or_eq_of_mem_set hl with hl | rfl
    · exact .inl (List.mem_flatten.2 ⟨l, hl, hxl⟩)
    · exact .inr hxl
  refine ⟨blk (.slice (some ⟨g0, 0, none⟩) L.length cap) ++ (Fs.set i Fi').flatten, ⟨us.set i u', Fs.set i Fi', by simp [h1], by simp [h2], ?_, fun j hj => ?_, rfl⟩, ?_, ?_⟩
  · rw [List.length_set]; exact s1.1
  · rw [List.length_set] at hj
    by_cases e9 : i = j
    · subst e9
      have eu : (us.set i u').getD i (.slice none 0 0) = u' := by simp [show i < us.length by omega]
      have ef : (Fs.set i Fi').getD i [] = Fi' := by simp [show i < Fs.length by omega]
      rw [eu, ef]
      simp only [List.getElem_set_self]
      exact hP.wr hp hw (fun x hx e => by simp at e; subst e; exact hgF hx)
    · have eu : (us.set i u').getD j (.slice none 0 0) = us.getD j (.slice none 0 0) := by simp [e9]
      have ef : (Fs.set i Fi').getD j [] = Fs.getD j [] := by simp [e9]
      rw [eu, ef, List.getElem_set_ne e9]
      exact hP.wr (h4 j hj) hw (fun x hx e => by simp at e; subst e; exact hgi j hj hx)
  · refine List.nodup_append.2 ⟨hn.1, ?_, fun a ha b hb => ?_⟩
    · refine List.pairwise_flatten.2 ⟨fun l hl => ?_, ?_⟩
      · rcases List.mem_or_eq_of_mem_set hl with hl | rfl
        · exact (List.pairwise_flatten.1 hn.2.1).1 l hl
        · exact hn'
      · rw [List.pairwise_iff_getElem]
        intro p q hp1 hq1 hpq x hx y hy
        rw [List.length_set] at hp1 hq1
        rintro rfl
        have hin : ∀ r (hr : r < Fs.length), x ∈ (Fs.set i Fi')[r]'(by simpa using hr) → (r = i ∧ x ∈ Fi') ∨ (r ≠ i ∧ x ∈ Fs.getD r []) := by
          intro r hr hxr
          by_cases e9 : i = r
          · subst e9; simp at hxr; exact .inl ⟨rfl, hxr⟩
          · rw [List.getElem_set_ne e9] at hxr
            exact .inr ⟨fun e => e9 e.symm, by simpa [hr] using hxr⟩
        rcases hin p hp1 hx with ⟨e1, x1⟩ | ⟨e1, x1⟩ <;> rcases hin q hq1 hy with ⟨e2, x2⟩ | ⟨e2, x2⟩
        · omega
        · exact hd x x1 (by simp [flat_in hq1 x x2])
        · exact hd x x2 (by simp [flat_in hp1 x x1])
        · exact flat_apart hn.2.1 hp1 hq1 (by omega) x x1 x2
    · rintro rfl
      rcases hmem a hb with h5 | h5
      · exact hn.2.2 a ha a h5 rfl
      · exact hd a h5 (by simp [ha])
  · intro x hx
    rcases List.mem_append.1 hx with hx | hx
    · exact .inl (by simp [hx])
    · rcases hmem x hx with h5 | h5
      · exact .inl (by simp [h5])
      · exact .inr h5
/-- A new row of rows that have nothing. -/
theorem OwR.made {β : Type} {P : World → Value → List β → List Nat → Prop} (hP : ∀ w, P w (.slice none 0 0) [] []) {w : World} {v : Value} {base n : Nat} {e : TypeId} (h : w.ownsRow base e 1 v n (List.replicate n (.slice none 0 0))) : OwR e P w v (List.replicate n []) (blk v) := by
  refine ⟨List.replicate n (.slice none 0 0), List.replicate n [], by simp, by simp, by rw [List.length_replicate]; exact own_base h (Nat.zero_le _), fun i hi => ?_, ?_⟩
  · rw [List.length_replicate] at hi
    have e1 : (List.replicate n (Value.slice none 0 0)).getD i (.slice none 0 0) = .slice none 0 0 := by simp [hi]
    have e2 : (List.replicate n ([] : List Nat)).getD i [] = [] := by simp [hi]
    rw [e1, e2, List.getElem_replicate]
    exact hP w
  · have : (List.replicate n ([] : List Nat)).flatten = [] := by simp
    rw [this, List.append_nil]
theorem blk_nodup (v : Value) : (blk v).Nodup := by unfold blk; cases v.ownBlock <;> simp
end

end Go.Proofs.Ytdhgfbdanijgaaa

namespace Go.Proofs.Ytdhgfbdanijgaaa
open Go.RowKit

/-- A list of blocks in which one part is another one. -/
theorem parts_set {B : List Nat} {Fs : List (List Nat)} (h : (B ++ Fs.flatten).Nodup) {i : Nat} (hi : i < Fs.length) {Fi : List Nat} (hn : Fi.Nodup) (hd : ∀ x ∈ Fi, x ∈ Fs.getD i [] ∨ x ∉ B ++ Fs.flatten) :
    (B ++ (Fs.set i Fi).flatten).Nodup ∧ ∀ x ∈ B ++ (Fs.set i Fi).flatten, x ∈ B ++ Fs.flatten ∨ x ∈ Fi := by
  have hp := List.nodup_append.1 h
  have hmem : ∀ x, x ∈ (Fs.set i Fi).flatten → x ∈ Fs.flatten ∨ x ∈ Fi := by
    intro x hx
    obtain ⟨l, hl, hxl⟩ := List.mem_flatten.1 hx
    rcases List.mem_or_eq_of_mem_set hl with hl | rfl
    · exact .inl (List.mem_flatten.2 ⟨l, hl, hxl⟩)
    · exact .inr hxl
  have hdj : ∀ j, j < Fs.length → j ≠ i → ∀ x ∈ Fi, x ∉ Fs.getD j [] := fun j hj hji x hx hx2 => by
    rcases hd x hx with h5 | h5
    · exact flat_apart hp.2.1 hi hj (fun e => hji e.symm) x h5 hx2
    · exact h5 (by simp [flat_in hj x hx2])
  refine ⟨List.nodup_append.2 ⟨hp.1, List.pairwise_flatten.2 ⟨fun l hl => ?_, ?_⟩, fun a ha b hb => ?_⟩, fun x hx => ?_⟩
  · rcases List.mem_or_eq_of_mem_set hl with hl | rfl
    · exact (List.pairwise_flatten.1 hp.2.1).1 l hl
    · exact hn
  · rw [List.pairwise_iff_getElem]
    intro p q hp1 hq1 hpq x hx y hy
    rw [List.length_set] at hp1 hq1
    rintro rfl
    have hin : ∀ r (hr : r < Fs.length), x ∈ (Fs.set i Fi)[r]'(by simpa using hr) → (r = i ∧ x ∈ Fi) ∨ (r ≠ i ∧ x ∈ Fs.getD r []) := by
      intro r hr hxr
      by_cases e9 : i = r
      · subst e9; simp at hxr; exact .inl ⟨rfl, hxr⟩
      · rw [List.getElem_set_ne e9] at hxr
        exact .inr ⟨fun e => e9 e.symm, by simpa [hr] using hxr⟩
    rcases hin p hp1 hx with ⟨e1, x1⟩ | ⟨e1, x1⟩ <;> rcases hin q hq1 hy with ⟨e2, x2⟩ | ⟨e2, x2⟩
    · omega
    · exact hdj q hq1 e2 x x1 x2
    · exact hdj p hp1 e1 x x2 x1
    · exact flat_apart hp.2.1 hp1 hq1 (by omega) x x1 x2
  · rintro rfl
    rcases hmem a hb with h5 | h5
    · exact hp.2.2 a ha a h5 rfl
    · rcases hd a h5 with h6 | h6
      · exact hp.2.2 a ha a (flat_in hi a h6) rfl
      · exact h6 (by simp [ha])
  · rcases List.mem_append.1 hx with hx | hx
    · exact .inl (by simp [hx])
    · rcases hmem x hx with h5 | h5
      · exact .inl (by simp [h5])
      · exact .inr h5

/-- An element of a row that is owned becomes another value, which may reach what the old one reached. -/
theorem OwR.swap {α : Type} {e : TypeId} {P : World → Value → α → List Nat → Prop} {w : World} {v : Value} {L : List α} {F : List Nat} (hP : OwOk P) (h : OwR e P w v L F) (hF : F.Nodup) (i : Nat) (hi : i < L.length) : ∃ g cap u Fi, v = .slice (some ⟨g, 0, none⟩) L.length cap ∧ g ∈ F ∧ g ∉ Fi ∧ w.cell? ⟨g, i, none⟩ = some u ∧ (∀ w1, Wr Fi w w1 → w1.frozen? ⟨g, i, none⟩ = false ∧ w1.cell? ⟨g, i, none⟩ = some u) ∧ P w u L[i] Fi ∧ Fi.Nodup ∧ (∀ x ∈ Fi, x ∈ F) ∧
    ∀ w1 u' a' Fi', Wr Fi w w1 → P w1 u' a' Fi' → Fi'.Nodup → (∀ x ∈ Fi', x ∈ Fi ∨ x ∉ F) → ∃ F', OwR e P (w1.setCell ⟨g, i, none⟩ u') v (L.set i a') F' ∧ F'.Nodup ∧ ∀ x ∈ F', x ∈ F ∨ x ∈ Fi' := by
  obtain ⟨us, Fs, h1, h2, h3, h4, rfl⟩ := h
  obtain ⟨ao, cap, rfl⟩ := own_form h3
  obtain ⟨g, rfl, _, _⟩ := own_at h3 (by omega)
  have hn := List.nodup_append.1 hF
  have hgb : g ∈ blk (Value.slice (some ⟨g, 0, none⟩) L.length cap) := mem_blk.2 rfl
  have hgi : ∀ j, j < L.length → g ∉ Fs.getD j [] := fun j hj hx => hn.2.2 g hgb g (flat_in (by omega) g hx) rfl
  have hil : i < Fs.length := by omega
  have hown : ∀ w1, Wr (Fs.getD i []) w w1 → w1.ownsRow 0 e 1 (.slice (some ⟨g, 0, none⟩) L.length cap) L.length us := fun w1 hw => own_sameAt h3 (fun x hx => hw.block x (h3.lt x hx).2 (by have e9 : g = x := Option.some.inj hx; subst e9; exact hgi i hi))
  have hce : ∀ w1, Wr (Fs.getD i []) w w1 → w1.cell? ⟨g, i, none⟩ = some (us.getD i (.slice none 0 0)) := fun w1 hw => by
    rw [(hown w1 hw).cellAt i (by omega)]
    simp [show i < us.length by omega]
  refine ⟨g, cap, us.getD i (.slice none 0 0), Fs.getD i [], rfl, by simp [hgb], hgi i hi, hce w (Wr.refl _ _), fun w1 hw => ⟨(hown w1 hw).frozenAt i, hce w1 hw⟩, h4 i hi, ?_, fun x hx => by simp [flat_in hil x hx], fun w1 u' a' Fi' hw hp hn' hd => ?_⟩
  · exact (List.pairwise_flatten.1 hn.2.1).1 (Fs.getD i []) (by rw [List.getD_eq_getElem?_getD, List.getElem?_eq_getElem hil]; simp)
  · obtain ⟨p1, p2⟩ := parts_set hF hil hn' hd
    have st := ((hown w1 hw).stored i u')
    have hgF : g ∉ Fi' := fun hx => by
      rcases hd g hx with h5 | h5
      · exact hgi i hi h5
      · exact h5 (by simp [hgb])
    have hw2 : Wr [g] w1 (w1.setCell ⟨g, i, none⟩ u') := Wr.ofRow st.2 (fun x hx => by have := Option.some.inj hx; simp [this])
    refine ⟨_, ⟨us.set i u', Fs.set i Fi', by simp [h1], by simp [h2], by rw [List.length_set]; exact st.1, fun j hj => ?_, rfl⟩, p1, p2⟩
    rw [List.length_set] at hj
    by_cases e9 : i = j
    · subst e9
      have eu : (us.set i u').getD i (.slice none 0 0) = u' := by simp [show i < us.length by omega]
      have ef : (Fs.set i Fi').getD i [] = Fi' := by simp [hil]
      rw [eu, ef]
      simp only [List.getElem_set_self]
      exact hP.wr hp hw2 (fun x hx e => by simp at e; subst e; exact hgF hx)
    · have eu : (us.set i u').getD j (.slice none 0 0) = us.getD j (.slice none 0 0) := by simp [e9]
      have ef : (Fs.set i Fi').getD j [] = Fs.getD j [] := by simp [e9]
      rw [eu, ef, List.getElem_set_ne e9]
      exact hP.wr (hP.wr (h4 j hj) hw (flat_apart hn.2.1 (by omega) (by omega) (fun e => e9 e.symm))) hw2 (fun x hx e => by simp at e; subst e; exact hgi j hj hx)

/-- What is read of a row of structs: each has sz cells. -/
def RdG {α : Type} (sz : Nat) (P : World → (Nat → Value) → α → Prop) (w : World) (v : Value) (L : List α) : Prop :=
  ∃ ao cap, v = .slice ao L.length cap ∧ ∀ i (h : i < L.length), ∃ b off c, ao = some ⟨b, off, none⟩ ∧ (∀ j, j < sz → w.cell? ⟨b, off + i * sz + j, none⟩ = some (c j)) ∧ P w c L[i]
def StG {α : Type} (P : World → (Nat → Value) → α → Prop) : Prop := ∀ w w' c a, P w c a → w.grownBy w' none → P w' c a
theorem RdG.st {α : Type} {sz : Nat} {P : World → (Nat → Value) → α → Prop} (hP : StG P) : StR (RdG sz P) := fun _ _ _ _ ⟨ao, cap, e, h⟩ g =>
  ⟨ao, cap, e, fun i hi => by obtain ⟨b, off, c, e1, h1, h2⟩ := h i hi; exact ⟨b, off, c, e1, fun j hj => g.cell (h1 j hj) (by simp), hP _ _ _ _ h2 g⟩⟩

/-- Who owns a row of structs. -/
def OwG {α : Type} (e : TypeId) (sz : Nat) (P : World → (Nat → Value) → α → List Nat → Prop) (w : World) (v : Value) (L : List α) (F : List Nat) : Prop :=
  ∃ (U : Nat → Nat → Value) (Fs : List (List Nat)), Fs.length = L.length ∧ w.ownsRow 0 e sz v L.length (rowsK L.length sz U) ∧ (∀ i (h : i < L.length), P w (U i) L[i] (Fs.getD i [])) ∧ F = blk v ++ Fs.flatten
structure OkG {α : Type} (P : World → (Nat → Value) → α → List Nat → Prop) : Prop where
  same : ∀ w w' c a F, P w c a F → (∀ g ∈ F, w'.heap[g]? = w.heap[g]?) → P w' c a F
  lt : ∀ w c a F, P w c a F → ∀ g ∈ F, g < w.heap.size

section
variable {α : Type} {e : TypeId} {sz : Nat} {P : World → (Nat → Value) → α → List Nat → Prop} {w : World} {v : Value} {L : List α} {F : List Nat}
theorem OkG.wr (hP : OkG P) {w w' : World} {c : Nat → Value} {a : α} {F G : List Nat} (h : P w c a F) (g : Wr G w w') (hd : ∀ x ∈ F, x ∉ G) : P w' c a F :=
  hP.same w w' c a F h (fun x hx => g.block x (hP.lt w c a F h x hx) (hd x hx))
theorem OkG.keep (hP : OkG P) {w w' : World} {c : Nat → Value} {a : α} {F : List Nat} (h : P w c a F) (g : w.grownBy w' none) : P w' c a F :=
  hP.wr h (Wr.ofNone (F := []) g) (fun x _ => by simp)
theorem OwG.ok (hP : OkG P) : OwOk (OwG e sz P) := by
  refine ⟨?_, ?_, ?_⟩
  · rintro w w' u a F ⟨U, Fs, h2, h3, h4, rfl⟩ hs
    refine ⟨U, Fs, h2, own_sameAt h3 (fun g hg => hs g (by simp [mem_blk.2 hg])), fun i hi => ?_, rfl⟩
    exact hP.same w w' _ _ _ (h4 i hi) (fun g hg => hs g (by have := flat_in (by omega) g hg; simp [this]))
  · rintro w u a F ⟨U, Fs, h2, h3, h4, rfl⟩ g hg
    rcases List.mem_append.1 hg with hg | hg
    · exact (h3.lt g (mem_blk.1 hg)).2
    · obtain ⟨l, hl, hgl⟩ := List.mem_flatten.1 hg
      obtain ⟨i, hi, rfl⟩ := List.mem_iff_getElem.1 hl
      exact hP.lt w _ _ _ (h4 i (by omega)) g (by simpa [hi] using hgl)
  · rintro w u a F ⟨U, Fs, h2, h3, h4, rfl⟩
    obtain ⟨ao, cap, rfl⟩ := own_form h3
    exact ⟨_, _, _, rfl⟩
theorem OwG.form (h : OwG e sz P w v L F) : ∃ ao cap, v = .slice ao L.length cap := by
  obtain ⟨U, Fs, _, h3, _⟩ := h
  exact own_form h3
theorem OwG.nil (e : TypeId) (sz : Nat) (P : World → (Nat → Value) → α → List Nat → Prop) (w : World) : OwG e sz P w (.slice none 0 0) [] [] := ⟨fun _ _ => .slice none 0 0, [], rfl, ⟨by rw [rowsK_len], .inl ⟨rfl, rfl⟩⟩, fun i hi => absurd hi (by simp), rfl⟩
theorem cellG {g cap n : Nat} {U : Nat → Nat → Value} {base : Nat} (h : w.ownsRow base e sz (.slice (some ⟨g, 0, none⟩) n cap) n (rowsK n sz U)) (i j : Nat) (hi : i < n) (hj : j < sz) : w.cell? ⟨g, i * sz + j, none⟩ = some (U i j) := by
  have hlt : i * sz + j < n * sz := Nat.lt_of_lt_of_le (Nat.add_lt_add_left hj _) (by rw [← Nat.succ_mul]; exact Nat.mul_le_mul_right _ hi)
  rw [h.cellAt _ hlt]
  exact rowsK_get n sz U i j hi hj
theorem OwG.rd {Q : World → (Nat → Value) → α → Prop} (hPQ : ∀ w c a F, P w c a F → Q w c a) (h : OwG e sz P w v L F) : RdG sz Q w v L := by
  obtain ⟨U, Fs, h2, h3, h4, rfl⟩ := h
  obtain ⟨ao, cap, rfl⟩ := own_form h3
  refine ⟨ao, cap, rfl, fun i hi => ?_⟩
  obtain ⟨g, rfl, _, _⟩ := own_at h3 (by omega)
  exact ⟨g, 0, U i, rfl, fun j hj => by rw [Nat.zero_add]; exact cellG h3 i j hi hj, hPQ _ _ _ _ (h4 i hi)⟩
/-- An element, and what becomes of the row when what the element reaches becomes another thing. -/
theorem OwG.turn (hP : OkG P) (h : OwG e sz P w v L F) (hF : F.Nodup) (i : Nat) (hi : i < L.length) : ∃ g cap c Fi, v = .slice (some ⟨g, 0, none⟩) L.length cap ∧ g ∈ F ∧ g ∉ Fi ∧ (∀ j, j < sz → w.cell? ⟨g, i * sz + j, none⟩ = some (c j)) ∧ (∀ j, w.frozen? ⟨g, j, none⟩ = false) ∧ P w c L[i] Fi ∧ Fi.Nodup ∧ (∀ x ∈ Fi, x ∈ F) ∧
    (∀ w' a' Fi', Wr Fi w w' → P w' c a' Fi' → Fi'.Nodup → (∀ x ∈ Fi', x ∈ Fi ∨ x ∉ F) → ∃ F', OwG e sz P w' v (L.set i a') F' ∧ F'.Nodup ∧ ∀ x ∈ F', x ∈ F ∨ x ∈ Fi') ∧
    (∀ w' (c' : Nat → Value) a' Fi', Wr (g :: Fi) w w' → (∀ U, w.ownsRow 0 e sz v L.length (rowsK L.length sz U) → w'.ownsRow 0 e sz v L.length (rowsK L.length sz (fun p q => if p = i then c' q else U p q))) → P w' c' a' Fi' → Fi'.Nodup → (∀ x ∈ Fi', x ∈ Fi ∨ x ∉ F) → ∃ F', OwG e sz P w' v (L.set i a') F' ∧ F'.Nodup ∧ ∀ x ∈ F', x ∈ F ∨ x ∈ Fi') := by
  obtain ⟨U, Fs, h2, h3, h4, rfl⟩ := h
  obtain ⟨ao, cap, rfl⟩ := own_form h3
  obtain ⟨g, rfl, _, _⟩ := own_at h3 (by omega)
  have hn := List.nodup_append.1 hF
  have hgb : g ∈ blk (Value.slice (some ⟨g, 0, none⟩) L.length cap) := mem_blk.2 rfl
  have hgi : ∀ j, j < L.length → g ∉ Fs.getD j [] := fun j hj hx => hn.2.2 g hgb g (flat_in (by omega) g hx) rfl
  have hil : i < Fs.length := by omega
  refine ⟨g, cap, U i, Fs.getD i [], rfl, by simp [hgb], hgi i hi, fun j hj => cellG h3 i j hi hj, fun j => h3.frozenAt j, h4 i hi, ?_, fun x hx => by simp [flat_in hil x hx], fun w' a' Fi' hw hp hn' hd => ?_, fun w' c' a' Fi' hw ho hp hn' hd => ?_⟩
  · exact (List.pairwise_flatten.1 hn.2.1).1 (Fs.getD i []) (by rw [List.getD_eq_getElem?_getD, List.getElem?_eq_getElem hil]; simp)
  · obtain ⟨p1, p2⟩ := parts_set hF hil hn' hd
    refine ⟨_, ⟨U, Fs.set i Fi', by simp [h2], ?_, fun j hj => ?_, rfl⟩, p1, p2⟩
    · rw [List.length_set]
      exact own_sameAt h3 (fun x hx => hw.block x (h3.lt x hx).2 (by have e9 : g = x := Option.some.inj hx; subst e9; exact hgi i hi))
    · rw [List.length_set] at hj
      by_cases e9 : i = j
      · subst e9
        have ef : (Fs.set i Fi').getD i [] = Fi' := by simp [hil]
        rw [ef]
        simp only [List.getElem_set_self]
        exact hp
      · have ef : (Fs.set i Fi').getD j [] = Fs.getD j [] := by simp [e9]
        rw [ef, List.getElem_set_ne e9]
        exact hP.wr (h4 j hj) hw (flat_apart hn.2.1 (by omega) (by omega) (fun e => e9 e.symm))
  · obtain ⟨p1, p2⟩ := parts_set hF hil hn' hd
    refine ⟨_, ⟨_, Fs.set i Fi', by simp [h2], by rw [List.length_set]; exact ho U h3, fun j hj => ?_, rfl⟩, p1, p2⟩
    rw [List.length_set] at hj
    by_cases e9 : i = j
    · subst e9
      have ef : (Fs.set i Fi').getD i [] = Fi' := by simp [hil]
      rw [ef]
      simp only [List.getElem_set_self, if_true]
      exact hp
    · have ef : (Fs.set i Fi').getD j [] = Fs.getD j [] := by simp [e9]
      rw [ef, List.getElem_set_ne e9]
      have ec : (fun q => if j = i then c' q else U j q) = U j := by funext q; rw [if_neg (fun e => e9 e.symm)]
      rw [ec]
      exact hP.wr (h4 j hj) hw (fun x hx hy => by
        rcases List.mem_cons.1 hy with rfl | hy
        · exact hgi j hj hx
        · exact flat_apart hn.2.1 (by omega) (by omega) (fun e => e9 e.symm) x hx hy)
/-- An element, and what becomes of the row when it is written anew in its own blocks. -/
theorem OwG.at (hP : OkG P) (h : OwG e sz P w v L F) (hF : F.Nodup) (i : Nat) (hi : i < L.length) : ∃ g cap c Fi, v = .slice (some ⟨g, 0, none⟩) L.length cap ∧ g ∈ F ∧ g ∉ Fi ∧ (∀ w1, Wr Fi w w1 → (∀ j, j < sz → w1.cell? ⟨g, i * sz + j, none⟩ = some (c j)) ∧ (∀ j, w1.frozen? ⟨g, j, none⟩ = false)) ∧ P w c L[i] Fi ∧ Fi.Nodup ∧ (∀ x ∈ Fi, x ∈ F) ∧
    ∀ w1 w' (c' : Nat → Value) a', Wr Fi w w1 → Wr [g] w1 w' → (∀ U, w1.ownsRow 0 e sz v L.length (rowsK L.length sz U) → (∀ j, j < sz → U i j = c j) → w'.ownsRow 0 e sz v L.length (rowsK L.length sz (fun p q => if p = i then c' q else U p q))) → P w' c' a' Fi → OwG e sz P w' v (L.set i a') F := by
  obtain ⟨U, Fs, h2, h3, h4, rfl⟩ := h
  obtain ⟨ao, cap, rfl⟩ := own_form h3
  obtain ⟨g, rfl, _, _⟩ := own_at h3 (by omega)
  have hn := List.nodup_append.1 hF
  have hgb : g ∈ blk (Value.slice (some ⟨g, 0, none⟩) L.length cap) := mem_blk.2 rfl
  have hgi : ∀ j, j < L.length → g ∉ Fs.getD j [] := fun j hj hx => hn.2.2 g hgb g (flat_in (by omega) g hx) rfl
  have hil : i < Fs.length := by omega
  have hown : ∀ w1, Wr (Fs.getD i []) w w1 → w1.ownsRow 0 e sz (.slice (some ⟨g, 0, none⟩) L.length cap) L.length (rowsK L.length sz U) := fun w1 hw => own_sameAt h3 (fun x hx => hw.block x (h3.lt x hx).2 (by have e9 : g = x := Option.some.inj hx; subst e9; exact hgi i hi))
  refine ⟨g, cap, U i, Fs.getD i [], rfl, by simp [hgb], hgi i hi, fun w1 hw => ⟨fun j hj => cellG (hown w1 hw) i j hi hj, fun j => (hown w1 hw).frozenAt j⟩, h4 i hi, ?_, fun x hx => by simp [flat_in hil x hx], fun w1 w' c' a' hw hw2 ho hp => ?_⟩
  · exact (List.pairwise_flatten.1 hn.2.1).1 (Fs.getD i []) (by rw [List.getD_eq_getElem?_getD, List.getElem?_eq_getElem hil]; simp)
  · refine ⟨_, Fs, by simp [h2], by rw [List.length_set]; exact ho U (hown w1 hw) (fun _ _ => rfl), fun j hj => ?_, rfl⟩
    rw [List.length_set] at hj
    by_cases e9 : i = j
    · subst e9
      simp only [List.getElem_set_self, if_true]
      exact hp
    · rw [List.getElem_set_ne e9]
      have ec : (fun q => if j = i then c' q else U j q) = U j := by funext q; rw [if_neg (fun e => e9 e.symm)]
      rw [ec]
      exact hP.wr (hP.wr (h4 j hj) hw (flat_apart hn.2.1 (by omega) (by omega) (fun e => e9 e.symm))) hw2 (fun x hx hy => by simp at hy; subst hy; exact hgi j hj hx)
/-- A new row, of structs that reach nothing. -/
theorem OwG.made {z : α} {zc : Nat → Value} (hz : ∀ w, P w zc z []) {base n : Nat} (h : w.ownsRow base e sz v n (rowsK n sz (fun _ j => zc j))) : OwG e sz P w v (List.replicate n z) (blk v) := by
  refine ⟨fun _ j => zc j, List.replicate n [], by simp, by rw [List.length_replicate]; exact own_base h (Nat.zero_le _), fun i hi => ?_, ?_⟩
  · rw [List.length_replicate] at hi
    have e2 : (List.replicate n ([] : List Nat)).getD i [] = [] := by simp [hi]
    rw [e2, List.getElem_replicate]
    exact hz w
  · have : (List.replicate n ([] : List Nat)).flatten = [] := by simp
    rw [this, List.append_nil]
end

end Go.Proofs.Ytdhgfbdanijgaaa

namespace Go.Proofs.Ytdhgfbdanijgaaa
open Go.RowKit

theorem rowsK_append (n m k : Nat) (hk : 0 < k) (U V : Nat → Nat → Value) : rowsK n k U ++ rowsK m k V = rowsK (n + m) k (fun i j => if i < n then U i j else V (i - n) j) := by
  apply List.ext_getElem?
  intro c
  by_cases h1 : c < n * k
  · rw [List.getElem?_append_left (by rw [rowsK_len]; exact h1)]
    have hi' : c / k < n := Nat.div_lt_of_lt_mul (by rw [Nat.mul_comm]; exact h1)
    have hm : c % k < k := Nat.mod_lt _ hk
    have hd : c = (c / k) * k + c % k := by have := Nat.div_add_mod c k; rw [Nat.mul_comm] at this; omega
    rw [hd, rowsK_get n k U _ _ hi' hm, rowsK_get (n + m) k _ _ _ (by omega) hm, if_pos hi']
  · obtain ⟨d, rfl⟩ : ∃ d, c = n * k + d := ⟨c - n * k, by omega⟩
    rw [List.getElem?_append_right (by rw [rowsK_len]; omega), rowsK_len, Nat.add_sub_cancel_left]
    have hd : d = (d / k) * k + d % k := by have := Nat.div_add_mod d k; rw [Nat.mul_comm] at this; omega
    have hm : d % k < k := Nat.mod_lt _ hk
    have hc : n * k + d = (n + d / k) * k + d % k := by rw [Nat.add_mul]; omega
    by_cases h2 : d < m * k
    · have hi' : d / k < m := Nat.div_lt_of_lt_mul (by rw [Nat.mul_comm]; exact h2)
      rw [hc, rowsK_get (n + m) k _ _ _ (Nat.add_lt_add_left hi' n) hm, if_neg (Nat.not_lt.2 (Nat.le_add_right _ _)), Nat.add_sub_cancel_left]
      have e9 := rowsK_get m k V (d / k) (d % k) hi' hm
      rw [← hd] at e9
      exact e9
    · rw [List.getElem?_eq_none (by rw [rowsK_len]; omega), List.getElem?_eq_none (by rw [rowsK_len, Nat.add_mul]; omega)]

theorem append_rowsG {α : Type} {P : World → (Nat → Value) → α → List Nat → Prop} (hP : OkG P) {e T : TypeId} {sz bytes : Nat} {z : Value} (hT : Try.prog.underlying T = some (.slice e)) (hI : (Try.prog.info? e).map (fun i => (i.zero, i.size, i.bytes)) = some (some z, sz, bytes)) (hzs : z.cells.size = sz) (hsz : 0 < sz) (hbt : bytes ≤ 1000)
    {w : World} {ops : Array Oper} {rest : List Oper} {o : Oper} {a : Act} {Q : Exit → Act → World → Prop} (hgd : o.guard = none) (s x : Operand)
    (ho : o.op = .call { callee := .builtin .append, args := #[s, x], argTypes := #[T, T] })
    (v : Value) (L : List α) (F : List Nat) (hs : a.eval s = v) (hown : OwG e sz P w v L F) (hF : F.Nodup)
    (cs : Array Value) (m : Nat) (V : Nat → Nat → Value) (hcs : cs.toList = rowsK m sz V) (M : List α) (hM : M.length = m) (Gs : List (List Nat)) (hGs : Gs.length = m) (hu : ∀ i (h : i < M.length), P w (V i) M[i] (Gs.getD i [])) (hG : Gs.flatten.Nodup) (hd : ∀ x ∈ Gs.flatten, x ∉ F) (h1c : ∀ u ∈ cs.toList, u.oneCell' = true)
    (H : Nat) (hH : w.heap.size = H) (hx : a.eval x = .slice (some ⟨H, 0, none⟩) m m) (hb : L.length + m ≤ 1000000) (R : List α) (hR : L ++ M = R)
    (h : ∀ v' w' F', OwG e sz P w' v' R F' → F'.Nodup → (∀ x ∈ F', x ∈ F ∨ x ∈ Gs.flatten ∨ w.heap.size ≤ x) → Wr (blk v) w w' → wpList Try.prog ops Q rest (a.put o.dst v') w') :
    wpList Try.prog ops Q (o :: rest) a (w.alloc (.cells cs e)) := by
  subst hR
  subst hH
  obtain ⟨i0, hi, hz0, hz1, hz2⟩ := info_parts hI
  obtain ⟨U, Fs, l2, o1, els, rfl⟩ := hown
  have hn := List.nodup_append.1 hF
  have hbb : (L.length + m) * bytes ≤ 1000000 * 1000 := Nat.mul_le_mul hb hbt
  refine wpList_append_own_at _ hgd s x T ho 0 e i0 _ sz bytes hT hi hz0 hz1 hz2 hzs hsz v L.length _ hs (o1.alloc _) ⟨w.heap.size, 0, none⟩ m m cs.toList hx (by rw [hcs, rowsK_len]) (World.news_of_block (cs := cs) (t := e) (fr := (0, 0)) (heap_alloc_new w _)) h1c (by unfold maxLen; omega) (by omega) (Nat.zero_le _) ?_
  intro v' w' h1 h2 _ h4
  have hga : w.grownBy w' v.ownBlock := ⟨h2.os, h2.tape, h2.output, by have h := h2.size; simp at h; omega, fun k hk hr => (h2.block k (by simp; omega) hr).trans (Below.heap_alloc _ _ _ hk)⟩
  have hw : Wr (blk v) w w' := Wr.ofRow hga (fun g e => mem_blk.2 e)
  have hvb : ∀ y, y ∈ blk v' → y ∈ blk v ∨ w.heap.size ≤ y := fun y hy => by
    rcases h4 with h4 | h4
    · exact .inl (mem_blk.2 (by rw [← h4]; exact mem_blk.1 hy))
    · have e1 := mem_blk.1 hy
      rw [h4] at e1
      have e2 : (w.alloc (.cells cs e)).heap.size = y := Option.some.inj e1
      exact .inr (by simp at e2; omega)
  have hfl : (Fs ++ Gs).flatten = Fs.flatten ++ Gs.flatten := by simp
  have hlt : ∀ y ∈ Fs.flatten, y < w.heap.size := fun y hy => by
    obtain ⟨l, hl, hyl⟩ := List.mem_flatten.1 hy
    obtain ⟨i, hi, rfl⟩ := List.mem_iff_getElem.1 hl
    exact hP.lt w _ _ _ (els i (by omega)) y (by simpa [hi] using hyl)
  have hltG : ∀ y ∈ Gs.flatten, y < w.heap.size := fun y hy => by
    obtain ⟨l, hl, hyl⟩ := List.mem_flatten.1 hy
    obtain ⟨i, hi, rfl⟩ := List.mem_iff_getElem.1 hl
    exact hP.lt w _ _ _ (hu i (by omega)) y (by simpa [hi] using hyl)
  refine h v' w' (blk v' ++ (Fs ++ Gs).flatten) ⟨fun i j => if i < L.length then U i j else V (i - L.length) j, Fs ++ Gs, by simp [l2, hGs, hM], ?_, fun i hi => ?_, rfl⟩ ?_ ?_ hw
  · rw [List.length_append, hM, ← rowsK_append L.length m sz hsz, ← hcs]; exact h1
  · by_cases hil : i < L.length
    · have e1 : (fun j => if i < L.length then U i j else V (i - L.length) j) = U i := by funext j; rw [if_pos hil]
      have e2 : (Fs ++ Gs).getD i [] = Fs.getD i [] := by simp [List.getElem?_append_left (show i < Fs.length by omega)]
      dsimp only
      rw [e1, e2, List.getElem_append_left hil]
      exact hP.wr (els i hil) hw (fun y hy hy2 => hn.2.2 y hy2 y (flat_in (by omega) y hy) rfl)
    · have him : i - L.length < M.length := by rw [List.length_append] at hi; omega
      have e1 : (fun j => if i < L.length then U i j else V (i - L.length) j) = V (i - L.length) := by funext j; rw [if_neg hil]
      have e2 : (Fs ++ Gs).getD i [] = Gs.getD (i - L.length) [] := by simp [List.getElem?_append_right (show Fs.length ≤ i by omega), l2]
      dsimp only
      rw [e1, e2, List.getElem_append_right (by omega)]
      exact hP.wr (hu (i - L.length) him) hw (fun y hy hy2 => hd y (flat_in (by omega) y hy) (by simp [hy2]))
  · rw [hfl]
    refine List.nodup_append.2 ⟨blk_nodup v', List.nodup_append.2 ⟨hn.2.1, hG, fun y hy z hz => ?_⟩, fun y hy z hz => ?_⟩
    · rintro rfl
      exact hd y hz (by simp [hy])
    · rintro rfl
      rcases List.mem_append.1 hz with hz | hz
      · rcases hvb y hy with h5 | h5
        · exact hn.2.2 y h5 y hz rfl
        · have := hlt y hz; omega
      · rcases hvb y hy with h5 | h5
        · exact hd y hz (by simp [h5])
        · have := hltG y hz; omega
  · intro y hy
    rw [hfl] at hy
    rcases List.mem_append.1 hy with hy | hy
    · rcases hvb y hy with h5 | h5
      · exact .inl (by simp [h5])
      · exact .inr (.inr h5)
    · rcases List.mem_append.1 hy with hy | hy
      · exact .inl (by simp [hy])
      · exact .inr (.inl hy)

end Go.Proofs.Ytdhgfbdanijgaaa

namespace Go.Proofs.Ytdhgfbdanijgaaa
open Go.RowKit

section
variable {P : Program} {ops : Array Oper} {md : Region.Mode} {C : World → Prop} {m : Nat} {L : Act → Prop}

/-- Whatever order is picked from here on: number m comes last, and then L is asked. -/
def anyL (P : Program) (md : Region.Mode) (ops : Array Oper) (C : World → Prop) (m : Nat) (L : Act → Prop) : Nat → Array Bool → Act → Prop
  | 0, _, _ => False
  | fuel + 1, listed, a => Region.ready md ops listed ≠ [] ∧ ∀ i ∈ Region.ready md ops listed, if i = m then (L a ∧ Region.ready md ops (listed.setIfInBounds m true) = []) else qOp P ops C i (anyL P md ops C m L fuel (listed.setIfInBounds i true)) a

theorem any_done {Q : Exit → Act → World → Prop} {listed : Array Bool} {a : Act} {w : World} (hr : Region.ready md ops listed = []) (hq : Q .normal a w) : ∀ fuel, wpAny P md ops Q fuel listed a w
  | 0 => ⟨hr, hq⟩
  | _ + 1 => ⟨fun _ => hq, fun i hi => by rw [hr] at hi; cases hi⟩

theorem anyL_sound {Q : Exit → Act → World → Prop} (hL : ∀ a w, C w → L a → wpOp P ops Q m (fun a' w' => Q .normal a' w') a w) :
    ∀ (fuel : Nat) (listed : Array Bool) (a : Act) (w : World), C w → anyL P md ops C m L fuel listed a → wpAny P md ops Q fuel listed a w
  | 0, _, _, _, _, h => h.elim
  | fuel + 1, listed, a, w, hw, h => ⟨fun h0 => absurd h0 h.1, fun i hi => by
      have h2 := h.2 i hi
      by_cases e : i = m
      · subst e
        rw [if_pos rfl] at h2
        exact wpOp_mono (fun a' w' hq => any_done h2.2 hq fuel) (hL a w hw h2.1)
      · rw [if_neg e] at h2
        exact wpOp_of_qOp hw (fun a' w' hw' hh => anyL_sound hL fuel _ a' w' hw' hh) h2⟩

/-- What has come up has come up behind what it waits for. -/
def Cl (md : Region.Mode) (ops : Array Oper) (listed : Array Bool) : Prop := ∀ k ok, ops[k]? = some ok → listed.getD k false = true → ∀ e ∈ ok.after, Region.binds md e = true → listed.getD e.on false = true
theorem Cl.set {listed : Array Bool} {j : Nat} (h : Cl md ops listed) (hj : j ∈ Region.ready md ops listed) : Cl md ops (listed.setIfInBounds j true) := by
  intro k ok hk hl e he hb
  by_cases hjk : j = k
  · subst hjk
    obtain ⟨_, o, ho, hall⟩ := mem_ready.1 hj
    rw [ho] at hk
    cases hk
    exact getD_set_true (hall e he hb)
  · rw [getD_set_ne false hjk] at hl
    exact getD_set_true (h k ok hk hl e he hb)
theorem Cl.none (n : Nat) : Cl md ops (Array.replicate n false) := by
  intro k ok _ hl
  exfalso
  have : (Array.replicate n false).getD k false = false := by simp [Array.getD]
  rw [this] at hl
  cases hl
/-- Whether an operation waits for another, by so many steps at most. -/
def waits (md : Region.Mode) (ops : Array Oper) : Nat → Nat → Nat → Bool
  | 0, _, _ => false
  | f + 1, j, i => match ops[j]? with
    | none => false
    | some o => o.after.any (fun e => Region.binds md e && (e.on == i || waits md ops f e.on i))
theorem waits_listed {listed : Array Bool} (h : Cl md ops listed) (i : Nat) : ∀ (f j : Nat), listed.getD j false = true → waits md ops f j i = true → listed.getD i false = true
  | 0, _, _, hw => by simp [waits] at hw
  | f + 1, j, hj, hw => by
    unfold waits at hw
    cases ho : ops[j]? with
    | none => simp [ho] at hw
    | some o =>
      simp only [ho] at hw
      obtain ⟨q, hq, hb⟩ := Array.any_eq_true.1 hw
      have he := Array.getElem_mem hq
      generalize o.after[q] = e at *
      simp only [Bool.and_eq_true, Bool.or_eq_true, beq_iff_eq] at hb
      have hl := h j o ho hj e he hb.1
      rcases hb.2 with hb2 | hb2
      · rw [← hb2]; exact hl
      · exact waits_listed h i f e.on hl hb2
theorem waits_ready {listed : Array Bool} (h : Cl md ops listed) (i f : Nat) (hm : m ∈ Region.ready md ops listed) (hw : waits md ops (f + 1) m i = true) : listed.getD i false = true := by
  obtain ⟨_, o, ho, hall⟩ := mem_ready.1 hm
  unfold waits at hw
  simp only [ho] at hw
  obtain ⟨q, hq, hb⟩ := Array.any_eq_true.1 hw
  have he := Array.getElem_mem hq
  generalize o.after[q] = e at *
  simp only [Bool.and_eq_true, Bool.or_eq_true, beq_iff_eq] at hb
  have hl := hall e he hb.1
  rcases hb.2 with hb2 | hb2
  · rw [← hb2]; exact hl
  · exact waits_listed h i f e.on hl hb2

/-- An operation that only reads, and for which m waits, may be taken first. -/
theorem anyL_first {i f : Nat} {oi : Oper} {v : Value} (hi : ops[i]? = some oi) (him : i ≠ m) (hwt : waits md ops (f + 1) m i = true) (hsel : ∀ (j : Nat) (o : Oper) cs b, ops[j]? = some o → o.op ≠ .select cs b) :
    ∀ (fuel : Nat) (listed : Array Bool) (a : Act), Cl md ops listed →
      (∀ j oj, ops[j]? = some oj → j ≠ i → listed.getD j true = false → (∀ e ∈ oj.after, Region.binds md e = true → e.on ≠ i) → oi.apart ops oj = true) →
      i ∈ Region.ready md ops listed → YieldsIn P ops C oi v a →
      anyL P md ops C m L fuel (listed.setIfInBounds i true) (a.put oi.dst v) → anyL P md ops C m L (fuel + 1) listed a := by
  intro fuel
  induction fuel with
  | zero => intro listed a _ _ _ _ H; exact H.elim
  | succ fuel ih =>
    intro listed a hcl hfree hr hy H
    have hun := (mem_ready.1 hr).1
    refine ⟨fun h => (by rw [h] at hr; cases hr), fun j hj => ?_⟩
    by_cases hji : j = i
    · subst hji
      rw [if_neg him]
      exact hy.qOp hi H
    · by_cases hjm : j = m
      · exfalso
        subst hjm
        have h1 := waits_ready hcl i f hj hwt
        rcases Nat.lt_or_ge i listed.size with h' | h'
        · simp [h'] at h1 hun; rw [hun] at h1; cases h1
        · simp [Array.getElem?_eq_none h'] at h1
      · rw [if_neg hjm]
        have h1 := H.2 j (ready_mono hj hji)
        rw [if_neg hjm] at h1
        obtain ⟨hjun, oj, hoj, hall⟩ := mem_ready.1 hj
        have hnot : ∀ e ∈ oj.after, Region.binds md e = true → e.on ≠ i := fun e he hb heq => by
          have h1 := hall e he hb
          rw [heq] at h1
          rcases Nat.lt_or_ge i listed.size with h' | h'
          · simp [h'] at h1 hun; rw [hun] at h1; cases h1
          · simp [Array.getElem?_eq_none h'] at h1
        have h2 := qOp_put hoj (hfree j oj hoj hji hjun hnot) (fun cs b => hsel i oi cs b hi) (fun cs b => hsel j oj cs b hoj) hy h1
        refine qOp_mono (fun a' h3 => ih (listed.setIfInBounds j true) a' (hcl.set hj) (fun k ok hk hki hu hno => hfree k ok hk hki ?_ hno) (ready_mono hr (Ne.symm hji)) h3.1 ?_) h2
        · by_cases hjk : j = k
          · subst hjk; exact hjun
          · rw [getD_set_ne true hjk] at hu; exact hu
        · rw [Array.setIfInBounds_comm _ _ hji]
          exact h3.2

/-- The lexical order can be gone, all but the last. -/
def lexL (md : Region.Mode) (ops : Array Oper) (m f : Nat) : Nat → Nat → Array Bool → Bool
  | 0, _, listed => (Region.ready md ops listed == [m]) && (Region.ready md ops (listed.setIfInBounds m true)).isEmpty
  | fuel + 1, k, listed => (Region.ready md ops listed).contains k && Region.free md ops listed k && (k != m) && waits md ops (f + 1) m k && lexL md ops m f fuel (k + 1) (listed.setIfInBounds k true)

theorem anyL_lex (f : Nat) (hs : Region.noSelect ops = true) : ∀ (l : List Oper) (k : Nat) (listed : Array Bool) (a : Act), Cl md ops listed → (∀ j, j < l.length → l[j]? = ops[k + j]?) →
    lexL md ops m f l.length k listed = true → wpQuiet P ops C L l a → anyL P md ops C m L (l.length + 1) listed a
  | [], _, listed, a, _, _, hB, h => by
    simp only [List.length_nil, lexL, Bool.and_eq_true, beq_iff_eq, List.isEmpty_iff] at hB
    refine ⟨by rw [hB.1]; simp, fun i hi => ?_⟩
    rw [hB.1, List.mem_singleton] at hi
    rw [if_pos hi]
    exact ⟨h, hB.2⟩
  | o :: l, k, listed, a, hcl, hl, hB, h => by
    have h0 : ops[k]? = some o := by have := hl 0 (by simp); simpa using this.symm
    simp only [List.length_cons, lexL, Bool.and_eq_true, bne_iff_ne] at hB
    obtain ⟨⟨⟨⟨hr, hf⟩, hne⟩, hw⟩, hB'⟩ := hB
    have hst : qOp P ops C k (wpQuiet P ops C L l) a := by unfold qOp; simp only [h0]; exact h
    obtain ⟨v, hy, hK⟩ := yieldsIn_of_qOp h0 hst
    have hrm : k ∈ Region.ready md ops listed := by simpa using hr
    exact anyL_first h0 hne hw (Region.noSelect_spec hs) (l.length + 1) listed a hcl (Region.free_spec h0 hf) hrm hy
      (anyL_lex f hs l (k + 1) _ _ (hcl.set hrm) (fun j hj => by have := hl (j + 1) (by simpa using hj); simpa [Nat.add_assoc, Nat.add_comm 1 j] using this) hB' hK)
end

/-- A region whose operations are written out: all but the last only read. -/
theorem wp_region_last {P : Program} {id : Nat} {Q : Exit → Act → World → Prop} {a : Act} {w : World} {l : List Oper} (f : Nat) (last : Oper) (hm : P.follows .mixedOrders = true) (hlast : l[l.length - 1]? = some last) (hg : last.guard = none)
    (hB : (Region.noSelect l.toArray && lexL .any l.toArray (l.length - 1) f (l.length - 1) 0 (Array.replicate l.length false)) = true)
    (h : wpQuiet P l.toArray (fun w' => ∃ n, w' = w.drewN n) (fun a' => ∀ n, Oper.wp P last a' (w.drewN n) (fun a' w' => Q .normal a' w') Q) l.dropLast a) : (Code.region id l.toArray true).wp P Q a w := by
  rw [Bool.and_eq_true] at hB
  have hpos : 0 < l.length := by
    have := (List.getElem?_eq_some_iff.1 hlast).1
    omega
  have hlen : l.dropLast.length + 1 = l.length := by rw [List.length_dropLast]; omega
  refine wp_region_any hm (anyL_sound (C := fun w' => ∃ n, w' = w.drewN n) (m := l.length - 1) (L := fun a' => ∀ n, Oper.wp P last a' (w.drewN n) (fun a' w' => Q .normal a' w') Q) (fun a' w' hw' hL => ?_) _ _ _ _ ⟨1, rfl⟩ ?_)
  · obtain ⟨n, rfl⟩ := hw'
    unfold wpOp
    have e : l.toArray[l.length - 1]? = some last := by simpa using hlast
    have hwn : Region.wanted last (yielded l.toArray a'.tmps) = true := by simp [Region.wanted, hg]
    simp only [e, hwn, if_true]
    exact .inl (hL n)
  · have hx := anyL_lex (P := P) (ops := l.toArray) (md := .any) (C := fun w' => ∃ n, w' = w.drewN n) (m := l.length - 1) (L := fun a' => ∀ n, Oper.wp P last a' (w.drewN n) (fun a' w' => Q .normal a' w') Q) f hB.1 l.dropLast 0 (Array.replicate l.length false) a (Cl.none _)
      (fun j hj => by
        rw [List.length_dropLast] at hj
        rw [List.getElem?_dropLast, if_pos hj]
        simp) (by rw [List.length_dropLast]; exact hB.2) h
    rw [hlen] at hx
    simpa using hx

end Go.Proofs.Ytdhgfbdanijgaaa
