/-
  A scan of all components, in the program.
-/
import Derived.Test.YtnjcmlmgjoaeeaaScriptFor
import Derived.Test.YtnjcmlmgjoaeeaaFrameImpl
import Derived.Test.YtnjcmlmgjoaeeaaLeftPure
namespace Go.Proofs.Ytnjcmlmgjoaeeaa
open Go.RowKit

/-- What a frame that was fixed tells of how many components it has. -/
structure Cnt (X : Array Value) (n : Nat) : Prop where
  size : X.size = 21
  c4 : X[4]? = some (.int .i64 n)
  n4 : n ≤ 4

set_option maxRecDepth 20000 in
set_option maxHeartbeats 3200000 in
theorem together (X : Array Value) (n : Nat) (hX : Cnt X n) (fr to hi lo : Int) (w : World) :
    Calls Try.prog 69 #[.agg X, .agg #[.slice none 0 0, .int .i64 fr, .int .i64 to, .int .i64 hi, .int .i64 lo]] w fun e w' => ∃ u F, e = .returned u ∧ OwSs w' u [⟨allC n, fr, to, hi, lo⟩] F ∧ F.Nodup ∧ (∀ g ∈ F, w.heap.size ≤ g) ∧ w.grownBy w' none := by
  have hn := hX.n4
  obtain ⟨W0, HW⟩ : ∃ W0, Hid ((w.alloc (.cells X 71)).alloc (.cells #[.slice none 0 0, .int .i64 fr, .int .i64 to, .int .i64 hi, .int .i64 lo] 38) = W0) := ⟨_, rfl⟩
  have HG0 : Hid (w.grownBy W0 none) := by rw [← unhide HW]; exact grown_alloc (grown_alloc (World.grownBy.refl _ _) _) _
  have b0 : W0.heap[w.heap.size]? = some (.cells X 71 (0, 0)) := by
    rw [← unhide HW]
    exact at_rowS (World.grownBy_alloc _ _ none) (heap_alloc_new w _) (by simp)
  have HB0 : Hid (W0.heap[w.heap.size + 1]? = some (.cells #[.slice none 0 0, .int .i64 fr, .int .i64 to, .int .i64 hi, .int .i64 lo] 38 (0, 0))) := by
    rw [← unhide HW]
    have := heap_alloc_new (w.alloc (.cells X 71)) (.cells #[.slice none 0 0, .int .i64 fr, .int .i64 to, .int .i64 hi, .int .i64 lo] 38)
    unfold Hid
    simpa using this
  have c4 : W0.cell? ⟨w.heap.size, 4, none⟩ = some (.int .i64 n) := by rw [cell_of_row W0 _ 4 _ _ (0, 0) b0]; exact hX.c4
  have HO0 : Hid (W0.ownsRow (w.heap.size + 2) 3 1 (.slice none 0 0) ((allC n).take 0).length (((allC n).take 0).map (Value.int .i64))) := ⟨rfl, .inl ⟨rfl, rfl⟩⟩
  rw [← unhide HW] at c4
  clear b0 hX
  go_enter Try.func69, Try.ntmps69
  go_wp2
  rw [unhide HW]
  clear HW c4
  go_loopw [8] (fun iv wr => ∃ (k : Nat) (vo : Option Addr) (vc : Nat), k ≤ n ∧ iv = .int .i64 k ∧ Hid (wr.heap[w.heap.size + 1]? = some (.cells #[.slice vo k vc, .int .i64 fr, .int .i64 to, .int .i64 hi, .int .i64 lo] 38 (0, 0))) ∧ Hid (wr.ownsRow (w.heap.size + 2) 3 1 (.slice vo k vc) ((allC n).take k).length (((allC n).take k).map (Value.int .i64))) ∧ Hid (w.grownBy wr none)) (fun iv _ => n - (intOf iv).toNat)
  case atStart => exact ⟨0, none, 0, Nat.zero_le _, rfl, HB0, HO0, HG0⟩
  case round =>
    clear HB0 HO0 HG0
    obtain ⟨k, vo, vc, hk, rfl, hB, hO, hG⟩ := hrel
    obtain ⟨c0, c1, c2, c3, c4⟩ := scanCells (unhide hB)
    have hws := (Array.getElem?_eq_some_iff.1 (unhide hB)).1
    by_cases hlt : k < n
    · have hd : decide ((k : Int) < (n : Int)) = true := decide_eq_true (by omega)
      have hli : ((allC n).take k).length = k := by simp [allC]; omega
      obtain ⟨T, HTT⟩ : ∃ T, Hid ((allC n).take k = T) := ⟨_, rfl⟩
      obtain ⟨R, HRR⟩ : ∃ R, Hid ((allC n).take (k + 1) = R) := ⟨_, rfl⟩
      rw [unhide HTT] at hO hli
      have HLI := hide hli
      have HNX : Hid (T ++ [(k : Int)] = R) := by unfold Hid; rw [← unhide HTT, ← unhide HRR]; exact allC_next n k hlt
      have HLR : Hid (R.length = k + 1) := by unfold Hid; rw [← unhide HRR]; simp [allC]; omega
      clear hli
      go_wp2_with (at_builtin; refine append_intS rfl _ _ rfl (w.heap.size + 2) (.slice vo k vc) T rfl (unhide hO) (k : Int) rfl (by rw [unhide HLI]; omega) (by omega) R (unhide HNX) ?_)
      intro v5 w5 o5 g5 hat5
      have hB5 := at_rowS g5 (unhide hB) (fun e => by have := ((unhide hO).lt _ e).1; omega)
      have HG5 := hide (grown_new (unhide hG) g5 (fun q e => by have := ((unhide hO).lt _ e).1; omega))
      have o5' := o5
      rw [unhide HLR] at o5'
      obtain ⟨ao5, ac5, rfl⟩ := own_form o5'
      clear o5' hat5 g5 c0 c1 c2 c3 c4
      obtain ⟨c0, c1, c2, c3, c4⟩ := scanCells hB5
      have f0 := frozen_of_row w5 (w.heap.size + 1) 0 _ _ hB5
      have HB6 := hide (heap_setCell_same w5 (w.heap.size + 1) 0 _ _ (.slice ao5 (k + 1) ac5) hB5)
      have HG6 := hide (grown_new (unhide HG5) (grown_set w5 (w.heap.size + 1) 0 (.slice ao5 (k + 1) ac5)) (fun q e => by injection e with e; omega))
      have HO6 : Hid ((w5.setCell ⟨w.heap.size + 1, 0, none⟩ (.slice ao5 (k + 1) ac5)).ownsRow (w.heap.size + 2) 3 1 (.slice ao5 (k + 1) ac5) ((allC n).take (k + 1)).length (((allC n).take (k + 1)).map (Value.int .i64))) := by
        unfold Hid
        rw [unhide HRR]
        exact own_beneath o5 (grown_set w5 (w.heap.size + 1) 0 (.slice ao5 (k + 1) ac5)) (fun p q h1 h2 e => by have := (o5.lt p h1).1; injection h2 with h2; omega)
      clear hB5 o5 hO hB hG HG5 HNX HLR HTT HLI
      go_wp2
      go_roundw
      case rel => exact ⟨k + 1, ao5, ac5, by omega, by go_num, HB6, HO6, HG6⟩
      case measure => simp [intOf]; omega
    · obtain rfl : n = k := by omega
      have hd : decide ((n : Int) < (n : Int)) = false := decide_eq_false (by omega)
      have hta : (allC n).take n = allC n := List.take_of_length_le (by simp [allC])
      rw [hta] at hO
      have HR3 : Hid (∃ F, OwSs (wr.alloc (.cells #[.slice vo n vc, .int .i64 fr, .int .i64 to, .int .i64 hi, .int .i64 lo] 38)) (.slice (some ⟨wr.heap.size, 0, none⟩) 1 1) [⟨allC n, fr, to, hi, lo⟩] F ∧ F.Nodup ∧ (∀ g ∈ F, w.heap.size ≤ g) ∧ w.grownBy (wr.alloc (.cells #[.slice vo n vc, .int .i64 fr, .int .i64 to, .int .i64 hi, .int .i64 lo] 38)) none) := by
        refine ⟨[wr.heap.size] ++ [blk (.slice vo n vc)].flatten, ⟨fun _ => five (.slice vo n vc) (.int .i64 fr) (.int .i64 to) (.int .i64 hi) (.int .i64 lo), [blk (.slice vo n vc)], rfl, World.ownsRow_lit wr #[.slice vo n vc, .int .i64 fr, .int .i64 to, .int .i64 hi, .int .i64 lo] 1 (Nat.zero_le _) (by unfold maxLen; omega) rfl, fun i hi => ?_, rfl⟩, ?_, fun g hg => ?_, grown_alloc (unhide hG) _⟩
        · obtain rfl : i = 0 := by simpa using hi
          exact ⟨⟨rfl, rfl, rfl, rfl⟩, own_base ((unhide hO).alloc _) (Nat.zero_le _), rfl⟩
        · simp only [List.flatten_cons, List.flatten_nil, List.append_nil, List.singleton_append, List.nodup_cons]
          exact ⟨fun h => by have := ((unhide hO).lt _ (mem_blk.1 h)).2; omega, blk_nodup _⟩
        · simp only [List.flatten_cons, List.flatten_nil, List.append_nil, List.singleton_append, List.mem_cons] at hg
          rcases hg with rfl | hg
          · omega
          · have := ((unhide hO).lt _ (mem_blk.1 hg)).1; omega
      clear hta hO hB hG
      go_wp2
      go_ret
      obtain ⟨F, h⟩ := unhide HR3
      exact ⟨_, F, rfl, h⟩

end Go.Proofs.Ytnjcmlmgjoaeeaa
