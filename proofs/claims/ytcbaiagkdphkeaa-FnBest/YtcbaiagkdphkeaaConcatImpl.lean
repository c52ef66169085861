/-
  slices.Concat of two rows of numbers, in the program.
-/
import Derived.Test.YtcbaiagkdphkeaaAppRdI
import Derived.Test.YtcbaiagkdphkeaaKit
import Derived.Lib.AppendZerosOnto
import Derived.Lib.Walk
namespace Go.Proofs.Ytcbaiagkdphkeaa
open Go.RowKit

set_option maxHeartbeats 1600000 in
theorem implGrow (k : Nat) (hk : 0 < k) (hk2 : k ≤ 1000000) (w : World) :
    Calls Try.prog 73 #[.slice none 0 0, .int .i64 k] w fun e w' => ∃ so sc, e = .returned (.slice so 0 sc) ∧ w'.ownsRow w.heap.size 3 1 (.slice so 0 sc) 0 [] ∧ w.grownBy w' none := by
  obtain ⟨i0, hi, hz0, hz1, hz2⟩ := info_parts info_i9
  have hold : (Builtin.firstCells i0.size 0 (.slice none 0 0)).run Try.prog w.drew = .ok ([] : List Value).toArray w.drew := run_firstCells_none w.drew i0.size 0 0 0
  have hrz : ∀ ty, (Builtin.append_ #[24, 3] ty #[.slice none 0 0, .int .i64 (k : Int)]).run Try.prog w =
      .ok (.slice (some ⟨w.heap.size, 0, none⟩) k (grownCap w k 0 3)) (w.drew.alloc (.cells (([] : List Value).toArray ++ Builtin.zeroCells (Value.int .i64 0).cells k ++ Builtin.zeroCells (Value.int .i64 0).cells (grownCap w k 0 3 - k)) 3)) := fun ty => by
    have h := Lib.run_append_grow_zeros w 24 3 ty 3 i0 (.int .i64 0) .i64 .i64 Try.underlying24 Try.underlying3 hi hz0 none 0 0 [] hold k hk (by rw [hz1]; omega) (by omega) (by omega) (by rw [hz2]; omega) (by rw [hz2]; exact growslice_fits (by omega) (by omega))
    simpa using h
  have hge := grownCap_ge w k 0 3
  have hle := grownCap_le_maxLen w k 0 3 (by unfold maxLen; omega)
  obtain ⟨G, hG⟩ : ∃ G, G = grownCap w k 0 3 := ⟨_, rfl⟩
  rw [← hG] at hrz hge hle
  unfold maxLen at hle
  obtain ⟨cs, hcs⟩ : ∃ cs, ([] : List Value).toArray ++ Builtin.zeroCells (Value.int .i64 0).cells k ++ Builtin.zeroCells (Value.int .i64 0).cells (G - k) = cs := ⟨_, rfl⟩
  have hsz : cs.size = G * 1 := by rw [← hcs]; simp [size_zeroCells, Value.cells]; omega
  rw [hcs] at hrz
  have HF : Hid ((w.drew.alloc (.cells cs 3)).ownsRow w.heap.size 3 1 (.slice (some ⟨w.heap.size, 0, none⟩) 0 G) 0 [] ∧ w.grownBy (w.drew.alloc (.cells cs 3)) none) := by
    refine ⟨⟨by simp, .inr ⟨w.heap.size, G, cs, rfl, Nat.le_refl _, heap_alloc_new w.drew _, by omega, by unfold maxLen; omega, hsz, by simp⟩⟩, grown_alloc (grown_drew (World.grownBy.refl _ _)) _⟩
  have hG0 : ¬ G = 0 := by omega
  have h1 : ¬ ((k : Int) < 0) := by omega
  have h4 : (0 : Int) < (k : Int) := by omega
  have e1 := i64_in ((k : Int)) (by omega)
  clear hold hG hcs hsz hi hz0 hz1 hz2
  go_enter Try.func73, Try.ntmps73
  go_wp2_with (at_builtin; refine Lib.wpList_append_run _ rfl _ _ _ _ rfl _ _ rfl rfl _ _ (hrz _) ?_)
  go_ret
  exact ⟨_, _, rfl, (unhide HF).1, (unhide HF).2⟩

set_option maxRecDepth 20000 in
set_option maxHeartbeats 3200000 in
theorem implConcat (g n ca m cb : Nat) (a b : Option Addr) (xs ys : List Int) (w : World) (c0 : w.cell? ⟨g, 0, none⟩ = some (.slice a n ca)) (c1 : w.cell? ⟨g, 1, none⟩ = some (.slice b m cb)) (hx : Rd .i64 w a n xs) (hy : Rd .i64 w b m ys) (hn : 0 < n ∧ n ≤ 400000) (hm : 0 < m ∧ m ≤ 400000) (R : List Int) (HR : Hid (xs ++ ys = R)) :
    Calls Try.prog 67 #[.slice (some ⟨g, 0, none⟩) 2 2] w fun e w' => ∃ so sc, e = .returned (.slice so R.length sc) ∧ w'.ownsRow w.heap.size 3 1 (.slice so R.length sc) R.length (R.map (Value.int .i64)) ∧ w.grownBy w' none := by
  obtain ⟨ab, aof, ea, -⟩ := hx.2 0 hn.1
  obtain ⟨bb, bof, eb, -⟩ := hy.2 0 hm.1
  have HRL : Hid (R.length = n + m) := by unfold Hid; rw [← unhide HR, List.length_append, hx.1, hy.1]
  have HXL := hide hx.1
  have HX := hide hx
  have HY := hide hy
  subst ea eb
  clear hx hy
  have e1 := i64_in ((n : Int)) (by omega)
  have e2 := i64_in ((n : Int) + (m : Int)) (by omega)
  have h1 : decide ((n : Int) < 0) = false := decide_eq_false (by omega)
  have h2 : decide ((n : Int) + (m : Int) < 0) = false := decide_eq_false (by omega)
  go_enter Try.func67, Try.ntmps67
  go_wp2
  go_loopw [3, 11] (fun s i wr => ((i = .int .i64 0 ∧ s = .int .i64 0) ∨ (i = .int .i64 1 ∧ s = .int .i64 n) ∨ (i = .int .i64 2 ∧ s = .int .i64 ((n : Int) + (m : Int)))) ∧ wr = w) (fun _ i _ => 2 - (intOf i).toNat)
  case atStart => exact ⟨.inl ⟨rfl, rfl⟩, rfl⟩
  case round =>
    obtain ⟨⟨rfl, rfl⟩ | ⟨rfl, rfl⟩ | ⟨rfl, rfl⟩, rfl⟩ := hrel
    · go_wp2
      go_roundw
      case rel => exact ⟨.inr (.inl ⟨rfl, rfl⟩), trivial⟩
      case measure => simp [intOf]
    · go_wp2
      go_roundw
      case rel => exact ⟨.inr (.inr ⟨rfl, rfl⟩), trivial⟩
      case measure => simp [intOf]
    · obtain ⟨wo, rfl⟩ : ∃ wo, wo = wr := ⟨wr, rfl⟩
      have hG := implGrow (n + m) (by omega) (by omega) wo
      rw [show ((n + m : Nat) : Int) = (n : Int) + (m : Int) by omega] at hG
      have HG := hide hG
      clear hG
      go_wp2_with fail
      refine (unhide HG).mono ?_
      rintro e w1 ⟨so, sc, rfl, o1, g1⟩
      have k0 := g1.cell c0 (by simp)
      have k1 := g1.cell c1 (by simp)
      have HO1 : Hid (w1.ownsRow wo.heap.size 3 1 (.slice so 0 sc) ([] : List Int).length (([] : List Int).map (Value.int .i64))) := o1
      have HG1 := hide g1
      clear o1 g1 HG
      go_wp2
      go_loopw [6, 27] (fun v i wq => ∃ (acc : List Int), ((i = .int .i64 0 ∧ acc = []) ∨ (i = .int .i64 1 ∧ acc = xs) ∨ (i = .int .i64 2 ∧ acc = R)) ∧ Hid (wq.ownsRow wo.heap.size 3 1 v acc.length (acc.map (Value.int .i64))) ∧ Hid (wo.grownBy wq none)) (fun _ i _ => 2 - (intOf i).toNat)
      case atStart => exact ⟨[], .inl ⟨rfl, rfl⟩, HO1, HG1⟩
      case round =>
        clear HO1 HG1 k0 k1
        obtain ⟨acc, hacc, ho, hg⟩ := hrel
        have k0 := (unhide hg).cell c0 (by simp)
        have k1 := (unhide hg).cell c1 (by simp)
        have HBS := hide (unhide hg).size
        rcases hacc with ⟨rfl, rfl⟩ | ⟨rfl, rfl⟩ | ⟨rfl, rfl⟩
        · have hR1 : ([] : List Int) ++ xs = xs := rfl
          obtain ⟨uo, uc, rfl⟩ := own_form (unhide ho)
          go_wp2_with (at_builtin; refine append_rdI rfl _ _ rfl wo.heap.size (.slice uo ([] : List Int).length uc) [] rfl (unhide ho) _ n ca xs rfl ((unhide HX).grown (unhide hg)) (by simp; omega) (unhide HBS) xs hR1 ?_)
          intro v2 w2 o2 g2
          have HO2 := hide o2
          have HG2 := hide (grown_new (unhide hg) g2 (fun q e => ((unhide ho).lt q e).1))
          clear o2 g2 ho hg k0 k1
          go_wp2
          go_roundw
          case rel => exact ⟨xs, .inr (.inl ⟨rfl, rfl⟩), HO2, HG2⟩
          case measure => simp [intOf]
        · obtain ⟨uo, uc, rfl⟩ := own_form (unhide ho)
          have hbd : acc.length + m ≤ 1000000 := by rw [unhide HXL]; omega
          have HBD := hide hbd
          clear hbd
          go_wp2_with (at_builtin; refine append_rdI rfl _ _ rfl wo.heap.size (.slice uo acc.length uc) acc rfl (unhide ho) _ m cb ys rfl ((unhide HY).grown (unhide hg)) (unhide HBD) (unhide HBS) R (unhide HR) ?_)
          intro v2 w2 o2 g2
          have HO2 := hide o2
          have HG2 := hide (grown_new (unhide hg) g2 (fun q e => ((unhide ho).lt q e).1))
          clear o2 g2 ho hg k0 k1
          go_wp2
          go_roundw
          case rel => exact ⟨R, .inr (.inr ⟨rfl, rfl⟩), HO2, HG2⟩
          case measure => simp [intOf]
        · obtain ⟨uo, uc, rfl⟩ := own_form (unhide ho)
          go_wp2
          go_ret
          exact ⟨uo, uc, rfl, unhide ho, unhide hg⟩

end Go.Proofs.Ytcbaiagkdphkeaa
