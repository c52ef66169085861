/-
  Plain tables, in the program and in the specification.
-/
import Derived.Test.YtoeehfjbnbbijabTabSpec
import Derived.Test.YtoeehfjbnbbijabFrameImpl
namespace Go.Proofs.Ytoeehfjbnbbijab
open Go.RowKit Go.Shelf

/-- The tables' first steps and rises, kind by kind. -/
def pkL : List Int := [8, 3, 10, 6, 8, 0, 1, 0]
def pk (i : Nat) : Int := pkL.getD i 0
def plainF (kind k : Nat) : Int := pk (kind * 2) + pk (kind * 2 + 1) * (((k / 8 + k % 8 : Nat)) : Int)
def plainL (kind : Nat) : List Int := made (plainF kind)
def pkCells : Array Value := #[.int .i64 8, .int .i64 3, .int .i64 10, .int .i64 6, .int .i64 8, .int .i64 0, .int .i64 1, .int .i64 0]
theorem pk_in : ∀ i, i < 8 → 0 ≤ pk i ∧ pk i ≤ 10 := by decide

/-- What Plain answers. -/
def plainA (kind : Int) : List Int := if 0 ≤ kind ∧ kind ≤ 3 then plainL kind.toNat else []

set_option maxRecDepth 20000 in
set_option maxHeartbeats 1600000 in
theorem specPlain (kind : Int) (w : World) (L : List Int) (HL : Hid (plainA kind = L)) :
    Calls Try.prog 42 #[.int .i64 kind] w fun e w' => ∃ so sc, e = .returned (.slice so L.length sc) ∧ w'.ownsRow w.heap.size 3 1 (.slice so L.length sc) L.length (L.map (Value.int .i64)) ∧ w.grownBy w' none := by
  have HO : Hid ((w.alloc (.cells #[] 3)).ownsRow w.heap.size 3 1 (.slice (some ⟨w.heap.size, 0, none⟩) 0 0) 0 []) := World.ownsRow_lit w #[] 0 (Nat.le_refl _) (by unfold maxLen; omega) rfl
  by_cases hk : 0 ≤ kind ∧ kind ≤ 3
  · obtain ⟨j, rfl⟩ : ∃ j : Nat, kind = j := ⟨kind.toNat, by omega⟩
    have hj : j < 4 := by omega
    have hjI : (j : Int) < 4 := by omega
    have e : L = plainL j := by rw [← unhide HL, plainA, if_pos hk, Int.toNat_natCast]
    subst e
    clear HL
    have HLL : Hid ((plainL j).length = 64) := made_len _
    go_enter Try.func42, Try.ntmps42
    go_wp2
    go_loopw [3, 4] (fun o i wr => ∃ k : Nat, k ≤ 64 ∧ i = .int .i64 k ∧ Hid (wr.ownsRow w.heap.size 3 1 o k (((plainL j).take k).map (Value.int .i64))) ∧ Hid (w.grownBy wr none)) (fun _ i _ => 64 - (intOf i).toNat)
    case atStart => exact ⟨0, Nat.zero_le _, rfl, unhide HO, World.grownBy_alloc _ _ _⟩
    case round =>
      obtain ⟨k, hk2, rfl, hM, hgk⟩ := hrel
      obtain ⟨so, sc, rfl⟩ := own_form (unhide hM)
      by_cases hlt : k < 64
      · have hd : decide ((k : Int) < 64) = true := by simp; omega
        have hkm : (k : Int).tmod 8 = (k : Int) % 8 := Int.tmod_eq_emod_of_nonneg (by omega)
        obtain ⟨t, ht⟩ : ∃ t : Nat, k / 8 + k % 8 = t := ⟨_, rfl⟩
        have htI : (k : Int) / 8 + (k : Int) % 8 = (t : Int) := by omega
        have ht14 : t ≤ 14 := by omega
        have e1 := i64_in ((t : Int)) (by omega)
        have e2 := i64_in (3 * (t : Int)) (by omega)
        have e3 := i64_in (8 + 3 * (t : Int)) (by omega)
        have e4 := i64_in (6 * (t : Int)) (by omega)
        have e5 := i64_in (10 + 6 * (t : Int)) (by omega)
        have HCL : Hid ((wr.alloc (.cells #[.int .i64 (8 + 3 * (t : Int)), .int .i64 (10 + 6 * (t : Int)), .int .i64 8, .int .i64 1] 3)).cell? ⟨wr.heap.size, j, none⟩ = some (.int .i64 (plainF j k))) := by
          unfold Hid
          rw [cell_of_row _ _ j _ _ (0, 0) (heap_alloc_new wr _)]
          unfold plainF
          rw [ht]
          have : j = 0 ∨ j = 1 ∨ j = 2 ∨ j = 3 := by omega
          rcases this with rfl | rfl | rfl | rfl
          · rfl
          · rfl
          · show some (Value.int .i64 8) = some (.int .i64 (8 + 0 * (t : Int))); rw [Int.zero_mul]; rfl
          · show some (Value.int .i64 1) = some (.int .i64 (1 + 0 * (t : Int))); rw [Int.zero_mul]; rfl
        have HV : Hid (∀ z, z = plainF j k → (plainL j).take k ++ [z] = (plainL j).take (k + 1)) := fun z hz => made_take (plainF j) k hlt z hz
        have HM := hide ((unhide hM).alloc (.cells #[.int .i64 (8 + 3 * (t : Int)), .int .i64 (10 + 6 * (t : Int)), .int .i64 8, .int .i64 1] 3))
        have HG := hide (grown_alloc (unhide hgk) (.cells #[.int .i64 (8 + 3 * (t : Int)), .int .i64 (10 + 6 * (t : Int)), .int .i64 8, .int .i64 1] 3))
        clear ht hM hgk
        have hcl := unhide HCL
        generalize plainF j k = z at *
        go_wp2_with fail
        refine (between (j : Int) 0 3 true (by unfold Hid; simp; omega) wr).mono ?_
        rintro e w5 ⟨rfl, rfl⟩
        go_wp2_with (at_builtin; refine append_int rfl _ _ rfl w _ k ((plainL j).take k) rfl (unhide HM) z (by show Value.slice (some ⟨w5.heap.size + 1, 0, none⟩) 1 1 = _; simp) (by omega) (unhide HG) ?_; intro v' w' ho hg)
        go_roundw
        case rel =>
          refine ⟨k + 1, by omega, by go_num, ?_, hg⟩
          rw [unhide HV z rfl] at ho
          exact ho
        case measure => simp [intOf]; omega
      · obtain rfl : k = 64 := by omega
        have hM := unhide hM
        rw [List.take_of_length_le (by rw [unhide HLL]; omega)] at hM
        have HM := hide hM
        clear hM
        go_wp2
        go_ret
        refine ⟨so, sc, ?_, ?_, unhide hgk⟩
        · rw [unhide HLL]; rfl
        · rw [unhide HLL]; exact unhide HM
  · have e : L = [] := by rw [← unhide HL, plainA, if_neg hk]
    subst e
    go_enter Try.func42, Try.ntmps42
    go_wp2
    go_loopw [3, 4] (fun o i wr => o = .slice (some ⟨w.heap.size, 0, none⟩) 0 0 ∧ i = .int .i64 0 ∧ wr = w.alloc (.cells #[] 3)) (fun _ i _ => 64 - (intOf i).toNat)
    case atStart => exact ⟨rfl, rfl, rfl⟩
    case round =>
      obtain ⟨rfl, rfl, rfl⟩ := hrel
      go_wp2_with fail
      refine (between kind 0 3 false (by unfold Hid; simp; omega) _).mono ?_
      rintro e w5 ⟨rfl, rfl⟩
      go_wp2
      go_ret
      exact ⟨_, _, rfl, unhide HO, World.grownBy_alloc _ _ _⟩

end Go.Proofs.Ytoeehfjbnbbijab
