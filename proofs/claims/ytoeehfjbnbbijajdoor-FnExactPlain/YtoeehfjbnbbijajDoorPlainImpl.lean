/-
  Plain tables, in the program and in the specification.
-/
import Derived.Test.YtoeehfjbnbbijajDoorTabSpec
import Derived.Test.YtoeehfjbnbbijajDoorFrameImpl
namespace Go.Proofs.YtoeehfjbnbbijajDoor
open Go.RowKit Go.Shelf

/-- The tables' first steps and rises, kind by kind. -/
def pkL : List Int := [8, 3, 10, 6, 8, 0, 1, 0]
def pk (i : Nat) : Int := pkL.getD i 0
def plainF (kind k : Nat) : Int := pk (kind * 2) + pk (kind * 2 + 1) * (((k / 8 + k % 8 : Nat)) : Int)
def plainL (kind : Nat) : List Int := made (plainF kind)
def pkCells : Array Value := #[.int .i64 8, .int .i64 3, .int .i64 10, .int .i64 6, .int .i64 8, .int .i64 0, .int .i64 1, .int .i64 0]
theorem pk_in : ∀ i, i < 8 → 0 ≤ pk i ∧ pk i ≤ 10 := by decide

/-- The package's variable as the program's text lays it. -/
def Pk (w : World) : Prop := ∀ i, i < 8 → w.cell? ⟨0, i, none⟩ = some (.int .i64 (pk i))
theorem Pk.grown {w w' : World} (h : Pk w) (g : w.grownBy w' none) : Pk w' := fun i hi => g.cell (h i hi) (by simp)
theorem pk_cells : ∀ i, i < 8 → pkCells[i]? = some (.int .i64 (pk i)) := by
  intro i hi
  have : i = 0 ∨ i = 1 ∨ i = 2 ∨ i = 3 ∨ i = 4 ∨ i = 5 ∨ i = 6 ∨ i = 7 := by omega
  rcases this with rfl | rfl | rfl | rfl | rfl | rfl | rfl | rfl <;> rfl

set_option maxRecDepth 20000 in
set_option maxHeartbeats 1600000 in
theorem slopeTable (f r : Int) (hf : 0 ≤ f ∧ f ≤ 10) (hr : 0 ≤ r ∧ r ≤ 10) (F : Nat → Int) (HF : Hid (∀ k, F k = f + r * (((k / 8 + k % 8 : Nat)) : Int))) (w : World) :
    Calls Tryd.prog 11 #[.agg #[.int .i64 f, .int .i64 r]] w fun e w' => e = .returned (.agg (sq (made F))) ∧ w.grownBy w' none := by
  obtain ⟨W0, hW0⟩ : ∃ W0, ((w.alloc (.cells #[.int .i64 f, .int .i64 r] 31)).alloc (.cells #[.int .i64 0, .int .i64 0, .int .i64 0, .int .i64 0, .int .i64 0, .int .i64 0, .int .i64 0, .int .i64 0, .int .i64 0, .int .i64 0, .int .i64 0, .int .i64 0, .int .i64 0, .int .i64 0, .int .i64 0, .int .i64 0, .int .i64 0, .int .i64 0, .int .i64 0, .int .i64 0, .int .i64 0, .int .i64 0, .int .i64 0, .int .i64 0, .int .i64 0, .int .i64 0, .int .i64 0, .int .i64 0, .int .i64 0, .int .i64 0, .int .i64 0, .int .i64 0, .int .i64 0, .int .i64 0, .int .i64 0, .int .i64 0, .int .i64 0, .int .i64 0, .int .i64 0, .int .i64 0, .int .i64 0, .int .i64 0, .int .i64 0, .int .i64 0, .int .i64 0, .int .i64 0, .int .i64 0, .int .i64 0, .int .i64 0, .int .i64 0, .int .i64 0, .int .i64 0, .int .i64 0, .int .i64 0, .int .i64 0, .int .i64 0, .int .i64 0, .int .i64 0, .int .i64 0, .int .i64 0, .int .i64 0, .int .i64 0, .int .i64 0, .int .i64 0] 29)).alloc (.cells #[.int .i64 0, .int .i64 0, .int .i64 0, .int .i64 0, .int .i64 0, .int .i64 0, .int .i64 0, .int .i64 0, .int .i64 0, .int .i64 0, .int .i64 0, .int .i64 0, .int .i64 0, .int .i64 0, .int .i64 0, .int .i64 0, .int .i64 0, .int .i64 0, .int .i64 0, .int .i64 0, .int .i64 0, .int .i64 0, .int .i64 0, .int .i64 0, .int .i64 0, .int .i64 0, .int .i64 0, .int .i64 0, .int .i64 0, .int .i64 0, .int .i64 0, .int .i64 0, .int .i64 0, .int .i64 0, .int .i64 0, .int .i64 0, .int .i64 0, .int .i64 0, .int .i64 0, .int .i64 0, .int .i64 0, .int .i64 0, .int .i64 0, .int .i64 0, .int .i64 0, .int .i64 0, .int .i64 0, .int .i64 0, .int .i64 0, .int .i64 0, .int .i64 0, .int .i64 0, .int .i64 0, .int .i64 0, .int .i64 0, .int .i64 0, .int .i64 0, .int .i64 0, .int .i64 0, .int .i64 0, .int .i64 0, .int .i64 0, .int .i64 0, .int .i64 0] 29) = W0 := ⟨_, rfl⟩
  have G0 : w.grownBy W0 none := by rw [← hW0]; exact grown_alloc (grown_alloc (World.grownBy_alloc _ _ _) _) _
  have b0 : W0.heap[w.heap.size]? = some (.cells #[.int .i64 f, .int .i64 r] 31 (0, 0)) := by rw [← hW0, Below.heap_alloc _ _ _ (by simp; omega), Below.heap_alloc _ _ _ (by simp)]; exact heap_alloc_new w _
  have b1 : W0.heap[w.heap.size + 1]? = some (.cells (sq zs64) 29 (0, 0)) := by
    rw [← hW0, Below.heap_alloc _ _ _ (by simp), sq_z64]
    have := heap_alloc_new (w.alloc (.cells #[.int .i64 f, .int .i64 r] 31)) (.cells #[.int .i64 0, .int .i64 0, .int .i64 0, .int .i64 0, .int .i64 0, .int .i64 0, .int .i64 0, .int .i64 0, .int .i64 0, .int .i64 0, .int .i64 0, .int .i64 0, .int .i64 0, .int .i64 0, .int .i64 0, .int .i64 0, .int .i64 0, .int .i64 0, .int .i64 0, .int .i64 0, .int .i64 0, .int .i64 0, .int .i64 0, .int .i64 0, .int .i64 0, .int .i64 0, .int .i64 0, .int .i64 0, .int .i64 0, .int .i64 0, .int .i64 0, .int .i64 0, .int .i64 0, .int .i64 0, .int .i64 0, .int .i64 0, .int .i64 0, .int .i64 0, .int .i64 0, .int .i64 0, .int .i64 0, .int .i64 0, .int .i64 0, .int .i64 0, .int .i64 0, .int .i64 0, .int .i64 0, .int .i64 0, .int .i64 0, .int .i64 0, .int .i64 0, .int .i64 0, .int .i64 0, .int .i64 0, .int .i64 0, .int .i64 0, .int .i64 0, .int .i64 0, .int .i64 0, .int .i64 0, .int .i64 0, .int .i64 0, .int .i64 0, .int .i64 0] 29)
    simpa using this
  have b2 : W0.heap[w.heap.size + 2]? = some (.cells #[.int .i64 0, .int .i64 0, .int .i64 0, .int .i64 0, .int .i64 0, .int .i64 0, .int .i64 0, .int .i64 0, .int .i64 0, .int .i64 0, .int .i64 0, .int .i64 0, .int .i64 0, .int .i64 0, .int .i64 0, .int .i64 0, .int .i64 0, .int .i64 0, .int .i64 0, .int .i64 0, .int .i64 0, .int .i64 0, .int .i64 0, .int .i64 0, .int .i64 0, .int .i64 0, .int .i64 0, .int .i64 0, .int .i64 0, .int .i64 0, .int .i64 0, .int .i64 0, .int .i64 0, .int .i64 0, .int .i64 0, .int .i64 0, .int .i64 0, .int .i64 0, .int .i64 0, .int .i64 0, .int .i64 0, .int .i64 0, .int .i64 0, .int .i64 0, .int .i64 0, .int .i64 0, .int .i64 0, .int .i64 0, .int .i64 0, .int .i64 0, .int .i64 0, .int .i64 0, .int .i64 0, .int .i64 0, .int .i64 0, .int .i64 0, .int .i64 0, .int .i64 0, .int .i64 0, .int .i64 0, .int .i64 0, .int .i64 0, .int .i64 0, .int .i64 0] 29 (0, 0)) := by
    rw [← hW0]
    have := heap_alloc_new ((w.alloc (.cells #[.int .i64 f, .int .i64 r] 31)).alloc (.cells #[.int .i64 0, .int .i64 0, .int .i64 0, .int .i64 0, .int .i64 0, .int .i64 0, .int .i64 0, .int .i64 0, .int .i64 0, .int .i64 0, .int .i64 0, .int .i64 0, .int .i64 0, .int .i64 0, .int .i64 0, .int .i64 0, .int .i64 0, .int .i64 0, .int .i64 0, .int .i64 0, .int .i64 0, .int .i64 0, .int .i64 0, .int .i64 0, .int .i64 0, .int .i64 0, .int .i64 0, .int .i64 0, .int .i64 0, .int .i64 0, .int .i64 0, .int .i64 0, .int .i64 0, .int .i64 0, .int .i64 0, .int .i64 0, .int .i64 0, .int .i64 0, .int .i64 0, .int .i64 0, .int .i64 0, .int .i64 0, .int .i64 0, .int .i64 0, .int .i64 0, .int .i64 0, .int .i64 0, .int .i64 0, .int .i64 0, .int .i64 0, .int .i64 0, .int .i64 0, .int .i64 0, .int .i64 0, .int .i64 0, .int .i64 0, .int .i64 0, .int .i64 0, .int .i64 0, .int .i64 0, .int .i64 0, .int .i64 0, .int .i64 0, .int .i64 0] 29)) (.cells #[.int .i64 0, .int .i64 0, .int .i64 0, .int .i64 0, .int .i64 0, .int .i64 0, .int .i64 0, .int .i64 0, .int .i64 0, .int .i64 0, .int .i64 0, .int .i64 0, .int .i64 0, .int .i64 0, .int .i64 0, .int .i64 0, .int .i64 0, .int .i64 0, .int .i64 0, .int .i64 0, .int .i64 0, .int .i64 0, .int .i64 0, .int .i64 0, .int .i64 0, .int .i64 0, .int .i64 0, .int .i64 0, .int .i64 0, .int .i64 0, .int .i64 0, .int .i64 0, .int .i64 0, .int .i64 0, .int .i64 0, .int .i64 0, .int .i64 0, .int .i64 0, .int .i64 0, .int .i64 0, .int .i64 0, .int .i64 0, .int .i64 0, .int .i64 0, .int .i64 0, .int .i64 0, .int .i64 0, .int .i64 0, .int .i64 0, .int .i64 0, .int .i64 0, .int .i64 0, .int .i64 0, .int .i64 0, .int .i64 0, .int .i64 0, .int .i64 0, .int .i64 0, .int .i64 0, .int .i64 0, .int .i64 0, .int .i64 0, .int .i64 0, .int .i64 0] 29)
    simpa using this
  have s0 : W0.heap.size = w.heap.size + 3 := by rw [← hW0]; simp
  have HW := hide hW0
  have B0 := hide b0
  have B1 := hide b1
  have B2 := hide b2
  have HG0 := hide G0
  clear hW0 b0 b1 b2 G0
  go_enter Tryd.func11, Tryd.ntmps11
  go_wp2_with (rw [unhide HW]; clear HW; refine store_row rfl 29 _ _ rfl (w.heap.size + 2) rfl #[.int .i64 0, .int .i64 0, .int .i64 0, .int .i64 0, .int .i64 0, .int .i64 0, .int .i64 0, .int .i64 0, .int .i64 0, .int .i64 0, .int .i64 0, .int .i64 0, .int .i64 0, .int .i64 0, .int .i64 0, .int .i64 0, .int .i64 0, .int .i64 0, .int .i64 0, .int .i64 0, .int .i64 0, .int .i64 0, .int .i64 0, .int .i64 0, .int .i64 0, .int .i64 0, .int .i64 0, .int .i64 0, .int .i64 0, .int .i64 0, .int .i64 0, .int .i64 0, .int .i64 0, .int .i64 0, .int .i64 0, .int .i64 0, .int .i64 0, .int .i64 0, .int .i64 0, .int .i64 0, .int .i64 0, .int .i64 0, .int .i64 0, .int .i64 0, .int .i64 0, .int .i64 0, .int .i64 0, .int .i64 0, .int .i64 0, .int .i64 0, .int .i64 0, .int .i64 0, .int .i64 0, .int .i64 0, .int .i64 0, .int .i64 0, .int .i64 0, .int .i64 0, .int .i64 0, .int .i64 0, .int .i64 0, .int .i64 0, .int .i64 0, .int .i64 0] rfl #[.int .i64 0, .int .i64 0, .int .i64 0, .int .i64 0, .int .i64 0, .int .i64 0, .int .i64 0, .int .i64 0, .int .i64 0, .int .i64 0, .int .i64 0, .int .i64 0, .int .i64 0, .int .i64 0, .int .i64 0, .int .i64 0, .int .i64 0, .int .i64 0, .int .i64 0, .int .i64 0, .int .i64 0, .int .i64 0, .int .i64 0, .int .i64 0, .int .i64 0, .int .i64 0, .int .i64 0, .int .i64 0, .int .i64 0, .int .i64 0, .int .i64 0, .int .i64 0, .int .i64 0, .int .i64 0, .int .i64 0, .int .i64 0, .int .i64 0, .int .i64 0, .int .i64 0, .int .i64 0, .int .i64 0, .int .i64 0, .int .i64 0, .int .i64 0, .int .i64 0, .int .i64 0, .int .i64 0, .int .i64 0, .int .i64 0, .int .i64 0, .int .i64 0, .int .i64 0, .int .i64 0, .int .i64 0, .int .i64 0, .int .i64 0, .int .i64 0, .int .i64 0, .int .i64 0, .int .i64 0, .int .i64 0, .int .i64 0, .int .i64 0, .int .i64 0] 29 (unhide B2) rfl (by kernel_rfl) (by rw [← sq_z64]; exact sq_one _) ?_; intro w3 hB3 g3; rw [← sq_z64] at hB3)
  have s3 := g3.size
  have HR3 := hide ((g3.block (w.heap.size + 1) (by omega) (by simp)).trans (unhide B1))
  have HS3 := hide ((g3.block w.heap.size (by omega) (by simp)).trans (unhide B0))
  have HG3 : Hid (w.grownBy w3 none) := grown_new (unhide HG0) g3 (fun g e => by simp at e; omega)
  have HB3 := hide hB3
  clear hB3 g3
  go_loopw [6] (fun i wr => ∃ k : Nat, k ≤ 64 ∧ i = .int .i64 k ∧ Hid (wr.heap[w.heap.size + 2]? = some (.cells (sq (mix F zs64 k)) 29 (0, 0))) ∧ Hid (w3.grownBy wr (some (w.heap.size + 2)))) (fun i _ => 64 - (intOf i).toNat)
  case atStart => exact ⟨0, Nat.zero_le _, rfl, by unfold Hid; rw [mix_zero]; exact unhide HB3, World.grownBy.refl _ _⟩
  case round =>
    obtain ⟨k, hk, rfl, hM, hgk⟩ := hrel
    by_cases hlt : k < 64
    · have hlen : (mix F zs64 k).length = 64 := (mix_len F zs64 _ (by rw [zs64_len]; omega)).trans zs64_len
      have cM := sq_cell (unhide hM) k (by omega)
      have fM := sq_frozen (unhide hM) k
      have hS := ((unhide hgk).block w.heap.size (by omega) (by simp)).trans (unhide HS3)
      have c0 : wr.cell? ⟨w.heap.size, 0, none⟩ = some (.int .i64 f) := by rw [cell_of_row wr _ 0 _ _ (0, 0) hS]; rfl
      have c1 : wr.cell? ⟨w.heap.size, 1, none⟩ = some (.int .i64 r) := by rw [cell_of_row wr _ 1 _ _ (0, 0) hS]; rfl
      obtain ⟨t, ht⟩ : ∃ t : Nat, k / 8 + k % 8 = t := ⟨_, rfl⟩
      have htI : (k : Int) / 8 + (k : Int) % 8 = (t : Int) := by omega
      have hkm : (k : Int).tmod 8 = (k : Int) % 8 := Int.tmod_eq_emod_of_nonneg (by omega)
      have ht14 : t ≤ 14 := by omega
      have hp : 0 ≤ r * (t : Int) ∧ r * (t : Int) ≤ 140 := by
        constructor
        · exact Int.mul_nonneg (by omega) (by omega)
        · have h1 : r * (t : Int) ≤ 10 * 14 := Int.mul_le_mul hr.2 (by omega) (by omega) (by omega)
          omega
      have e1 := i64_in ((t : Int)) (by omega)
      have e2 := i64_in (r * (t : Int)) (by omega)
      have e3 := i64_in (f + r * (t : Int)) (by omega)
      have HSET : Hid (∀ v, v = f + r * (t : Int) → (wr.setCell ⟨w.heap.size + 2, k, none⟩ (.int .i64 v)).heap[w.heap.size + 2]? = some (.cells (sq (mix F zs64 (k + 1))) 29 (0, 0)) ∧ w3.grownBy (wr.setCell ⟨w.heap.size + 2, k, none⟩ (.int .i64 v)) (some (w.heap.size + 2))) := by
        rintro v rfl
        refine ⟨?_, grown_trans (unhide hgk) (grown_set wr _ _ _)⟩
        rw [heap_setCell_same wr (w.heap.size + 2) _ _ _ _ (unhide hM)]
        have hv : f + r * (t : Int) = F k := by rw [unhide HF k, ht]
        rw [hv, mix_set F zs64 k (by rw [zs64_len]; omega)]
      clear hS hlen hM ht
      go_wp2
      go_roundw
      case rel => exact ⟨k + 1, by omega, by go_num, (unhide HSET _ rfl).1, (unhide HSET _ rfl).2⟩
      case measure => simp [intOf]; omega
    · obtain rfl : k = 64 := by omega
      have hM := unhide hM
      rw [mix_all _ zs64 zs64_len] at hM
      have HM := hide hM
      have HBR := hide (((unhide hgk).block (w.heap.size + 1) (by omega) (by simp)).trans (unhide HR3))
      have HMS : Hid ((sq (made F)).size = 64) := by unfold Hid; rw [sq_size, made_len]
      have HGF : Hid (w.grownBy wr none) := grown_new (unhide HG3) (unhide hgk) (fun g e => by simp at e; omega)
      clear hM hgk
      go_wp2_with (first | (refine load_row rfl 29 _ rfl (w.heap.size + 2) rfl (sq (made F)) 29 (unhide HM) _ Tryd.underlying29 rfl (by rw [unhide HMS]; kernel_rfl) ?_) | (refine store_row rfl 29 _ _ rfl (w.heap.size + 1) rfl (sq (made F)) rfl (sq zs64) 29 (unhide HBR) (by rw [unhide HMS, sq_size, zs64_len]) (by rw [unhide HMS]; kernel_rfl) (sq_one _) ?_; intro w6 hB6 g6))
      refine bodyPost_ret (v := .agg (sq (made F))) ?_ rfl ⟨rfl, ?_⟩
      · rw [results_c1 rfl]
        exact run_loadVar_row w6 _ 29 29 _ (0, 0) _ hB6 Tryd.underlying29 rfl (by rw [unhide HMS]; kernel_rfl)
      · exact grown_new (unhide HGF) g6 (fun g e => by simp at e; omega)

/-- What Plain answers. -/
def plainA (kind : Int) : List Int := if 0 ≤ kind ∧ kind ≤ 3 then plainL kind.toNat else []

set_option maxRecDepth 20000 in
set_option maxHeartbeats 800000 in
theorem implPlain (kind : Int) (w : World) (hq : Pk w) (L : List Int) (HL : Hid (plainA kind = L)) :
    Calls Tryd.prog 5 #[.int .i64 kind] w fun e w' => ∃ so sc, e = .returned (.slice so L.length sc) ∧ w'.ownsRow w.heap.size 3 1 (.slice so L.length sc) L.length (L.map (Value.int .i64)) ∧ w.grownBy w' none := by
  by_cases hk : 0 ≤ kind ∧ kind ≤ 3
  · obtain ⟨j, rfl⟩ : ∃ j : Nat, kind = j := ⟨kind.toNat, by omega⟩
    have hj : j < 4 := by omega
    have hjI : (j : Int) < 4 := by omega
    have e : L = plainL j := by rw [← unhide HL, plainA, if_pos hk, Int.toNat_natCast]
    subst e
    have c0 := hq (j * 2) (by omega)
    have c1 := hq (j * 2 + 1) (by omega)
    have b0 := pk_in (j * 2) (by omega)
    have b1 := pk_in (j * 2 + 1) (by omega)
    have HF : Hid (∀ k, plainF j k = pk (j * 2) + pk (j * 2 + 1) * (((k / 8 + k % 8 : Nat)) : Int)) := fun k => rfl
    have HLL : Hid ((plainL j).length = 64) := made_len _
    clear hq HL
    generalize pk (j * 2) = f at *
    generalize pk (j * 2 + 1) = r at *
    go_enter Tryd.func5, Tryd.ntmps5
    go_wp2_with fail
    refine (inRange (j : Int) 0 3 true (by unfold Hid; simp; omega) w).mono ?_
    rintro e w1 ⟨rfl, rfl⟩
    go_wp2_with fail
    refine (slopeTable f r b0 b1 (plainF j) HF w).mono ?_
    rintro e w2 ⟨rfl, g2⟩
    go_wp2_with fail
    refine (list (made (plainF j)) (made_len _) w2).mono ?_
    rintro e w3 ⟨v, rfl, ho, g3⟩
    go_wp2
    go_ret
    have ho' : w3.ownsRow w2.heap.size 3 1 v (plainL j).length ((plainL j).map (Value.int .i64)) := by rw [unhide HLL]; exact ho
    obtain ⟨so, sc, rfl⟩ := own_form ho'
    exact ⟨_, _, rfl, own_base ho' g2.size, grown_trans g2 g3⟩
  · have e : L = [] := by rw [← unhide HL, plainA, if_neg hk]
    subst e
    go_enter Tryd.func5, Tryd.ntmps5
    go_wp2_with fail
    refine (inRange kind 0 3 false (by unfold Hid; simp; omega) w).mono ?_
    rintro e w1 ⟨rfl, rfl⟩
    go_wp2
    go_ret
    exact ⟨none, 0, rfl, World.ownsRow_nil _ _ _ _, World.grownBy.refl _ _⟩

set_option maxRecDepth 20000 in
set_option maxHeartbeats 1600000 in
theorem specPlain (kind : Int) (w : World) (L : List Int) (HL : Hid (plainA kind = L)) :
    Calls Tryd.prog 4 #[.int .i64 kind] w fun e w' => ∃ so sc, e = .returned (.slice so L.length sc) ∧ w'.ownsRow w.heap.size 3 1 (.slice so L.length sc) L.length (L.map (Value.int .i64)) ∧ w.grownBy w' none := by
  have HO : Hid ((w.alloc (.cells #[] 3)).ownsRow w.heap.size 3 1 (.slice (some ⟨w.heap.size, 0, none⟩) 0 0) 0 []) := World.ownsRow_lit w #[] 0 (Nat.le_refl _) (by unfold maxLen; omega) rfl
  by_cases hk : 0 ≤ kind ∧ kind ≤ 3
  · obtain ⟨j, rfl⟩ : ∃ j : Nat, kind = j := ⟨kind.toNat, by omega⟩
    have hj : j < 4 := by omega
    have hjI : (j : Int) < 4 := by omega
    have e : L = plainL j := by rw [← unhide HL, plainA, if_pos hk, Int.toNat_natCast]
    subst e
    clear HL
    have HLL : Hid ((plainL j).length = 64) := made_len _
    go_enter Tryd.func4, Tryd.ntmps4
    go_wp2
    go_loopw [3, 4] (fun o i wr => ∃ k : Nat, k ≤ 64 ∧ i = .int .i64 k ∧ Hid (wr.ownsRow w.heap.size 3 1 o k (((plainL j).take k).map (Value.int .i64))) ∧ Hid (w.grownBy wr none)) (fun _ i _ => 64 - (intOf i).toNat)
    case atStart => exact ⟨0, Nat.zero_le _, rfl, unhide HO, World.grownBy_alloc _ _ _⟩
    case round =>
      obtain ⟨k, hk2, rfl, hM, hgk⟩ := hrel
      obtain ⟨so, sc, rfl⟩ := own_form (unhide hM)
      by_cases hlt : k < 64
      · have hd : decide ((k : Int) < 64) = true := by simp; omega
        have hkm : (k : Int).tmod 8 = (k : Int) % 8 := Int.tmod_eq_emod_of_nonneg (by omega)
        obtain ⟨t, ht⟩ : ∃ t : Nat, k / 8 + k % 8 = t := ⟨_, rfl⟩
        have htI : (k : Int) / 8 + (k : Int) % 8 = (t : Int) := by omega
        have ht14 : t ≤ 14 := by omega
        have e1 := i64_in ((t : Int)) (by omega)
        have e2 := i64_in (3 * (t : Int)) (by omega)
        have e3 := i64_in (8 + 3 * (t : Int)) (by omega)
        have e4 := i64_in (6 * (t : Int)) (by omega)
        have e5 := i64_in (10 + 6 * (t : Int)) (by omega)
        have HCL : Hid ((wr.alloc (.cells #[.int .i64 (8 + 3 * (t : Int)), .int .i64 (10 + 6 * (t : Int)), .int .i64 8, .int .i64 1] 3)).cell? ⟨wr.heap.size, j, none⟩ = some (.int .i64 (plainF j k))) := by
          unfold Hid
          rw [cell_of_row _ _ j _ _ (0, 0) (heap_alloc_new wr _)]
          unfold plainF
          rw [ht]
          have : j = 0 ∨ j = 1 ∨ j = 2 ∨ j = 3 := by omega
          rcases this with rfl | rfl | rfl | rfl
          · rfl
          · rfl
          · show some (Value.int .i64 8) = some (.int .i64 (8 + 0 * (t : Int))); rw [Int.zero_mul]; rfl
          · show some (Value.int .i64 1) = some (.int .i64 (1 + 0 * (t : Int))); rw [Int.zero_mul]; rfl
        have HV : Hid (∀ z, z = plainF j k → (plainL j).take k ++ [z] = (plainL j).take (k + 1)) := fun z hz => made_take (plainF j) k hlt z hz
        have HM := hide ((unhide hM).alloc (.cells #[.int .i64 (8 + 3 * (t : Int)), .int .i64 (10 + 6 * (t : Int)), .int .i64 8, .int .i64 1] 3))
        have HG := hide (grown_alloc (unhide hgk) (.cells #[.int .i64 (8 + 3 * (t : Int)), .int .i64 (10 + 6 * (t : Int)), .int .i64 8, .int .i64 1] 3))
        clear ht hM hgk
        have hcl := unhide HCL
        generalize plainF j k = z at *
        go_wp2_with fail
        refine (between (j : Int) 0 3 true (by unfold Hid; simp; omega) wr).mono ?_
        rintro e w5 ⟨rfl, rfl⟩
        go_wp2_with (at_builtin; refine append_int rfl _ _ rfl w _ k ((plainL j).take k) rfl (unhide HM) z (by show Value.slice (some ⟨w5.heap.size + 1, 0, none⟩) 1 1 = _; simp) (by omega) (unhide HG) ?_; intro v' w' ho hg)
        go_roundw
        case rel =>
          refine ⟨k + 1, by omega, by go_num, ?_, hg⟩
          rw [unhide HV z rfl] at ho
          exact ho
        case measure => simp [intOf]; omega
      · obtain rfl : k = 64 := by omega
        have hM := unhide hM
        rw [List.take_of_length_le (by rw [unhide HLL]; omega)] at hM
        have HM := hide hM
        clear hM
        go_wp2
        go_ret
        refine ⟨so, sc, ?_, ?_, unhide hgk⟩
        · rw [unhide HLL]; rfl
        · rw [unhide HLL]; exact unhide HM
  · have e : L = [] := by rw [← unhide HL, plainA, if_neg hk]
    subst e
    go_enter Tryd.func4, Tryd.ntmps4
    go_wp2
    go_loopw [3, 4] (fun o i wr => o = .slice (some ⟨w.heap.size, 0, none⟩) 0 0 ∧ i = .int .i64 0 ∧ wr = w.alloc (.cells #[] 3)) (fun _ i _ => 64 - (intOf i).toNat)
    case atStart => exact ⟨rfl, rfl, rfl⟩
    case round =>
      obtain ⟨rfl, rfl, rfl⟩ := hrel
      go_wp2_with fail
      refine (between kind 0 3 false (by unfold Hid; simp; omega) _).mono ?_
      rintro e w5 ⟨rfl, rfl⟩
      go_wp2
      go_ret
      exact ⟨_, _, rfl, unhide HO, World.grownBy_alloc _ _ _⟩

end Go.Proofs.YtoeehfjbnbbijajDoor
