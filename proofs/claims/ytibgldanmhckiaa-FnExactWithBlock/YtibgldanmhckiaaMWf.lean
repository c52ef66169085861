/-
  GridRows, GridImpl, DeepA, CoefEmpty, CoefCopy, GridLists, TreeGS, PlaneRows.
-/
import Derived.Maps.AppendAt
import Derived.Deep.AppendLies
import Derived.Test.YtibgldanmhckiaaMWe

namespace Go.Proofs.Ytibgldanmhckiaa
open Go.RowKit Go.Shelf

theorem nearestLevel (n : Int) (w : World) :
    Calls Try.prog 77 #[.int .i64 n] w fun e w' => e = .returned (.int .i64 (min (max n (-16383)) 16383)) ∧ w = w' := by
  go_enter Try.func77, Try.ntmps77
  go_wp2
  all_goals
    go_ret
    refine ⟨ret_int ?_, rfl⟩
    first | omega | (split at * <;> omega)

set_option maxRecDepth 20000 in
set_option maxHeartbeats 400000 in
theorem fixLevels (ao : Option Addr) (n cap : Nat) (zs : List Int) (w : World) (hr : Rd .i64 w ao n zs) (b : Bool) (hb : Hid (levB (-16383) 16383 zs = b)) :
    Calls Try.prog 41 #[.slice ao n cap] w fun e w' => (∃ ys, e = .returned (.tuple #[.agg (sq ys), .bool b]) ∧ ys.length = 64 ∧ (n = 64 → ys = zs)) ∧ w.grownBy w' none := by
  by_cases h : n = 64
  · subst h
    obtain ⟨bb, off, rfl, _⟩ := hr.2 0 (by omega)
    have e : (zs == made (fun k => min (max (zs.getD k 0) (-16383)) 16383)) = b := by rw [clip_same (by omega) zs hr.1]; exact unhide hb
    have HZ := hide hr.1
    have HR := hide (hr.grown (World.grownBy_alloc w (.cells #[.int .i64 0, .int .i64 0, .int .i64 0, .int .i64 0, .int .i64 0, .int .i64 0, .int .i64 0, .int .i64 0, .int .i64 0, .int .i64 0, .int .i64 0, .int .i64 0, .int .i64 0, .int .i64 0, .int .i64 0, .int .i64 0, .int .i64 0, .int .i64 0, .int .i64 0, .int .i64 0, .int .i64 0, .int .i64 0, .int .i64 0, .int .i64 0, .int .i64 0, .int .i64 0, .int .i64 0, .int .i64 0, .int .i64 0, .int .i64 0, .int .i64 0, .int .i64 0, .int .i64 0, .int .i64 0, .int .i64 0, .int .i64 0, .int .i64 0, .int .i64 0, .int .i64 0, .int .i64 0, .int .i64 0, .int .i64 0, .int .i64 0, .int .i64 0, .int .i64 0, .int .i64 0, .int .i64 0, .int .i64 0, .int .i64 0, .int .i64 0, .int .i64 0, .int .i64 0, .int .i64 0, .int .i64 0, .int .i64 0, .int .i64 0, .int .i64 0, .int .i64 0, .int .i64 0, .int .i64 0, .int .i64 0, .int .i64 0, .int .i64 0, .int .i64 0] 80) none))
    clear hr
    go_enter Try.func41, Try.ntmps41
    go_wp2_with fail
    refine (fixSquare_yes bb off cap zs _ (unhide HR) (fun k => min (max (zs.getD k 0) (-16383)) 16383) 77 #[] (enters_of Try.func77 (by kernel_rfl) rfl) (fun k hk W hW => (nearestLevel (zs.getD k 0) W).mono ?_)).mono ?_
    · rintro e w' ⟨rfl, rfl⟩
      exact ⟨rfl, World.grownBy.refl _ _⟩
    · rintro e' w' ⟨rfl, g⟩
      rw [e]
      clear HR hb e
      have hB := (g.block w.heap.size (by simp) (by simp)).trans (heap_alloc_new w _)
      have HB := hide hB
      clear hB
      go_wp2_with (refine store_row rfl 80 _ _ rfl w.heap.size rfl (sq zs) rfl #[.int .i64 0, .int .i64 0, .int .i64 0, .int .i64 0, .int .i64 0, .int .i64 0, .int .i64 0, .int .i64 0, .int .i64 0, .int .i64 0, .int .i64 0, .int .i64 0, .int .i64 0, .int .i64 0, .int .i64 0, .int .i64 0, .int .i64 0, .int .i64 0, .int .i64 0, .int .i64 0, .int .i64 0, .int .i64 0, .int .i64 0, .int .i64 0, .int .i64 0, .int .i64 0, .int .i64 0, .int .i64 0, .int .i64 0, .int .i64 0, .int .i64 0, .int .i64 0, .int .i64 0, .int .i64 0, .int .i64 0, .int .i64 0, .int .i64 0, .int .i64 0, .int .i64 0, .int .i64 0, .int .i64 0, .int .i64 0, .int .i64 0, .int .i64 0, .int .i64 0, .int .i64 0, .int .i64 0, .int .i64 0, .int .i64 0, .int .i64 0, .int .i64 0, .int .i64 0, .int .i64 0, .int .i64 0, .int .i64 0, .int .i64 0, .int .i64 0, .int .i64 0, .int .i64 0, .int .i64 0, .int .i64 0, .int .i64 0, .int .i64 0, .int .i64 0] 80 (unhide HB) (by rw [sq_size, unhide HZ]; rfl) (by rw [sq_size, unhide HZ]; kernel_rfl) (sq_one _) ?_; intro w3 hB3 g3)
      refine bodyPost_ret (v := .tuple #[.agg (sq zs), .bool b]) ?_ rfl ⟨⟨_, rfl, (by first | exact unhide HZ | exact zs64_len), ?_⟩, ?_⟩
      · exact results_c2 (p := 2) (q := 3) (ty := 80) rfl _ _ _ w.heap.size rfl _ (run_loadVar_row w3 _ 80 80 _ (0, 0) _ hB3 Try.underlying80 rfl (by rw [sq_size, unhide HZ]; kernel_rfl))
      · intro hh; first | rfl | exact absurd hh h
      · exact grown_new (grown_new (World.grownBy_alloc _ _ _) g (fun g e => by simp at e)) g3 (fun g e => by simp at e; omega)
  · have hb' : b = false := by rw [← unhide hb]; simp [levB, hr.1, h]
    subst hb'
    clear hr hb
    go_enter Try.func41, Try.ntmps41
    go_wp2_with fail
    refine (fixSquare_no ao n cap _ _ h).mono ?_
    rintro e' w' ⟨rfl, g⟩
    have hB := (g.block w.heap.size (by simp) (by simp)).trans (heap_alloc_new w _)
    have HB := hide hB
    clear hB
    go_wp2_with (refine store_row rfl 80 _ _ rfl w.heap.size rfl (sq zs64) rfl #[.int .i64 0, .int .i64 0, .int .i64 0, .int .i64 0, .int .i64 0, .int .i64 0, .int .i64 0, .int .i64 0, .int .i64 0, .int .i64 0, .int .i64 0, .int .i64 0, .int .i64 0, .int .i64 0, .int .i64 0, .int .i64 0, .int .i64 0, .int .i64 0, .int .i64 0, .int .i64 0, .int .i64 0, .int .i64 0, .int .i64 0, .int .i64 0, .int .i64 0, .int .i64 0, .int .i64 0, .int .i64 0, .int .i64 0, .int .i64 0, .int .i64 0, .int .i64 0, .int .i64 0, .int .i64 0, .int .i64 0, .int .i64 0, .int .i64 0, .int .i64 0, .int .i64 0, .int .i64 0, .int .i64 0, .int .i64 0, .int .i64 0, .int .i64 0, .int .i64 0, .int .i64 0, .int .i64 0, .int .i64 0, .int .i64 0, .int .i64 0, .int .i64 0, .int .i64 0, .int .i64 0, .int .i64 0, .int .i64 0, .int .i64 0, .int .i64 0, .int .i64 0, .int .i64 0, .int .i64 0, .int .i64 0, .int .i64 0, .int .i64 0, .int .i64 0] 80 (unhide HB) (by rw [sq_size, zs64_len]; rfl) (by rw [sq_size, zs64_len]; kernel_rfl) (sq_one _) ?_; intro w3 hB3 g3)
    refine bodyPost_ret (v := .tuple #[.agg (sq zs64), .bool false]) ?_ rfl ⟨⟨_, rfl, (by first | exact unhide HZ | exact zs64_len), ?_⟩, ?_⟩
    · exact results_c2 (p := 2) (q := 3) (ty := 80) rfl _ _ _ w.heap.size rfl _ (run_loadVar_row w3 _ 80 80 _ (0, 0) _ hB3 Try.underlying80 rfl (by rw [sq_size, zs64_len]; kernel_rfl))
    · intro hh; first | rfl | exact absurd hh h
    · exact grown_new (grown_new (World.grownBy_alloc _ _ _) g (fun g e => by simp at e)) g3 (fun g e => by simp at e; omega)

theorem grown_cells (g : Nat) : ∀ (vs : List Value) (o : Nat) (w : World), w.grownBy (w.setCells g o vs) (some g)
  | [], _, _ => World.grownBy.refl _ _
  | v :: r, o, w => by
    rw [World.setCells]
    exact grown_trans (grown_set w g o v) (grown_cells g r (o + 1) _)

/-- Blocks in a row of squares. -/
structure Th (w : World) (g : Nat) (L : List (List Int)) : Prop where
  len : ∀ k, k < L.length → (L.getD k []).length = 64
  rd : ∀ k, k < L.length → w.rangeAt g (k * 64) ((L.getD k []).map (Value.int .i64))
  th : ∀ k, k < L.length → w.there g (k * 64) 64
  lies : ∃ o, w.heap[g]? = some o
theorem Th.lt {w : World} {g : Nat} {L : List (List Int)} (h : Th w g L) : g < w.heap.size := by
  obtain ⟨o, ho⟩ := h.lies
  exact (Array.getElem?_eq_some_iff.1 ho).1
theorem Th.same {w w' : World} {g : Nat} {L : List (List Int)} (h : Th w g L) (e : w'.heap[g]? = w.heap[g]?) : Th w' g L := by
  refine ⟨h.len, fun k hk j v hv => ?_, fun k hk j hj => ?_, by rw [e]; exact h.lies⟩
  · have := h.rd k hk j v hv
    unfold World.cell? at this ⊢
    rw [e]
    exact this
  · have := h.th k hk j hj
    unfold World.cell? World.frozen? at this ⊢
    rw [e]
    exact this
theorem Th.grown {w w' : World} {g : Nat} {L : List (List Int)} (h : Th w g L) (hg : w.grownBy w' none) : Th w' g L := h.same (hg.block g h.lt (by simp))
theorem Th.put {w : World} {g : Nat} {L : List (List Int)} (h : Th w g L) (k : Nat) (hk : k < L.length) (B : List Int) (hB : B.length = 64) : Th (w.setCells g (k * 64) (B.map (Value.int .i64))) g (L.set k B) := by
  have hl : ∀ j, j < (L.set k B).length → ((L.set k B).getD j []).length = 64 := fun j hj => by
    rw [List.length_set] at hj
    by_cases e : k = j
    · subst e; simp [hk, hB]
    · have : (L.set k B).getD j [] = L.getD j [] := by simp [e]
      rw [this]; exact h.len j hj
  refine ⟨hl, fun j hj => ?_, fun j hj => ?_, ?_⟩
  · rw [List.length_set] at hj
    by_cases e : k = j
    · subst e
      have : (L.set k B).getD k [] = B := by simp [hk]
      rw [this]
      exact World.rangeAt_setCells_same w g (k * 64) _ (by rw [List.length_map, hB]; exact h.th k hk)
    · have : (L.set k B).getD j [] = L.getD j [] := by simp [e]
      rw [this]
      refine World.rangeAt_setCells_apart (h.rd j hj) g (k * 64) _ (.inr ?_)
      rw [List.length_map, List.length_map, h.len j hj, hB]
      omega
  · rw [List.length_set] at hj
    exact World.there_setCells (h.th j hj) g _ _
  · have hs : g < (w.setCells g (k * 64) (B.map (Value.int .i64))).heap.size := Nat.lt_of_lt_of_le h.lt (grown_cells g _ _ w).size
    exact ⟨_, Array.getElem?_eq_getElem hs⟩
/-- New blocks. -/
theorem Th.made {w : World} {g cap n base : Nat} {xs : List Value} (h : w.ownsRow base 80 64 (.slice (some ⟨g, 0, none⟩) n cap) n xs) (hx : ∀ j, j < n * 64 → xs[j]? = some (.int .i64 0)) : Th w g (List.replicate n noughts) := by
  have hc : ∀ j, j < n * 64 → w.cell? ⟨g, j, none⟩ = some (.int .i64 0) := fun j hj => by rw [h.cellAt j hj]; exact hx j hj
  have hr : ∀ k, k < (List.replicate n noughts).length → (List.replicate n noughts).getD k [] = noughts := fun k hk => by
    rw [List.length_replicate] at hk
    simp [hk]
  refine ⟨fun k hk => by rw [hr k hk]; simp [noughts], fun k hk j v hv => ?_, fun k hk j hj => ?_, ?_⟩
  · rw [hr k hk] at hv
    rw [List.length_replicate] at hk
    have hj : j < 64 := by
      have := (List.getElem?_eq_some_iff.1 hv).1
      simpa [noughts] using this
    obtain ⟨y, hy, rfl⟩ := List.mem_map.1 (List.mem_of_getElem? hv)
    have e : y = 0 := List.eq_of_mem_replicate hy
    subst e
    exact hc _ (by omega)
  · rw [List.length_replicate] at hk
    rw [hc _ (by omega)]
    exact ⟨rfl, h.frozenAt _⟩
  · have := (h.lt g rfl).2
    exact ⟨_, Array.getElem?_eq_getElem this⟩

/-- A grid: its sides, its blocks, and the block of memory that they lie in. -/
abbrev Gd := Nat × Nat × List (List Int)
def GrP (w : World) (c : Nat → Value) (x : Gd) (F : List Nat) : Prop := ∃ g cap, c 0 = .int .i64 (x.1 : Int) ∧ c 1 = .int .i64 (x.2.1 : Int) ∧ c 2 = .slice (some ⟨g, 0, none⟩) x.2.2.length cap ∧ Th w g x.2.2 ∧ F = [g]
theorem GrP.ok : OkG GrP := by
  refine ⟨?_, ?_⟩
  · rintro w w' c x F ⟨g, cap, h0, h1, h2, ht, rfl⟩ hs
    exact ⟨g, cap, h0, h1, h2, ht.same (hs g (by simp)), rfl⟩
  · rintro w c x F ⟨g, cap, h0, h1, h2, ht, rfl⟩ k hk
    simp at hk
    subst hk
    exact ht.lt

end Go.Proofs.Ytibgldanmhckiaa

namespace Go.Proofs.Ytibgldanmhckiaa
open Go.RowKit Go.Shelf

theorem gridIndex (wd r c : Nat) (x y : Value) (hw : wd ≤ 4096) (hr : r ≤ 4096) (hc : c ≤ 4096) (k : Nat) (hk : Hid (r * wd + c = k)) (w : World) :
    Calls Try.prog 102 #[.agg #[.int .i64 (wd : Int), x, y], .int .i64 (r : Int), .int .i64 (c : Int)] w fun e w' => e = .returned (.int .i64 (k : Int)) ∧ w.grownBy w' none := by
  have h0 : r * wd ≤ 4096 * 4096 := Nat.mul_le_mul hr hw
  have h1 := i64_in ((r : Int) * (wd : Int)) (by rw [← Int.natCast_mul]; omega)
  have h2 := i64_in ((r : Int) * (wd : Int) + (c : Int)) (by rw [← Int.natCast_mul]; omega)
  have h3 : (r : Int) * (wd : Int) + (c : Int) = (k : Int) := by rw [← Int.natCast_mul, ← Int.natCast_add, unhide hk]
  go_enter Try.func102, Try.ntmps102
  go_wp2
  go_ret
  exact ⟨rfl, grown_alloc (World.grownBy.refl _ _) _⟩

set_option maxRecDepth 20000 in
set_option maxHeartbeats 1600000 in
theorem gridAt (wd ht g cap r c : Nat) (L : List (List Int)) (hw : wd ≤ 4096) (hr : r ≤ 4096) (hc : c ≤ 4096) (k : Nat) (hk : Hid (r * wd + c = k)) (hkl : k < L.length) (w : World) (hT : Th w g L) :
    Calls Try.prog 87 #[.agg #[.int .i64 (wd : Int), .int .i64 (ht : Int), .slice (some ⟨g, 0, none⟩) L.length cap], .int .i64 (r : Int), .int .i64 (c : Int)] w fun e w' => e = .returned (.agg (sq (L.getD k []))) ∧ w.grownBy w' none := by
  have hlen := hT.len k hkl
  have HSL : Hid ((sq (L.getD k [])).size = 64) := by unfold Hid; rw [sq_size, hlen]
  obtain ⟨W0, hW0⟩ : ∃ W0, (w.alloc (.cells #[.int .i64 (wd : Int), .int .i64 (ht : Int), .slice (some ⟨g, 0, none⟩) L.length cap] 120)).alloc (.cells #[.int .i64 0, .int .i64 0, .int .i64 0, .int .i64 0, .int .i64 0, .int .i64 0, .int .i64 0, .int .i64 0, .int .i64 0, .int .i64 0, .int .i64 0, .int .i64 0, .int .i64 0, .int .i64 0, .int .i64 0, .int .i64 0, .int .i64 0, .int .i64 0, .int .i64 0, .int .i64 0, .int .i64 0, .int .i64 0, .int .i64 0, .int .i64 0, .int .i64 0, .int .i64 0, .int .i64 0, .int .i64 0, .int .i64 0, .int .i64 0, .int .i64 0, .int .i64 0, .int .i64 0, .int .i64 0, .int .i64 0, .int .i64 0, .int .i64 0, .int .i64 0, .int .i64 0, .int .i64 0, .int .i64 0, .int .i64 0, .int .i64 0, .int .i64 0, .int .i64 0, .int .i64 0, .int .i64 0, .int .i64 0, .int .i64 0, .int .i64 0, .int .i64 0, .int .i64 0, .int .i64 0, .int .i64 0, .int .i64 0, .int .i64 0, .int .i64 0, .int .i64 0, .int .i64 0, .int .i64 0, .int .i64 0, .int .i64 0, .int .i64 0, .int .i64 0] 80) = W0 := ⟨_, rfl⟩
  have G0 : w.grownBy W0 none := by rw [← hW0]; exact grown_alloc (World.grownBy_alloc _ _ _) _
  have b0 : W0.heap[w.heap.size]? = some (.cells #[.int .i64 (wd : Int), .int .i64 (ht : Int), .slice (some ⟨g, 0, none⟩) L.length cap] 120 (0, 0)) := by rw [← hW0, Below.heap_alloc _ _ _ (by simp)]; exact heap_alloc_new w _
  have b1 : W0.heap[w.heap.size + 1]? = some (.cells (sq zs64) 80 (0, 0)) := by
    rw [← hW0, sq_z64]
    have := heap_alloc_new (w.alloc (.cells #[.int .i64 (wd : Int), .int .i64 (ht : Int), .slice (some ⟨g, 0, none⟩) L.length cap] 120)) (.cells #[.int .i64 0, .int .i64 0, .int .i64 0, .int .i64 0, .int .i64 0, .int .i64 0, .int .i64 0, .int .i64 0, .int .i64 0, .int .i64 0, .int .i64 0, .int .i64 0, .int .i64 0, .int .i64 0, .int .i64 0, .int .i64 0, .int .i64 0, .int .i64 0, .int .i64 0, .int .i64 0, .int .i64 0, .int .i64 0, .int .i64 0, .int .i64 0, .int .i64 0, .int .i64 0, .int .i64 0, .int .i64 0, .int .i64 0, .int .i64 0, .int .i64 0, .int .i64 0, .int .i64 0, .int .i64 0, .int .i64 0, .int .i64 0, .int .i64 0, .int .i64 0, .int .i64 0, .int .i64 0, .int .i64 0, .int .i64 0, .int .i64 0, .int .i64 0, .int .i64 0, .int .i64 0, .int .i64 0, .int .i64 0, .int .i64 0, .int .i64 0, .int .i64 0, .int .i64 0, .int .i64 0, .int .i64 0, .int .i64 0, .int .i64 0, .int .i64 0, .int .i64 0, .int .i64 0, .int .i64 0, .int .i64 0, .int .i64 0, .int .i64 0, .int .i64 0] 80)
    simpa using this
  have s0 : W0.heap.size = w.heap.size + 2 := by rw [← hW0]; simp
  have HT0 := hide (hT.grown G0)
  have HW := hide hW0
  have B0 := hide b0
  have B1 := hide b1
  have HG0 := hide G0
  clear hW0 b0 b1 G0 hT
  go_enter Try.func87, Try.ntmps87
  go_wp2
  rw [unhide HW]
  clear HW
  refine wp_region_noPanic ?_
  refine wp_region_tailL 20 (fun W => W0.drew.grownBy W none) [true, true, true, true, true, false, false, false, false] (by kernel_rfl) (fun _ _ _ _ _ h => h) rfl (by decide) (by kernel_rfl) (World.grownBy.refl _ _) ?_
  have bD : W0.drew.heap[w.heap.size]? = some (.cells #[.int .i64 (wd : Int), .int .i64 (ht : Int), .slice (some ⟨g, 0, none⟩) L.length cap] 120 (0, 0)) := unhide B0
  have bE : W0.drew.heap[w.heap.size + 1]? = some (.cells (sq zs64) 80 (0, 0)) := unhide B1
  have tD : Th W0.drew g L := (unhide HT0).same rfl
  have gD : w.grownBy W0.drew none := grown_drew (unhide HG0)
  have sD : W0.drew.heap.size = w.heap.size + 2 := s0
  generalize W0.drew = W1 at *
  clear B0 B1 HT0 HG0 s0 W0
  have BD := hide bD
  have c2 : W1.cell? ⟨w.heap.size, 2, none⟩ = some (.slice (some ⟨g, 0, none⟩) L.length cap) := by rw [cell_of_row W1 _ 2 _ _ (0, 0) bD]; rfl
  have C2 := hide c2
  clear c2 bD
  refine heldF_take (v := ?_) (Or.inl ⟨by rfl, ?_⟩) ?_
  rotate_left 1
  · intro w' hSw
    go_simp
    try with_reducible rfl
  simp only [Act.put, List.setIfInBounds_toArray, List.set_cons_zero, List.set_cons_succ]
  refine heldF_take (v := ?_) (Or.inl ⟨by rfl, ?_⟩) ?_
  rotate_left 1
  · intro w' hSw
    have c2' := hSw.cell (unhide C2) (by simp)
    go_simp
    try with_reducible rfl
  simp only [Act.put, List.setIfInBounds_toArray, List.set_cons_zero, List.set_cons_succ]
  refine heldF_take (v := .agg #[.int .i64 (wd : Int), .int .i64 (ht : Int), .slice (some ⟨g, 0, none⟩) L.length cap]) (Or.inl ⟨by rfl, ?_⟩) ?_
  · intro w' hSw
    exact exec_row 120 _ rfl w.heap.size rfl _ _ (grown_atT hSw (unhide BD) (by simp)) _ Try.underlying120 rfl (by kernel_rfl)
  simp only [Act.put, List.setIfInBounds_toArray, List.set_cons_zero, List.set_cons_succ]
  iterate 2
    refine heldF_take (v := ?_) (Or.inl ⟨by rfl, ?_⟩) ?_
    rotate_left 1
    · intro w' hSw
      go_simp
      try with_reducible rfl
    simp only [Act.put, List.setIfInBounds_toArray, List.set_cons_zero, List.set_cons_succ]
  refine heldF_skip (heldF_skip (heldF_skip (heldF_skip (heldF_nil ?_))))
  refine tailL_skip (tailL_skip (tailL_skip (tailL_skip (tailL_skip ?_))))
  refine tailL_step (fun K hK => ?_)
  go_simp
  refine (gridIndex wd r c _ _ hw hr hc k hk W1).mono ?_
  rintro e w4 ⟨rfl, g4⟩
  refine hK.out _ _ (.inr g4) ?_
  clear hK K
  try simp only [Act.put, List.setIfInBounds_toArray, List.set_cons_zero, List.set_cons_succ]
  have t4 := tD.grown g4
  have b4 := grown_atT g4 bE (by simp)
  have i0 : (0 : Int) ≤ (k : Int) := by omega
  have i1 : (k : Int) < (L.length : Int) := by omega
  refine tailL_step (fun K hK => ?_)
  go_simp
  refine hK.out _ _ (.inr g4) ?_
  clear hK K
  try simp only [Act.put, List.setIfInBounds_toArray, List.set_cons_zero, List.set_cons_succ]
  refine tailL_step (fun K hK => ?_)
  rw [if_pos (by rfl)]
  refine wp_load_mid 80 _ rfl g (k * 64) (by rfl) ((L.getD k []).map (Value.int .i64)) _ (t4.rd k hkl) Try.underlying80 rfl (by rw [List.length_map, hlen]; kernel_rfl) ?_
  refine hK.out _ _ (.inr g4) ?_
  clear hK K
  try simp only [Act.put, List.setIfInBounds_toArray, List.set_cons_zero, List.set_cons_succ]
  refine tailL_step (fun K hK => ?_)
  refine step_store_row (by rfl) 80 _ _ rfl (w.heap.size + 1) rfl (sq (L.getD k [])) rfl (sq zs64) 80 b4 (by rw [unhide HSL, sq_size, zs64_len]) (by rw [unhide HSL]; kernel_rfl) (sq_one _) ?_
  intro w5 hB5 g5
  refine hK.out _ _ (.inl rfl) (tailL_nil (NoPanic.normal ?_))
  clear hK K
  simp only [Act.put]
  go_wp2
  refine bodyPost_ret (v := .agg (sq (L.getD k []))) ?_ rfl ⟨rfl, ?_⟩
  · rw [results_c1 rfl]
    exact run_loadVar_row w5 _ 80 80 _ (0, 0) _ hB5 Try.underlying80 rfl (by rw [unhide HSL]; kernel_rfl)
  · exact grown_new (grown_trans gD g4) g5 (fun g e => by simp at e; omega)

theorem made_z64 (n j : Nat) (hj : j < n * 64) : (madeCells (Value.agg #[.int .i64 0, .int .i64 0, .int .i64 0, .int .i64 0, .int .i64 0, .int .i64 0, .int .i64 0, .int .i64 0, .int .i64 0, .int .i64 0, .int .i64 0, .int .i64 0, .int .i64 0, .int .i64 0, .int .i64 0, .int .i64 0, .int .i64 0, .int .i64 0, .int .i64 0, .int .i64 0, .int .i64 0, .int .i64 0, .int .i64 0, .int .i64 0, .int .i64 0, .int .i64 0, .int .i64 0, .int .i64 0, .int .i64 0, .int .i64 0, .int .i64 0, .int .i64 0, .int .i64 0, .int .i64 0, .int .i64 0, .int .i64 0, .int .i64 0, .int .i64 0, .int .i64 0, .int .i64 0, .int .i64 0, .int .i64 0, .int .i64 0, .int .i64 0, .int .i64 0, .int .i64 0, .int .i64 0, .int .i64 0, .int .i64 0, .int .i64 0, .int .i64 0, .int .i64 0, .int .i64 0, .int .i64 0, .int .i64 0, .int .i64 0, .int .i64 0, .int .i64 0, .int .i64 0, .int .i64 0, .int .i64 0, .int .i64 0, .int .i64 0, .int .i64 0]).cells (n * 64))[j]? = some (.int .i64 0) := by
  have h : ∀ i, i < 64 → (sq zs64)[i]? = some (.int .i64 0) := fun i hi => by
    have e0 : zs64.getD i 0 = 0 := by unfold zs64; rw [List.getD_eq_getElem?_getD, List.getElem?_replicate]; split <;> rfl
    rw [sq_at zs64 i (by rw [zs64_len]; exact hi), e0]
  rw [← sq_z64]
  have e : (Value.agg (sq zs64)).cells = sq zs64 := rfl
  rw [e]
  unfold madeCells
  have h2 := h (j % 64) (Nat.mod_lt _ (by decide))
  have hs : (sq zs64).size = 64 := by rw [sq_size, zs64_len]
  simp [hj, hs]
  rw [getElem!_def, h2]

set_option maxRecDepth 20000 in
set_option maxHeartbeats 1600000 in
theorem gridPut (wd ht g cap r c : Nat) (L : List (List Int)) (B : List Int) (hB : B.length = 64) (hw : wd ≤ 4096) (hr : r ≤ 4096) (hc : c ≤ 4096) (k : Nat) (hk : Hid (r * wd + c = k)) (hkl : k < L.length) (w : World) (hT : Th w g L) :
    Calls Try.prog 81 #[.agg #[.int .i64 (wd : Int), .int .i64 (ht : Int), .slice (some ⟨g, 0, none⟩) L.length cap], .int .i64 (r : Int), .int .i64 (c : Int), .agg (sq B)] w fun e w' => (∃ v, e = .returned v) ∧ Th w' g (L.set k B) ∧ w.grownBy w' (some g) := by
  have HSL : Hid ((sq B).size = 64) := by unfold Hid; rw [sq_size, hB]
  obtain ⟨W0, hW0⟩ : ∃ W0, (w.alloc (.cells #[.int .i64 (wd : Int), .int .i64 (ht : Int), .slice (some ⟨g, 0, none⟩) L.length cap] 120)).alloc (.cells (sq B) 80) = W0 := ⟨_, rfl⟩
  have G0 : w.grownBy W0 none := by rw [← hW0]; exact grown_alloc (World.grownBy_alloc _ _ _) _
  have b0 : W0.heap[w.heap.size]? = some (.cells #[.int .i64 (wd : Int), .int .i64 (ht : Int), .slice (some ⟨g, 0, none⟩) L.length cap] 120 (0, 0)) := by rw [← hW0, Below.heap_alloc _ _ _ (by simp)]; exact heap_alloc_new w _
  have b1 : W0.heap[w.heap.size + 1]? = some (.cells (sq B) 80 (0, 0)) := by
    rw [← hW0]
    have := heap_alloc_new (w.alloc (.cells #[.int .i64 (wd : Int), .int .i64 (ht : Int), .slice (some ⟨g, 0, none⟩) L.length cap] 120)) (.cells (sq B) 80)
    simpa using this
  have HT0 := hide (hT.grown G0)
  have HW := hide hW0
  have B0 := hide b0
  have B1 := hide b1
  have HG0 := hide G0
  clear hW0 b0 b1 G0 hT
  go_enter Try.func81, Try.ntmps81
  go_wp2
  rw [unhide HW]
  clear HW
  refine wp_region_noPanic ?_
  refine wp_region_tailL 20 (fun W => W0.drew.grownBy W none) [true, true, true, true, true, false, true, false, false] (by kernel_rfl) (fun _ _ _ _ _ h => h) rfl (by decide) (by kernel_rfl) (World.grownBy.refl _ _) ?_
  have bD : W0.drew.heap[w.heap.size]? = some (.cells #[.int .i64 (wd : Int), .int .i64 (ht : Int), .slice (some ⟨g, 0, none⟩) L.length cap] 120 (0, 0)) := unhide B0
  have bE : W0.drew.heap[w.heap.size + 1]? = some (.cells (sq B) 80 (0, 0)) := unhide B1
  have tD : Th W0.drew g L := (unhide HT0).same rfl
  have gD : w.grownBy W0.drew none := grown_drew (unhide HG0)
  generalize W0.drew = W1 at *
  clear B0 B1 HT0 HG0 W0
  have BD := hide bD
  have BE := hide bE
  have c2 : W1.cell? ⟨w.heap.size, 2, none⟩ = some (.slice (some ⟨g, 0, none⟩) L.length cap) := by rw [cell_of_row W1 _ 2 _ _ (0, 0) bD]; rfl
  have C2 := hide c2
  clear c2 bD bE
  refine heldF_take (v := ?_) (Or.inl ⟨by rfl, ?_⟩) ?_
  rotate_left 1
  · intro w' hSw
    go_simp
    try with_reducible rfl
  simp only [Act.put, List.setIfInBounds_toArray, List.set_cons_zero, List.set_cons_succ]
  refine heldF_take (v := ?_) (Or.inl ⟨by rfl, ?_⟩) ?_
  rotate_left 1
  · intro w' hSw
    have c2' := hSw.cell (unhide C2) (by simp)
    go_simp
    try with_reducible rfl
  simp only [Act.put, List.setIfInBounds_toArray, List.set_cons_zero, List.set_cons_succ]
  refine heldF_take (v := .agg #[.int .i64 (wd : Int), .int .i64 (ht : Int), .slice (some ⟨g, 0, none⟩) L.length cap]) (Or.inl ⟨by rfl, ?_⟩) ?_
  · intro w' hSw
    exact exec_row 120 _ rfl w.heap.size rfl _ _ (grown_atT hSw (unhide BD) (by simp)) _ Try.underlying120 rfl (by kernel_rfl)
  simp only [Act.put, List.setIfInBounds_toArray, List.set_cons_zero, List.set_cons_succ]
  iterate 2
    refine heldF_take (v := ?_) (Or.inl ⟨by rfl, ?_⟩) ?_
    rotate_left 1
    · intro w' hSw
      go_simp
      try with_reducible rfl
    simp only [Act.put, List.setIfInBounds_toArray, List.set_cons_zero, List.set_cons_succ]
  refine heldF_skip ?_
  refine heldF_take (v := .agg (sq B)) (Or.inl ⟨by rfl, ?_⟩) ?_
  · intro w' hSw
    exact exec_row 80 _ rfl (w.heap.size + 1) rfl _ _ (grown_atT hSw (unhide BE) (by simp)) _ Try.underlying80 rfl (by rw [unhide HSL]; kernel_rfl)
  simp only [Act.put, List.setIfInBounds_toArray, List.set_cons_zero, List.set_cons_succ]
  refine heldF_skip (heldF_skip (heldF_nil ?_))
  refine tailL_skip (tailL_skip (tailL_skip (tailL_skip (tailL_skip ?_))))
  refine tailL_step (fun K hK => ?_)
  go_simp
  refine (gridIndex wd r c _ _ hw hr hc k hk W1).mono ?_
  rintro e w4 ⟨rfl, g4⟩
  refine hK.out _ _ (.inr g4) (tailL_skip ?_)
  clear hK K
  try simp only [Act.put, List.setIfInBounds_toArray, List.set_cons_zero, List.set_cons_succ]
  have t4 := tD.grown g4
  have i0 : (0 : Int) ≤ (k : Int) := by omega
  have i1 : (k : Int) < (L.length : Int) := by omega
  refine tailL_step (fun K hK => ?_)
  go_simp
  refine hK.out _ _ (.inr g4) ?_
  clear hK K
  try simp only [Act.put, List.setIfInBounds_toArray, List.set_cons_zero, List.set_cons_succ]
  refine tailL_step (fun K hK => ?_)
  rw [if_pos (by rfl)]
  refine wp_store_mid 80 _ _ rfl g (k * 64) (sq B) (by rfl) rfl (by rw [unhide HSL]; exact t4.th k hkl) (by rw [unhide HSL]; kernel_rfl) (sq_one _) ?_
  refine hK.out _ _ (.inl rfl) (tailL_nil (NoPanic.normal ?_))
  clear hK K
  simp only [Act.put]
  have t5 := t4.put k hkl B hB
  have g5 := grown_cells g (B.map (Value.int .i64)) (k * 64) w4
  have e5 : (sq B).toList = B.map (Value.int .i64) := by simp [sq]
  rw [e5]
  generalize w4.setCells g (k * 64) (B.map (Value.int .i64)) = w5 at *
  go_wp2
  go_end0
  exact ⟨⟨_, rfl⟩, t5, grown_trans (grown_any (grown_trans gD g4)) g5⟩

theorem areaHas (a b r c : Int) (ha : 0 ≤ a ∧ a ≤ 4096) (hb : 0 ≤ b ∧ b ≤ 4096) (t : Bool) (HT : Hid ((decide (0 ≤ r ∧ r ≤ b - 1) && decide (0 ≤ c ∧ c ≤ a - 1)) = t)) (w : World) :
    Calls Try.prog 80 #[.agg #[.int .i64 a, .int .i64 b], .int .i64 r, .int .i64 c] w fun e w' => e = .returned (.bool t) ∧ w.grownBy w' none := by
  have h1 := i64_in (b - 1) (by omega)
  have h2 := i64_in (a - 1) (by omega)
  obtain ⟨t1, HT1⟩ : ∃ t1, Hid (decide (0 ≤ r ∧ r ≤ b - 1) = t1) := ⟨_, rfl⟩
  obtain ⟨t2, HT2⟩ : ∃ t2, Hid (decide (0 ≤ c ∧ c ≤ a - 1) = t2) := ⟨_, rfl⟩
  have HTT : Hid ((t1 && t2) = t) := by unfold Hid; rw [← unhide HT1, ← unhide HT2]; exact unhide HT
  clear HT
  go_enter Try.func80, Try.ntmps80
  go_wp2_with fail
  refine (inRange r 0 (b - 1) t1 HT1 _).mono ?_
  rintro e w1 ⟨rfl, rfl⟩
  cases t1
  · have ht : t = false := by rw [← unhide HTT]; rfl
    subst ht
    go_wp2
    go_ret
    exact ⟨rfl, grown_alloc (World.grownBy.refl _ _) _⟩
  · have ht : t = t2 := by rw [← unhide HTT]; rfl
    subst ht
    go_wp2_with fail
    refine (inRange c 0 (a - 1) t HT2 _).mono ?_
    rintro e w1 ⟨rfl, rfl⟩
    go_wp2
    go_ret
    exact ⟨rfl, grown_alloc (World.grownBy.refl _ _) _⟩

set_option maxRecDepth 20000 in
set_option maxHeartbeats 1600000 in
theorem newGrid (wd ht n : Nat) (hw : wd ≤ 1024) (hh : ht ≤ 1024) (hn : Hid (wd * ht = n)) (w : World) :
    Calls Try.prog 89 #[.agg #[.int .i64 (wd : Int), .int .i64 (ht : Int)]] w fun e w' => ∃ g cap, e = .returned (.agg #[.int .i64 (wd : Int), .int .i64 (ht : Int), .slice (some ⟨g, 0, none⟩) n cap]) ∧ Th w' g (List.replicate n noughts) ∧ w.heap.size ≤ g ∧ w.grownBy w' none := by
  have hn1 : n ≤ 1048576 := by rw [← unhide hn]; exact Nat.mul_le_mul hw hh
  have hni : (wd : Int) * (ht : Int) = (n : Int) := by rw [← Int.natCast_mul, unhide hn]
  obtain ⟨i0, hi, hz0, hz1, hz2⟩ := info_parts (show (Try.prog.info? 80).map (fun i => (i.zero, i.size, i.bytes)) = some (some (.agg #[.int .i64 0, .int .i64 0, .int .i64 0, .int .i64 0, .int .i64 0, .int .i64 0, .int .i64 0, .int .i64 0, .int .i64 0, .int .i64 0, .int .i64 0, .int .i64 0, .int .i64 0, .int .i64 0, .int .i64 0, .int .i64 0, .int .i64 0, .int .i64 0, .int .i64 0, .int .i64 0, .int .i64 0, .int .i64 0, .int .i64 0, .int .i64 0, .int .i64 0, .int .i64 0, .int .i64 0, .int .i64 0, .int .i64 0, .int .i64 0, .int .i64 0, .int .i64 0, .int .i64 0, .int .i64 0, .int .i64 0, .int .i64 0, .int .i64 0, .int .i64 0, .int .i64 0, .int .i64 0, .int .i64 0, .int .i64 0, .int .i64 0, .int .i64 0, .int .i64 0, .int .i64 0, .int .i64 0, .int .i64 0, .int .i64 0, .int .i64 0, .int .i64 0, .int .i64 0, .int .i64 0, .int .i64 0, .int .i64 0, .int .i64 0, .int .i64 0, .int .i64 0, .int .i64 0, .int .i64 0, .int .i64 0, .int .i64 0, .int .i64 0, .int .i64 0]), 64, 512) by kernel_rfl)
  have HI := hide hi
  have HZ0 := hide hz0
  have HZ1 := hide hz1
  have HZ2 := hide hz2
  clear hi hz0 hz1 hz2
  obtain ⟨W0, hW0⟩ : ∃ W0, (w.alloc (.cells #[.int .i64 (wd : Int), .int .i64 (ht : Int)] 115)).alloc (.cells #[.int .i64 0, .int .i64 0, .slice none 0 0] 120) = W0 := ⟨_, rfl⟩
  have G0 : w.grownBy W0 none := by rw [← hW0]; exact grown_alloc (World.grownBy_alloc _ _ _) _
  have b0 : W0.heap[w.heap.size]? = some (.cells #[.int .i64 (wd : Int), .int .i64 (ht : Int)] 115 (0, 0)) := by rw [← hW0, Below.heap_alloc _ _ _ (by simp)]; exact heap_alloc_new w _
  have b1 : W0.heap[w.heap.size + 1]? = some (.cells #[.int .i64 0, .int .i64 0, .slice none 0 0] 120 (0, 0)) := by
    rw [← hW0]
    have := heap_alloc_new (w.alloc (.cells #[.int .i64 (wd : Int), .int .i64 (ht : Int)] 115)) (.cells #[.int .i64 0, .int .i64 0, .slice none 0 0] 120)
    simpa using this
  have s0 : W0.heap.size = w.heap.size + 2 := by rw [← hW0]; simp
  have HW := hide hW0
  have B0 := hide b0
  have B1 := hide b1
  have HG0 := hide G0
  clear hW0 b0 b1 G0
  go_enter Try.func89, Try.ntmps89
  go_wp2
  rw [unhide HW]
  clear HW
  refine wp_region_noPanic ?_
  refine wp_region_tailL 20 (fun W => W0.drew.grownBy W none) [true, true, false, false, false, false] (by kernel_rfl) (fun _ _ _ _ _ h => h) rfl (by decide) (by kernel_rfl) (World.grownBy.refl _ _) ?_
  have BD : Hid (W0.drew.heap[w.heap.size]? = some (.cells #[.int .i64 (wd : Int), .int .i64 (ht : Int)] 115 (0, 0))) := unhide B0
  have BE : Hid (W0.drew.heap[w.heap.size + 1]? = some (.cells #[.int .i64 0, .int .i64 0, .slice none 0 0] 120 (0, 0))) := unhide B1
  have gD : w.grownBy W0.drew none := grown_drew (unhide HG0)
  have sD : W0.drew.heap.size = w.heap.size + 2 := s0
  generalize W0.drew = W1 at *
  clear B0 B1 HG0 s0 W0
  iterate 2
    refine heldF_take (v := .agg #[.int .i64 (wd : Int), .int .i64 (ht : Int)]) (Or.inl ⟨by rfl, ?_⟩) ?_
    · intro w' hSw
      exact exec_row 115 _ rfl w.heap.size rfl _ _ (grown_atT hSw (unhide BD) (by simp)) _ Try.underlying115 rfl (by kernel_rfl)
    simp only [Act.put, List.setIfInBounds_toArray, List.set_cons_zero, List.set_cons_succ]
  refine heldF_skip (heldF_skip (heldF_skip (heldF_skip (heldF_nil ?_))))
  refine tailL_skip (tailL_skip ?_)
  refine tailL_step (fun K hK => ?_)
  go_simp
  refine (areaCount (wd : Int) (ht : Int) (by omega) (by omega) W1).mono ?_
  rintro e w4 ⟨rfl, g4⟩
  rw [hni]
  refine hK.out _ _ (.inr g4) ?_
  clear hK K
  try simp only [Act.put, List.setIfInBounds_toArray, List.set_cons_zero, List.set_cons_succ]
  refine tailL_step (fun K hK => ?_)
  rw [if_pos (by rfl)]
  obtain ⟨w5, hrun, r1, r2⟩ := run_make_full (P := Try.prog) w4 w.heap.size 118 80 i0 (.agg #[.int .i64 0, .int .i64 0, .int .i64 0, .int .i64 0, .int .i64 0, .int .i64 0, .int .i64 0, .int .i64 0, .int .i64 0, .int .i64 0, .int .i64 0, .int .i64 0, .int .i64 0, .int .i64 0, .int .i64 0, .int .i64 0, .int .i64 0, .int .i64 0, .int .i64 0, .int .i64 0, .int .i64 0, .int .i64 0, .int .i64 0, .int .i64 0, .int .i64 0, .int .i64 0, .int .i64 0, .int .i64 0, .int .i64 0, .int .i64 0, .int .i64 0, .int .i64 0, .int .i64 0, .int .i64 0, .int .i64 0, .int .i64 0, .int .i64 0, .int .i64 0, .int .i64 0, .int .i64 0, .int .i64 0, .int .i64 0, .int .i64 0, .int .i64 0, .int .i64 0, .int .i64 0, .int .i64 0, .int .i64 0, .int .i64 0, .int .i64 0, .int .i64 0, .int .i64 0, .int .i64 0, .int .i64 0, .int .i64 0, .int .i64 0, .int .i64 0, .int .i64 0, .int .i64 0, .int .i64 0, .int .i64 0, .int .i64 0, .int .i64 0, .int .i64 0]) 64 Try.underlying118 (unhide HI) (unhide HZ0) (unhide HZ1) .i64 .i64 n (by rw [unhide HZ2]; omega) (by unfold maxLen; omega) (by have := g4.size; omega)
  have t5 : Th w5 w4.heap.size (List.replicate n noughts) := Th.made r1 (fun j hj => by
    rw [Array.getElem?_toList]
    exact made_z64 n j hj)
  have T5 := hide t5
  have g5 := grown_trans g4 r2
  have b5 := grown_atT g5 (unhide BE) (by simp)
  clear t5 r1
  unfold Oper.wp
  simp only [execOp, Act.eval, Result.andThen, Sem.run_bind]
  go_simp
  refine hK.out _ _ (.inr g5) ?_
  clear hK K hrun
  try simp only [Act.put, List.setIfInBounds_toArray, List.set_cons_zero, List.set_cons_succ]
  refine tailL_step (fun K hK => ?_)
  go_simp
  refine hK.out _ _ (.inr g5) ?_
  clear hK K
  try simp only [Act.put, List.setIfInBounds_toArray, List.set_cons_zero, List.set_cons_succ]
  refine tailL_step (fun K hK => ?_)
  refine step_store_row (by rfl) 120 _ _ rfl (w.heap.size + 1) rfl #[.int .i64 (wd : Int), .int .i64 (ht : Int), .slice (some ⟨w4.heap.size, 0, none⟩) n n] rfl _ 120 b5 rfl (by kernel_rfl) (by simp [Value.oneCell']) ?_
  intro w6 hB6 g6
  refine hK.out _ _ (.inl rfl) (tailL_nil (NoPanic.normal ?_))
  clear hK K
  simp only [Act.put]
  have s4 := g4.size
  have t6 := (unhide T5).same (g6.block w4.heap.size (unhide T5).lt (by simp; omega))
  go_wp2
  refine bodyPost_ret (v := .agg #[.int .i64 (wd : Int), .int .i64 (ht : Int), .slice (some ⟨w4.heap.size, 0, none⟩) n n]) ?_ rfl ⟨w4.heap.size, n, rfl, t6, by omega, ?_⟩
  · rw [results_c1 rfl]
    exact run_loadVar_row w6 _ 120 120 _ (0, 0) _ hB6 Try.underlying120 rfl (by kernel_rfl)
  · exact grown_new (grown_trans gD g5) g6 (fun g e => by simp at e; omega)

end Go.Proofs.Ytibgldanmhckiaa

namespace Go.Proofs.Ytibgldanmhckiaa
open Go.RowKit

theorem append_rowR {α : Type} {P : World → Value → α → List Nat → Prop} (hP : OwOk P) {e T : TypeId} (hT : Try.prog.underlying T = some (.slice e)) (hI : (Try.prog.info? e).map (fun i => (i.zero, i.size, i.bytes)) = some (some (.slice none 0 0), 1, 24))
    {w : World} {ops : Array Oper} {rest : List Oper} {o : Oper} {a : Act} {Q : Exit → Act → World → Prop} (hgd : o.guard = none) (s x : Operand)
    (ho : o.op = .call { callee := .builtin .append, args := #[s, x], argTypes := #[T, T] })
    (v : Value) (L : List α) (F : List Nat) (hs : a.eval s = v) (hown : OwR e P w v L F) (hF : F.Nodup) (u : Value) (b : α) (Fb : List Nat) (hu : P w u b Fb) (hFb : Fb.Nodup) (hd : ∀ x ∈ Fb, x ∉ F) (hx : a.eval x = .slice (some ⟨w.heap.size, 0, none⟩) 1 1) (hb : L.length ≤ 1000000) (R : List α) (hR : L ++ [b] = R)
    (h : ∀ v' w' F', OwR e P w' v' R F' → F'.Nodup → (∀ x ∈ F', x ∈ F ∨ x ∈ Fb ∨ w.heap.size ≤ x) → Wr (blk v) w w' → wpList Try.prog ops Q rest (a.put o.dst v') w') :
    wpList Try.prog ops Q (o :: rest) a (w.alloc (.cells #[u] e)) := by
  subst hR
  obtain ⟨i0, hi, hz0, hz1, hz2⟩ := info_parts hI
  obtain ⟨us, Fs, l1, l2, o1, els, rfl⟩ := hown
  obtain ⟨uo, un, uc, rfl⟩ := hP.form _ _ _ _ hu
  have hn := List.nodup_append.1 hF
  refine wpList_append_own_at _ hgd s x T ho 0 e i0 _ 1 24 hT hi hz0 hz1 hz2 rfl (by decide) v L.length _ hs (o1.alloc _) ⟨w.heap.size, 0, none⟩ 1 1 [.slice uo un uc] hx rfl (World.news_of_block (cs := #[.slice uo un uc]) (t := e) (fr := (0, 0)) (heap_alloc_new w _)) (by intro y hy; simp at hy; subst hy; rfl) (by unfold maxLen; omega) (by omega) (Nat.zero_le _) ?_
  intro v' w' h1 h2 _ h4
  have hga : w.grownBy w' v.ownBlock := ⟨h2.os, h2.tape, h2.output, by have h := h2.size; simp at h; omega, fun k hk hr => (h2.block k (by simp; omega) hr).trans (Below.heap_alloc _ _ _ hk)⟩
  have hw : Wr (blk v) w w' := Wr.ofRow hga (fun g e => mem_blk.2 e)
  have hvb : ∀ y, y ∈ blk v' → y ∈ blk v ∨ w.heap.size ≤ y := fun y hy => by
    rcases h4 with h4 | h4
    · exact .inl (mem_blk.2 (by rw [← h4]; exact mem_blk.1 hy))
    · have e1 := mem_blk.1 hy
      rw [h4] at e1
      have e2 : (w.alloc (.cells #[.slice uo un uc] e)).heap.size = y := Option.some.inj e1
      exact .inr (by simp at e2; omega)
  have hfl : (Fs ++ [Fb]).flatten = Fs.flatten ++ Fb := by simp
  have hlt : ∀ y ∈ Fs.flatten, y < w.heap.size := fun y hy => by
    obtain ⟨l, hl, hyl⟩ := List.mem_flatten.1 hy
    obtain ⟨i, hi, rfl⟩ := List.mem_iff_getElem.1 hl
    exact hP.lt w _ _ _ (els i (by omega)) y (by simpa [hi] using hyl)
  refine h v' w' (blk v' ++ (Fs ++ [Fb]).flatten) ⟨us ++ [.slice uo un uc], Fs ++ [Fb], by simp [l1], by simp [l2], ?_, fun i hi => ?_, rfl⟩ ?_ ?_ hw
  · rw [List.length_append]; exact h1
  · by_cases hil : i < L.length
    · have e1 : (us ++ [Value.slice uo un uc]).getD i (.slice none 0 0) = us.getD i (.slice none 0 0) := by simp [List.getElem?_append_left (show i < us.length by omega)]
      have e2 : (Fs ++ [Fb]).getD i [] = Fs.getD i [] := by simp [List.getElem?_append_left (show i < Fs.length by omega)]
      rw [e1, e2, List.getElem_append_left hil]
      exact hP.wr (els i hil) hw (fun y hy hy2 => hn.2.2 y hy2 y (flat_in (by omega) y hy) rfl)
    · have hie : i = L.length := by rw [List.length_append] at hi; simp at hi; omega
      subst hie
      have e1 : (us ++ [Value.slice uo un uc]).getD L.length (.slice none 0 0) = .slice uo un uc := by rw [← l1]; simp
      have e2 : (Fs ++ [Fb]).getD L.length [] = Fb := by rw [← l2]; simp
      rw [e1, e2, List.getElem_append_right (Nat.le_refl _)]
      simp only [Nat.sub_self, List.getElem_cons_zero]
      exact hP.wr hu hw (fun y hy hy2 => hd y hy (by simp [hy2]))
  · rw [hfl]
    refine List.nodup_append.2 ⟨by unfold blk; cases v'.ownBlock <;> simp, List.nodup_append.2 ⟨hn.2.1, hFb, fun y hy z hz => ?_⟩, fun y hy z hz => ?_⟩
    · rintro rfl
      exact hd y hz (by simp [hy])
    · rintro rfl
      rcases List.mem_append.1 hz with hz | hz
      · rcases hvb y hy with h5 | h5
        · exact hn.2.2 y h5 y hz rfl
        · have := hlt y hz; omega
      · rcases hvb y hy with h5 | h5
        · exact hd y hz (by simp [h5])
        · have := hP.lt w _ _ _ hu y hz; omega
  · intro y hy
    rw [hfl] at hy
    rcases List.mem_append.1 hy with hy | hy
    · rcases hvb y hy with h5 | h5
      · exact .inl (by simp [h5])
      · exact .inr (.inr h5)
    · rcases List.mem_append.1 hy with hy | hy
      · exact .inl (by simp [hy])
      · exact .inr (.inl hy)

/-- The same, in a region that draws its order. -/
theorem step_append_rowR {α : Type} {P : World → Value → α → List Nat → Prop} (hP : OwOk P) {e T : TypeId} (hT : Try.prog.underlying T = some (.slice e)) (hI : (Try.prog.info? e).map (fun i => (i.zero, i.size, i.bytes)) = some (some (.slice none 0 0), 1, 24))
    {w : World} {ops : Array Oper} {o : Oper} {a : Act} {K : Act → World → Prop} {Q : Exit → Act → World → Prop} {E : Prop} (hgd : o.guard = none) (s x : Operand)
    (ho : o.op = .call { callee := .builtin .append, args := #[s, x], argTypes := #[T, T] })
    (v : Value) (L : List α) (F : List Nat) (hs : a.eval s = v) (hown : OwR e P w v L F) (hF : F.Nodup) (u : Value) (b : α) (Fb : List Nat) (hu : P w u b Fb) (hFb : Fb.Nodup) (hd : ∀ x ∈ Fb, x ∉ F) (hx : a.eval x = .slice (some ⟨w.heap.size, 0, none⟩) 1 1) (hb : L.length ≤ 1000000) (R : List α) (hR : L ++ [b] = R)
    (h : ∀ v' w' F', OwR e P w' v' R F' → F'.Nodup → (∀ x ∈ F', x ∈ F ∨ x ∈ Fb ∨ w.heap.size ≤ x) → Wr (blk v) w w' → K (a.put o.dst v') w') :
    if Region.wanted o (yielded ops a.tmps) = true then Oper.wp Try.prog o a (w.alloc (.cells #[u] e)) K Q else E := by
  subst hR
  obtain ⟨i0, hi, hz0, hz1, hz2⟩ := info_parts hI
  obtain ⟨us, Fs, l1, l2, o1, els, rfl⟩ := hown
  obtain ⟨uo, un, uc, rfl⟩ := hP.form _ _ _ _ hu
  have hn := List.nodup_append.1 hF
  refine step_append_lies _ hgd s x T ho 0 e i0 _ 1 24 hT hi hz0 hz1 hz2 rfl (by decide) v L.length _ hs (o1.alloc _) ⟨w.heap.size, 0, none⟩ 1 1 [.slice uo un uc] hx rfl (World.news_of_block (cs := #[.slice uo un uc]) (t := e) (fr := (0, 0)) (heap_alloc_new w _)) (by intro y hy; simp at hy; subst hy; rfl) (by omega) (by unfold maxLen; omega) (by omega) (Nat.zero_le _) _ rfl ?_
  intro g0 cap0 w' h1 h2 h4' _
  obtain ⟨v', hv'⟩ : ∃ v', Value.slice (some ⟨g0, 0, none⟩) (L.length + 1) cap0 = v' := ⟨_, rfl⟩
  have h4 : v'.ownBlock = v.ownBlock ∨ v'.ownBlock = some (w.alloc (.cells #[.slice uo un uc] e)).heap.size := by
    rcases h4' with h5 | h5
    · left; rw [← hv', h5]; rfl
    · right; rw [← hv', ← h5]; rfl
  rw [hv'] at h1 ⊢
  clear hv' h4'
  have hga : w.grownBy w' v.ownBlock := ⟨h2.os, h2.tape, h2.output, by have h := h2.size; simp at h; omega, fun k hk hr => (h2.block k (by simp; omega) hr).trans (Below.heap_alloc _ _ _ hk)⟩
  have hw : Wr (blk v) w w' := Wr.ofRow hga (fun g e => mem_blk.2 e)
  have hvb : ∀ y, y ∈ blk v' → y ∈ blk v ∨ w.heap.size ≤ y := fun y hy => by
    rcases h4 with h4 | h4
    · exact .inl (mem_blk.2 (by rw [← h4]; exact mem_blk.1 hy))
    · have e1 := mem_blk.1 hy
      rw [h4] at e1
      have e2 : (w.alloc (.cells #[.slice uo un uc] e)).heap.size = y := Option.some.inj e1
      exact .inr (by simp at e2; omega)
  have hfl : (Fs ++ [Fb]).flatten = Fs.flatten ++ Fb := by simp
  have hlt : ∀ y ∈ Fs.flatten, y < w.heap.size := fun y hy => by
    obtain ⟨l, hl, hyl⟩ := List.mem_flatten.1 hy
    obtain ⟨i, hi, rfl⟩ := List.mem_iff_getElem.1 hl
    exact hP.lt w _ _ _ (els i (by omega)) y (by simpa [hi] using hyl)
  refine h v' w' (blk v' ++ (Fs ++ [Fb]).flatten) ⟨us ++ [.slice uo un uc], Fs ++ [Fb], by simp [l1], by simp [l2], ?_, fun i hi => ?_, rfl⟩ ?_ ?_ hw
  · rw [List.length_append]; exact h1
  · by_cases hil : i < L.length
    · have e1 : (us ++ [Value.slice uo un uc]).getD i (.slice none 0 0) = us.getD i (.slice none 0 0) := by simp [List.getElem?_append_left (show i < us.length by omega)]
      have e2 : (Fs ++ [Fb]).getD i [] = Fs.getD i [] := by simp [List.getElem?_append_left (show i < Fs.length by omega)]
      rw [e1, e2, List.getElem_append_left hil]
      exact hP.wr (els i hil) hw (fun y hy hy2 => hn.2.2 y hy2 y (flat_in (by omega) y hy) rfl)
    · have hie : i = L.length := by rw [List.length_append] at hi; simp at hi; omega
      subst hie
      have e1 : (us ++ [Value.slice uo un uc]).getD L.length (.slice none 0 0) = .slice uo un uc := by rw [← l1]; simp
      have e2 : (Fs ++ [Fb]).getD L.length [] = Fb := by rw [← l2]; simp
      rw [e1, e2, List.getElem_append_right (Nat.le_refl _)]
      simp only [Nat.sub_self, List.getElem_cons_zero]
      exact hP.wr hu hw (fun y hy hy2 => hd y hy (by simp [hy2]))
  · rw [hfl]
    refine List.nodup_append.2 ⟨by unfold blk; cases v'.ownBlock <;> simp, List.nodup_append.2 ⟨hn.2.1, hFb, fun y hy z hz => ?_⟩, fun y hy z hz => ?_⟩
    · rintro rfl
      exact hd y hz (by simp [hy])
    · rintro rfl
      rcases List.mem_append.1 hz with hz | hz
      · rcases hvb y hy with h5 | h5
        · exact hn.2.2 y h5 y hz rfl
        · have := hlt y hz; omega
      · rcases hvb y hy with h5 | h5
        · exact hd y hz (by simp [h5])
        · have := hP.lt w _ _ _ hu y hz; omega
  · intro y hy
    rw [hfl] at hy
    rcases List.mem_append.1 hy with hy | hy
    · rcases hvb y hy with h5 | h5
      · exact .inl (by simp [h5])
      · exact .inr (.inr h5)
    · rcases List.mem_append.1 hy with hy | hy
      · exact .inl (by simp [hy])
      · exact .inr (.inl hy)

end Go.Proofs.Ytibgldanmhckiaa

namespace Go.Proofs.Ytibgldanmhckiaa
open Go.RowKit

/-- Coefficients that are being made: in a box, with another one for the answer. -/
structure Em (w wr : World) (b0 : Obj) (pv : Value) (L : List (List (List Int))) (F : List Nat) : Prop where
  own : Ow3 wr pv L F
  nd : F.Nodup
  lo : ∀ g ∈ F, w.heap.size + 3 ≤ g
  fb : wr.heap[w.heap.size]? = some b0
  rb : wr.heap[w.heap.size + 1]? = some (.cells #[.slice none 0 0] 29 (0, 0))
  cb : wr.heap[w.heap.size + 2]? = some (.cells #[pv] 29 (0, 0))
  grown : w.grownBy wr none
theorem Em.size {w wr : World} {b0 : Obj} {pv : Value} {L : List (List (List Int))} {F : List Nat} (h : Em w wr b0 pv L F) : w.heap.size + 3 ≤ wr.heap.size := by
  have := (Array.getElem?_eq_some_iff.1 h.cb).1; omega
/-- Another row was written. -/
theorem Em.wr {w wr w' : World} {b0 : Obj} {pv : Value} {L : List (List (List Int))} {F G : List Nat} (h : Em w wr b0 pv L F) (g : Wr G wr w') (h1 : ∀ x ∈ G, w.heap.size + 3 ≤ x) (h2 : ∀ x ∈ F, x ∉ G) : Em w w' b0 pv L F := by
  have hs := h.size
  refine ⟨ok3.wr h.own g h2, h.nd, h.lo, (g.block _ (by omega) (fun e => ?_)).trans h.fb, (g.block _ (by omega) (fun e => ?_)).trans h.rb, (g.block _ (by omega) (fun e => ?_)).trans h.cb, g.new h.grown (fun x hx => by have := h1 x hx; omega)⟩
  all_goals have := h1 _ e; omega
theorem Em.new {w wr w' : World} {b0 : Obj} {pv : Value} {L : List (List (List Int))} {F : List Nat} (h : Em w wr b0 pv L F) (g : wr.grownBy w' none) : Em w w' b0 pv L F := h.wr (Wr.ofNone (F := []) g) (fun x hx => by simp at hx) (fun x _ => by simp)
/-- The box holds other ones. -/
theorem Em.put {w wr w' : World} {b0 : Obj} {pv pv' : Value} {L L' : List (List (List Int))} {F F' : List Nat} (h : Em w wr b0 pv L F) (g : Wr (blk pv) wr w') (ho : Ow3 w' pv' L' F') (hn : F'.Nodup) (hl : ∀ g ∈ F', w.heap.size + 3 ≤ g) (hb : ∀ g ∈ blk pv, w.heap.size + 3 ≤ g) : Em w (w'.setCell ⟨w.heap.size + 2, 0, none⟩ pv') b0 pv' L' F' := by
  have hs := h.size
  have G := grown_set w' (w.heap.size + 2) 0 pv'
  have hfb : w'.heap[w.heap.size]? = some b0 := (g.block _ (by omega) (fun e => by have := hb _ e; omega)).trans h.fb
  have hrb := (g.block (w.heap.size + 1) (by omega) (fun e => by have := hb _ e; omega)).trans h.rb
  have hcb := (g.block (w.heap.size + 2) (by omega) (fun e => by have := hb _ e; omega)).trans h.cb
  refine ⟨ok3.wr ho (Wr.ofRow (F := [w.heap.size + 2]) G (fun x e => by have := Option.some.inj e; simp [this])) (fun x hx e => by simp at e; have := hl x hx; omega), hn, hl, grown_atT G hfb (by simp), grown_atT G hrb (by simp), ?_, ?_⟩
  · exact heap_setCell_same w' _ 0 _ _ _ hcb
  · exact grown_new (g.new h.grown (fun x hx => by have := hb x hx; omega)) G (fun k e => by have := Option.some.inj e; omega)

theorem empty_next (bn : Nat → Nat) (i : Nat) : emptyG i bn ++ [List.replicate (bn i) noughts] = emptyG (i + 1) bn := by unfold emptyG; rw [List.range_succ, List.map_append]; rfl
theorem rep_next (k : Nat) : List.replicate k noughts ++ [noughts] = List.replicate (k + 1) noughts := by rw [List.replicate_succ']
theorem info_i11 : (Try.prog.info? 3).map (fun i => (i.zero, i.size, i.bytes)) = some (some (.int .i64 0), 1, 8) := by kernel_rfl

set_option maxRecDepth 20000 in
set_option maxHeartbeats 3200000 in
theorem specEmpty (p wd ht rs : Int) (ao : Option Addr) (n cap : Nat) (C : Nat → Nat → Int) (w : World) (hr : RdC w ao n C) (b : Bool) (HFB : Hid (frameB p wd ht rs n C = b)) (X : List (List (List Int))) (HX : Hid (emptyF b wd ht n C = X)) :
    Calls Try.prog 19 #[.agg #[.int .i64 p, .int .i64 wd, .int .i64 ht, .int .i64 rs, .slice ao n cap]] w fun e w' => ∃ u F, e = .returned u ∧ OwCo w' u X F ∧ F.Nodup ∧ (∀ g ∈ F, w.heap.size ≤ g) ∧ w.grownBy w' none := by
  obtain ⟨W3, hW3⟩ : ∃ W3, (((w.alloc (.cells #[.int .i64 p, .int .i64 wd, .int .i64 ht, .int .i64 rs, .slice ao n cap] 26)).alloc (.cells #[.slice none 0 0] 29)).alloc (.cells #[.slice none 0 0] 29)) = W3 := ⟨_, rfl⟩
  have H0 : Hid (Em w W3 (.cells #[.int .i64 p, .int .i64 wd, .int .i64 ht, .int .i64 rs, .slice ao n cap] 26) (.slice none 0 0) [] []) := by
    refine ⟨OwR.nil _ _ _, List.nodup_nil, fun g hg => by simp at hg, ?_, ?_, ?_, ?_⟩
    · rw [← hW3, Below.heap_alloc _ _ _ (by simp; omega), Below.heap_alloc _ _ _ (by simp)]
      exact heap_alloc_new w _
    · rw [← hW3, Below.heap_alloc _ _ _ (by simp)]
      have := heap_alloc_new (w.alloc (.cells #[.int .i64 p, .int .i64 wd, .int .i64 ht, .int .i64 rs, .slice ao n cap] 26)) (.cells #[.slice none 0 0] 29)
      simpa using this
    · rw [← hW3]
      have := heap_alloc_new ((w.alloc (.cells #[.int .i64 p, .int .i64 wd, .int .i64 ht, .int .i64 rs, .slice ao n cap] 26)).alloc (.cells #[.slice none 0 0] 29)) (.cells #[.slice none 0 0] 29)
      simpa using this
    · rw [← hW3]; exact grown_alloc (grown_alloc (grown_alloc (World.grownBy.refl _ _) _) _) _
  have HW := hide hW3
  have HR := hide hr
  have HFO := hide (specFrameOk p wd ht rs ao n cap C W3 (hr.grown (unhide H0).grown) b HFB)
  have HEND : Hid (∀ (wr : World) (po : Option Addr) (pn pc : Nat) (L : List (List (List Int))) (F : List Nat), Em w wr (.cells #[.int .i64 p, .int .i64 wd, .int .i64 ht, .int .i64 rs, .slice ao n cap] 26) (.slice po pn pc) L F → L = X →
      (wr.setCell ⟨w.heap.size + 1, 0, none⟩ (.slice po pn pc)).cell? ⟨w.heap.size + 1, 0, none⟩ = some (.slice po pn pc) ∧ OwCo (wr.setCell ⟨w.heap.size + 1, 0, none⟩ (.slice po pn pc)) (.agg #[.slice po pn pc]) X F ∧ F.Nodup ∧ (∀ g ∈ F, w.heap.size ≤ g) ∧ w.grownBy (wr.setCell ⟨w.heap.size + 1, 0, none⟩ (.slice po pn pc)) none) := by
    intro wr po pn pc L F h e
    subst e
    have G := grown_set wr (w.heap.size + 1) 0 (.slice po pn pc)
    refine ⟨?_, ⟨_, rfl, ok3.wr h.own (Wr.ofRow (F := [w.heap.size + 1]) G (fun x e => by have := Option.some.inj e; simp [this])) (fun x hx e => by simp at e; have := h.lo x hx; omega)⟩, h.nd, fun g hg => by have := h.lo g hg; omega, grown_new h.grown G (fun k e => by have := Option.some.inj e; omega)⟩
    rw [cell_of_row _ _ 0 _ _ (0, 0) (heap_setCell_same wr _ 0 _ _ _ h.rb)]; rfl
  clear hW3 hr
  cases b with
  | false =>
    have hX : ([] : List (List (List Int))) = X := by rw [← unhide HX]; rfl
    go_enter Try.func19, Try.ntmps19
    go_wp2_with fail
    rw [unhide HW]
    refine (unhide HFO).mono ?_
    rintro e w1 ⟨rfl, g1⟩
    have h1 := (unhide H0).new g1
    have HE := hide (unhide HEND w1 none 0 0 [] [] h1 hX)
    have c0 : w1.cell? ⟨w.heap.size + 1 + 1, 0, none⟩ = some (.slice none 0 0) := by rw [cell_of_row w1 _ 0 _ _ (0, 0) h1.cb]; rfl
    have d0 : w1.cell? ⟨w.heap.size + 1, 0, none⟩ = some (.slice none 0 0) := by rw [cell_of_row w1 _ 0 _ _ (0, 0) h1.rb]; rfl
    have k0 : w1.frozen? ⟨w.heap.size + 1, 0, none⟩ = false := frozen_of_row w1 _ 0 _ _ h1.rb
    clear g1 h1 HFO H0 HW HEND
    go_wp2
    refine bodyPost_ret (v := .agg #[.slice none 0 0]) (by have hcc := (unhide HE).1; simp [results, Try.results19, go_sem, hcc]) rfl ?_
    exact ⟨_, [], rfl, (unhide HE).2⟩
  | true =>
    have hg := geo_of (unhide HFB)
    have hn4 := hg.n4
    have HG := hide hg
    obtain ⟨bn, HBN⟩ : ∃ bn : Nat → Nat, Hid ((fun c => bwG wd n C c * bhG ht n C c) = bn) := ⟨_, rfl⟩
    have HXE : Hid (emptyG n bn = X) := by rw [← unhide HX, ← unhide HBN]; rfl
    clear hg HX
    go_enter Try.func19, Try.ntmps19
    go_wp2_with fail
    rw [unhide HW]
    refine (unhide HFO).mono ?_
    rintro e w1 ⟨rfl, g1⟩
    have H1 := hide ((unhide H0).new g1)
    clear g1 HFO H0 HW
    go_wp2
    go_loopw [4] (fun iv wr => ∃ (i : Nat) (po : Option Addr) (pn pc : Nat) (F : List Nat), i ≤ n ∧ iv = .int .i64 i ∧ Hid (Em w wr (.cells #[.int .i64 p, .int .i64 wd, .int .i64 ht, .int .i64 rs, .slice ao n cap] 26) (.slice po pn pc) (emptyG i bn) F)) (fun iv _ => n - (intOf iv).toNat)
    case atStart => exact ⟨0, none, 0, 0, [], Nat.zero_le _, rfl, H1⟩
    case round =>
      clear H1
      obtain ⟨i, po, pn, pc, F, hi, rfl, hem⟩ := hrel
      obtain ⟨f0, f1, f2, f3, f4⟩ := frameCells' (unhide hem).fb
      by_cases hlt : i < n
      · have hd := dims_of (unhide HG) i hlt
        have HT := hide (specBlocks p wd ht rs ao n cap C wr ((unhide HR).grown (unhide hem).grown) _ _ (unhide HG) i hlt _ _ rfl rfl)
        rw [hd.bw, hd.bh] at HT
        have hbw := hd.bw1
        have hbh := hd.bh1
        have hbn : bwG wd n C i * bhG ht n C i = bn i := by rw [← unhide HBN]
        generalize bwG wd n C i = bw at *
        generalize bhG ht n C i = bh at *
        have hm : bw * bh ≤ 128 * 128 := Nat.mul_le_mul hbw.2 hbh.2
        rw [hbn] at hm
        have e3 : (bw : Int) * (bh : Int) = (bn i : Int) := by rw [← hbn]; simp
        obtain ⟨m, HM⟩ : ∃ m, Hid (bn i = m) := ⟨_, rfl⟩
        rw [unhide HM] at hm e3
        have e4 := i64_in (m : Int) (by omega)
        have hiI : (i : Int) < (n : Int) := by omega
        clear hd hbn
        go_wp2_with fail
        refine (unhide HT).mono ?_
        rintro e w2 ⟨rfl, g2⟩
        have h2 := (unhide hem).new g2
        have H3 := hide (h2.new (World.grownBy_alloc w2 (.cells #[] 32) none))
        have HO3 : Hid (Ow2 (w2.alloc (.cells #[] 32)) (.slice (some ⟨w2.heap.size, 0, none⟩) 0 0) (List.replicate 0 noughts) (blk (.slice (some ⟨w2.heap.size, 0, none⟩) 0 0))) := OwR.made (fun w => OwI.nil .i64 3 w) (World.ownsRow_lit w2 #[] 0 (Nat.zero_le _) (by unfold maxLen; omega) rfl)
        have HL3 : Hid (∀ x ∈ blk (.slice (some ⟨w2.heap.size, 0, none⟩) 0 0), w.heap.size + 3 ≤ x ∧ x ∉ F) := fun x hx => by
          have e9 : w2.heap.size = x := Option.some.inj (mem_blk.1 hx)
          have h5 := h2.size
          exact ⟨by omega, fun hF => by have := ok3.lt _ _ _ _ h2.own x hF; omega⟩
        clear g2 h2 HT hem f0 f1 f2 f3 f4
        go_wp2
        go_loopw [7, 8] (fun v kv wr => ∃ (k : Nat) (vo : Option Addr) (vn vc : Nat) (F2 : List Nat), k ≤ m ∧ v = .slice vo vn vc ∧ kv = .int .i64 k ∧ Hid (Ow2 wr (.slice vo vn vc) (List.replicate k noughts) F2) ∧ Hid F2.Nodup ∧ Hid (∀ x ∈ F2, w.heap.size + 3 ≤ x ∧ x ∉ F) ∧ Hid (Em w wr (.cells #[.int .i64 p, .int .i64 wd, .int .i64 ht, .int .i64 rs, .slice ao n cap] 26) (.slice po pn pc) (emptyG i bn) F)) (fun _ kv _ => m - (intOf kv).toNat)
        case atStart => exact ⟨0, some ⟨w2.heap.size, 0, none⟩, 0, 0, _, Nat.zero_le _, rfl, rfl, HO3, blk_nodup _, HL3, H3⟩
        case round =>
          clear HO3 HL3 H3
          obtain ⟨k, vo, vn, vc, F2, hk, rfl, rfl, ho, hn2, hl2, hem⟩ := hrel
          by_cases hkm : k < m
          · have hkI : (k : Int) < (m : Int) := by omega
            obtain ⟨i0, hi, hz0, hz1, hz2⟩ := info_parts info_i11
            go_wp2_with (at_make; refine wpList_make_full _ rfl _ _ 32 rfl 0 3 i0 (.int .i64 0) 1 Try.underlying32 hi hz0 hz1 .i64 .i64 64 64 64 rfl rfl rfl rfl (by rw [hz2]; omega) (by unfold maxLen; omega) (Nat.zero_le _) ?_)
            intro w4 hown hgrow
            rw [toList_madeCells_one] at hown
            have hu : OwI .i64 3 w4 (.slice (some ⟨wr.heap.size, 0, none⟩) 64 64) noughts (blk (.slice (some ⟨wr.heap.size, 0, none⟩) 64 64)) := by
              refine ⟨?_, rfl⟩
              have e9 : noughts.map (Value.int .i64) = List.replicate 64 (.int .i64 0) := by unfold noughts; rw [List.map_replicate]
              rw [e9]
              exact hown
            have HU := hide hu
            have HO4 := hide (ok2.keep (unhide ho) hgrow)
            have H4 := hide ((unhide hem).new hgrow)
            have HDU : Hid (∀ x ∈ blk (.slice (some ⟨wr.heap.size, 0, none⟩) 64 64), x ∉ F2 ∧ x ∉ F ∧ w.heap.size + 3 ≤ x) := fun x hx => by
              have e9 : wr.heap.size = x := Option.some.inj (mem_blk.1 hx)
              have h5 := (unhide hem).size
              exact ⟨fun h => by have := ok2.lt _ _ _ _ (unhide ho) x h; omega, fun h => by have := ok3.lt _ _ _ _ (unhide hem).own x h; omega, by omega⟩
            have HRL : Hid ((List.replicate k noughts).length ≤ 1000000) := by unfold Hid; rw [List.length_replicate]; omega
            clear hown hgrow hu hi hz0 hz1 hz2 ho hem
            go_wp2_with (at_builtin; refine append_rowR ok1 Try.underlying42 infoIntSS rfl _ _ rfl (.slice vo vn vc) (List.replicate k noughts) F2 rfl (unhide HO4) (unhide hn2) _ noughts _ (unhide HU) (blk_nodup _) (fun x hx => (unhide HDU x hx).1) rfl (unhide HRL) _ (rep_next k) ?_)
            intro v5 w5 F5 o5 n5 m5 g5
            obtain ⟨vo5, vc5, rfl⟩ := o5.form
            have HO5 := hide o5
            have HN5 := hide n5
            have hsub : ∀ x ∈ blk (.slice vo vn vc), x ∈ F2 := by
              obtain ⟨us, Fs, _, _, _, _, e9⟩ := unhide HO4
              intro x hx
              rw [e9]
              simp [hx]
            have HL5 : Hid (∀ x ∈ F5, w.heap.size + 3 ≤ x ∧ x ∉ F) := fun x hx => by
              rcases m5 x hx with h | h | h
              · exact unhide hl2 x h
              · exact ⟨(unhide HDU x h).2.2, (unhide HDU x h).2.1⟩
              · have h5 := (unhide H4).size
                exact ⟨by omega, fun hF => by have := ok3.lt _ _ _ _ (unhide H4).own x hF; omega⟩
            have H5 := hide ((unhide H4).wr g5 (fun x hx => (unhide hl2 x (hsub x hx)).1) (fun x hx hx2 => (unhide hl2 x (hsub x hx2)).2 hx))
            clear o5 n5 m5 g5 hsub HO4 H4 HU HDU hn2 hl2 HRL
            go_wp2
            go_roundw
            case rel => exact ⟨k + 1, vo5, _, vc5, F5, by omega, rfl, by go_num, HO5, HN5, HL5, H5⟩
            case measure => simp [intOf]; omega
          · obtain rfl : k = m := by omega
            obtain ⟨vo', vc', e8⟩ := (unhide ho).form
            obtain ⟨rfl, rfl, rfl⟩ : vo = vo' ∧ vn = (List.replicate k noughts).length ∧ vc = vc' := by simpa using e8
            clear e8
            have c2 : wr.cell? ⟨w.heap.size + 1 + 1, 0, none⟩ = some (.slice po pn pc) := by rw [cell_of_row wr _ 0 _ _ (0, 0) (unhide hem).cb]; rfl
            have HRL : Hid ((emptyG i bn).length ≤ 1000000) := by unfold Hid emptyG; rw [List.length_map, List.length_range]; omega
            have HEN : Hid (emptyG i bn ++ [List.replicate k noughts] = emptyG (i + 1) bn) := by unfold Hid; rw [← unhide HM]; exact empty_next bn i
            obtain ⟨vn, HVN⟩ : ∃ vn, Hid ((List.replicate k noughts).length = vn) := ⟨_, rfl⟩
            rw [unhide HVN] at ho ⊢
            go_wp2_with (at_builtin; refine append_rowR ok2 Try.underlying27 infoIntSSS rfl _ _ rfl (.slice po pn pc) (emptyG i bn) F rfl (unhide hem).own (unhide hem).nd _ (List.replicate k noughts) F2 (unhide ho) (unhide hn2) (fun x hx => (unhide hl2 x hx).2) rfl (unhide HRL) _ (unhide HEN) ?_)
            intro v6 w6 F6 o6 n6 m6 g6
            obtain ⟨vo6, vc6, rfl⟩ := o6.form
            have hsub : ∀ x ∈ blk (.slice po pn pc), w.heap.size + 3 ≤ x := by
              obtain ⟨us, Fs, _, _, _, _, e9⟩ := (unhide hem).own
              intro x hx
              exact (unhide hem).lo x (by rw [e9]; simp [hx])
            have hl6 : ∀ x ∈ F6, w.heap.size + 3 ≤ x := fun x hx => by
              rcases m6 x hx with h | h | h
              · exact (unhide hem).lo x h
              · exact (unhide hl2 x h).1
              · have := (unhide hem).size; omega
            have H6 := hide ((unhide hem).put g6 o6 n6 hl6 hsub)
            have hcb6 := (g6.block (w.heap.size + 2) (by have := (unhide hem).size; omega) (fun e => by have := hsub _ e; omega)).trans (unhide hem).cb
            have c6 : w6.cell? ⟨w.heap.size + 1 + 1, 0, none⟩ = some (.slice po pn pc) := by rw [cell_of_row w6 _ 0 _ _ (0, 0) hcb6]; rfl
            have k6 : w6.frozen? ⟨w.heap.size + 1 + 1, 0, none⟩ = false := frozen_of_row w6 _ 0 _ _ hcb6
            obtain ⟨el, HEL⟩ : ∃ el, Hid ((emptyG (i + 1) bn).length = el) := ⟨_, rfl⟩
            rw [unhide HEL] at H6 ⊢
            clear o6 n6 m6 g6 hl6 hsub hem ho hn2 hl2 HRL HEN hcb6 c2
            go_wp2
            go_roundw
            case rel => exact ⟨i + 1, vo6, el, vc6, F6, by omega, by go_num, H6⟩
            case measure => simp [intOf]; omega
      · obtain rfl : i = n := by omega
        have c0 : wr.cell? ⟨w.heap.size + 1 + 1, 0, none⟩ = some (.slice po pn pc) := by rw [cell_of_row wr _ 0 _ _ (0, 0) (unhide hem).cb]; rfl
        have d0 : wr.cell? ⟨w.heap.size + 1, 0, none⟩ = some (.slice none 0 0) := by rw [cell_of_row wr _ 0 _ _ (0, 0) (unhide hem).rb]; rfl
        have k0 : wr.frozen? ⟨w.heap.size + 1, 0, none⟩ = false := frozen_of_row wr _ 0 _ _ (unhide hem).rb
        have HE := hide (unhide HEND wr po pn pc _ F (unhide hem) (unhide HXE))
        clear hem HEND
        go_wp2
        refine bodyPost_ret (v := .agg #[.slice po pn pc]) (by have hcc := (unhide HE).1; simp [results, Try.results19, go_sem, hcc]) rfl ?_
        exact ⟨_, F, rfl, (unhide HE).2⟩

end Go.Proofs.Ytibgldanmhckiaa

namespace Go.Proofs.Ytibgldanmhckiaa
open Go.RowKit

theorem takeX_next {α : Type} (X : List α) (i : Nat) (h : i < X.length) : X.take i ++ [X[i]] = X.take (i + 1) := (List.take_succ_eq_append_getElem h).symm

set_option maxRecDepth 20000 in
set_option maxHeartbeats 3200000 in
theorem specCopy (v : Value) (X : List (List (List Int))) (w : World) (hx : Rd3 w v X) (hlen : X.length ≤ 900000) (hs : ∀ c (hc : c < X.length), X[c].length ≤ 900000) (h64 : ∀ c (hc : c < X.length) k (hk : k < X[c].length), X[c][k].length = 64) :
    Calls Try.prog 48 #[.agg #[v]] w fun e w' => ∃ u F, e = .returned u ∧ OwCo w' u X F ∧ F.Nodup ∧ (∀ g ∈ F, w.heap.size ≤ g) ∧ w.grownBy w' none := by
  obtain ⟨xo, xc, rfl, hel⟩ := id hx
  have HEL := hide hel
  have HS := hide hs
  have H64 := hide h64
  obtain ⟨m, HM⟩ : ∃ m, Hid (X.length = m) := ⟨_, rfl⟩
  rw [unhide HM] at hlen ⊢
  obtain ⟨W3, hW3⟩ : ∃ W3, (((w.alloc (.cells #[.slice xo m xc] 29)).alloc (.cells #[.slice none 0 0] 29)).alloc (.cells #[.slice none 0 0] 29)) = W3 := ⟨_, rfl⟩
  have H0 : Hid (Em w W3 (.cells #[.slice xo m xc] 29) (.slice none 0 0) [] []) := by
    refine ⟨OwR.nil _ _ _, List.nodup_nil, fun g hg => by simp at hg, ?_, ?_, ?_, ?_⟩
    · rw [← hW3, Below.heap_alloc _ _ _ (by simp; omega), Below.heap_alloc _ _ _ (by simp)]
      exact heap_alloc_new w _
    · rw [← hW3, Below.heap_alloc _ _ _ (by simp)]
      have := heap_alloc_new (w.alloc (.cells #[.slice xo m xc] 29)) (.cells #[.slice none 0 0] 29)
      simpa using this
    · rw [← hW3]
      have := heap_alloc_new ((w.alloc (.cells #[.slice xo m xc] 29)).alloc (.cells #[.slice none 0 0] 29)) (.cells #[.slice none 0 0] 29)
      simpa using this
    · rw [← hW3]; exact grown_alloc (grown_alloc (grown_alloc (World.grownBy.refl _ _) _) _) _
  have HW := hide hW3
  have HEND : Hid (∀ (wr : World) (po : Option Addr) (pn pc : Nat) (L : List (List (List Int))) (F : List Nat), Em w wr (.cells #[.slice xo m xc] 29) (.slice po pn pc) L F → L = X →
      (wr.setCell ⟨w.heap.size + 1, 0, none⟩ (.slice po pn pc)).cell? ⟨w.heap.size + 1, 0, none⟩ = some (.slice po pn pc) ∧ OwCo (wr.setCell ⟨w.heap.size + 1, 0, none⟩ (.slice po pn pc)) (.agg #[.slice po pn pc]) X F ∧ F.Nodup ∧ (∀ g ∈ F, w.heap.size ≤ g) ∧ w.grownBy (wr.setCell ⟨w.heap.size + 1, 0, none⟩ (.slice po pn pc)) none) := by
    intro wr po pn pc L F h e
    subst e
    have G := grown_set wr (w.heap.size + 1) 0 (.slice po pn pc)
    refine ⟨?_, ⟨_, rfl, ok3.wr h.own (Wr.ofRow (F := [w.heap.size + 1]) G (fun x e => by have := Option.some.inj e; simp [this])) (fun x hx e => by simp at e; have := h.lo x hx; omega)⟩, h.nd, fun g hg => by have := h.lo g hg; omega, grown_new h.grown G (fun k e => by have := Option.some.inj e; omega)⟩
    rw [cell_of_row _ _ 0 _ _ (0, 0) (heap_setCell_same wr _ 0 _ _ _ h.rb)]; rfl
  clear hW3 hx hel hs h64
  go_enter Try.func48, Try.ntmps48
  go_wp2
  rw [unhide HW]
  clear HW
  go_loopw [4] (fun iv wr => ∃ (i : Nat) (po : Option Addr) (pn pc : Nat) (F : List Nat), i ≤ m ∧ iv = .int .i64 i ∧ Hid (Em w wr (.cells #[.slice xo m xc] 29) (.slice po pn pc) (X.take i) F)) (fun iv _ => m - (intOf iv).toNat)
  case atStart => exact ⟨0, none, 0, 0, [], Nat.zero_le _, rfl, H0⟩
  case round =>
    clear H0
    obtain ⟨i, po, pn, pc, F, hi, rfl, hem⟩ := hrel
    have f0 : wr.cell? ⟨w.heap.size, 0, none⟩ = some (.slice xo m xc) := by rw [cell_of_row wr _ 0 _ _ (0, 0) (unhide hem).fb]; rfl
    by_cases hlt : i < m
    · have hia : i < X.length := by rw [unhide HM]; exact hlt
      obtain ⟨pb, poff, pu, rfl, pc0, pq⟩ := unhide HEL i hia
      obtain ⟨plo, pcap, rfl, pel⟩ := pq
      have HPE := hide pel
      have hpl := unhide HS i hia
      have HP64 := hide (unhide H64 i hia)
      have HTN := hide (takeX_next X i hia)
      generalize X[i] = Pl at *
      obtain ⟨pl, HPL⟩ : ∃ pl, Hid (Pl.length = pl) := ⟨_, rfl⟩
      rw [unhide HPL] at hpl pc0
      have hiI : (i : Int) < (m : Int) := by omega
      have H3 := hide ((unhide hem).new (World.grownBy_alloc wr (.cells #[] 32) none))
      have HO3 : Hid (Ow2 (wr.alloc (.cells #[] 32)) (.slice (some ⟨wr.heap.size, 0, none⟩) 0 0) (Pl.take 0) (blk (.slice (some ⟨wr.heap.size, 0, none⟩) 0 0))) := OwR.made (n := 0) (fun w => OwI.nil .i64 3 w) (World.ownsRow_lit wr #[] 0 (Nat.zero_le _) (by unfold maxLen; omega) rfl)
      have HL3 : Hid (∀ x ∈ blk (.slice (some ⟨wr.heap.size, 0, none⟩) 0 0), w.heap.size + 3 ≤ x ∧ x ∉ F) := fun x hx => by
        have e9 : wr.heap.size = x := Option.some.inj (mem_blk.1 hx)
        have h5 := (unhide hem).size
        exact ⟨by omega, fun hF => by have := ok3.lt _ _ _ _ (unhide hem).own x hF; omega⟩
      obtain ⟨wo, HWO⟩ : ∃ wo, Hid (wr.heap.size = wo) := ⟨_, rfl⟩
      rw [unhide HWO] at HO3 HL3
      clear hem pel
      go_wp2
      rw [unhide HWO]
      clear f0
      go_loopw [5, 6] (fun v kv wr => ∃ (k : Nat) (vo : Option Addr) (vn vc : Nat) (F2 : List Nat), k ≤ pl ∧ v = .slice vo vn vc ∧ kv = .int .i64 k ∧ Hid (Ow2 wr (.slice vo vn vc) (Pl.take k) F2) ∧ Hid F2.Nodup ∧ Hid (∀ x ∈ F2, w.heap.size + 3 ≤ x ∧ x ∉ F) ∧ Hid (Em w wr (.cells #[.slice (some ⟨pb, poff, none⟩) m xc] 29) (.slice po pn pc) (X.take i) F)) (fun _ kv _ => pl - (intOf kv).toNat)
      case atStart => exact ⟨0, some ⟨wo, 0, none⟩, 0, 0, _, Nat.zero_le _, rfl, rfl, HO3, blk_nodup _, HL3, H3⟩
      case round =>
        clear HO3 HL3 H3
        obtain ⟨k, vo, vn, vc, F2, hk, rfl, rfl, ho, hn2, hl2, hem⟩ := hrel
        have f0 : wr.cell? ⟨w.heap.size, 0, none⟩ = some (.slice (some ⟨pb, poff, none⟩) m xc) := by rw [cell_of_row wr _ 0 _ _ (0, 0) (unhide hem).fb]; rfl
        have p0 := (unhide hem).grown.cell pc0 (by simp)
        by_cases hkl : k < pl
        · have hka : k < Pl.length := by rw [unhide HPL]; exact hkl
          obtain ⟨kb, koff, ku, rfl, kc0, kq⟩ := unhide HPE k hka
          obtain ⟨zo, zcap, rfl, zr⟩ := kq
          have hz64 := unhide HP64 k hka
          have HTK := hide (takeX_next Pl k hka)
          generalize Pl[k] = zs at *
          obtain ⟨zb, zoff, rfl, _⟩ := zr.2 0 (by omega)
          rw [hz64] at kc0 zr
          have k0 := (unhide hem).grown.cell kc0 (by simp)
          obtain ⟨W4, HW4⟩ : ∃ W4, Hid (wr.alloc (.cells #[] 3) = W4) := ⟨_, rfl⟩
          have g4 : wr.grownBy W4 none := by rw [← unhide HW4]; exact World.grownBy_alloc _ _ _
          have H4 := hide ((unhide hem).new g4)
          have HO4 := hide (ok2.keep (unhide ho) g4)
          have HE4 : Hid (W4.ownsRow wr.heap.size 3 1 (.slice (some ⟨wr.heap.size, 0, none⟩) 0 0) ([] : List Int).length (([] : List Int).map (Value.int .i64))) := by
            unfold Hid
            rw [← unhide HW4]
            exact World.ownsRow_lit wr #[] 0 (Nat.le_refl _) (by unfold maxLen; omega) rfl
          have HZ4 := hide (zr.grown (unhide H4).grown)
          have a0 : (wr.alloc (.cells #[] 3)).cell? ⟨w.heap.size, 0, none⟩ = some (.slice (some ⟨pb, poff, none⟩) m xc) := by rw [unhide HW4]; exact g4.cell f0 (by simp)
          have a1 := g4.cell p0 (by simp)
          have a2 := g4.cell k0 (by simp)
          rw [← unhide HW4] at a1 a2
          have hiI2 : (k : Int) < (pl : Int) := by omega
          have HS4 : Hid (wr.heap.size ≤ W4.heap.size) := g4.size
          have HZ64 := hide hz64
          have HLT : Hid ((∀ x ∈ F2, x < wr.heap.size) ∧ (∀ x ∈ F, x < wr.heap.size) ∧ w.heap.size + 3 ≤ wr.heap.size) := ⟨ok2.lt _ _ _ _ (unhide ho), ok3.lt _ _ _ _ (unhide hem).own, (unhide hem).size⟩
          clear hem ho k0 kc0 zr g4 hz64
          go_wp2_with (at_builtin; rw [unhide HW4]; refine append_rdI rfl _ _ rfl wr.heap.size (.slice (some ⟨wr.heap.size, 0, none⟩) 0 0) [] rfl (unhide HE4) ⟨zb, zoff, none⟩ 64 zcap zs rfl (unhide HZ4) (by simp) (unhide HS4) zs (List.nil_append zs) ?_)
          intro v5 w5 o5 g5
          obtain ⟨so5, sc5, rfl⟩ := own_form o5
          have hlo5 : ∀ x ∈ blk (.slice so5 zs.length sc5), wr.heap.size ≤ x := fun x hx => (o5.lt x (mem_blk.1 hx)).1
          have HB5 : Hid (∀ x ∈ blk (.slice so5 zs.length sc5), x ∉ F2 ∧ x ∉ F ∧ w.heap.size + 3 ≤ x) := fun x hx => by
            have h1 := hlo5 x hx
            obtain ⟨q1, q2, q3⟩ := unhide HLT
            exact ⟨fun h => by have := q1 x h; omega, fun h => by have := q2 x h; omega, by omega⟩
          have HU5 : Hid (OwI .i64 3 w5 (.slice so5 zs.length sc5) zs (blk (.slice so5 zs.length sc5))) := OwI.of o5
          have g5b : Wr [wr.heap.size] W4 w5 := Wr.ofRow g5 (fun g e => by have : wr.heap.size = g := Option.some.inj e; simp [this])
          have HO5 := hide (ok2.wr (unhide HO4) g5b (fun x hx e => by simp at e; have := (unhide HLT).1 x hx; omega))
          have H5 := hide ((unhide H4).wr g5b (fun x hx => by simp at hx; have := (unhide HLT).2.2; omega) (fun x hx e => by simp at e; have := (unhide HLT).2.1 x hx; omega))
          have HRL : Hid ((Pl.take k).length ≤ 1000000) := by unfold Hid; rw [List.length_take]; have := unhide HPL; omega
          obtain ⟨zl, HZL⟩ : ∃ zl, Hid (zs.length = zl) := ⟨_, rfl⟩
          rw [unhide HZL] at HU5 HB5 ⊢
          clear o5 g5 g5b hlo5 HE4 HZ4 HO4 H4 a0 a1 a2 HS4 f0 p0
          go_wp2_with (at_builtin; refine append_rowR ok1 Try.underlying42 infoIntSS rfl _ _ rfl (.slice vo vn vc) (Pl.take k) F2 rfl (unhide HO5) (unhide hn2) _ zs _ (unhide HU5) (blk_nodup _) (fun x hx => (unhide HB5 x hx).1) rfl (unhide HRL) _ (unhide HTK) ?_)
          intro v6 w6 F6 o6 n6 m6 g6
          obtain ⟨vo6, vc6, rfl⟩ := o6.form
          obtain ⟨tl, HTL⟩ : ∃ tl, Hid ((Pl.take (k + 1)).length = tl) := ⟨_, rfl⟩
          rw [unhide HTL] at o6 ⊢
          have HO6 := hide o6
          have HN6 := hide n6
          have hsub : ∀ x ∈ blk (.slice vo vn vc), x ∈ F2 := by
            obtain ⟨us, Fs, _, _, _, _, e9⟩ := unhide HO5
            intro x hx
            rw [e9]
            simp [hx]
          have HL6 : Hid (∀ x ∈ F6, w.heap.size + 3 ≤ x ∧ x ∉ F) := fun x hx => by
            rcases m6 x hx with h | h | h
            · exact unhide hl2 x h
            · exact ⟨(unhide HB5 x h).2.2, (unhide HB5 x h).2.1⟩
            · have h5 := (unhide H5).size
              exact ⟨by omega, fun hF => by have := ok3.lt _ _ _ _ (unhide H5).own x hF; omega⟩
          have H6 := hide ((unhide H5).wr g6 (fun x hx => (unhide hl2 x (hsub x hx)).1) (fun x hx hx2 => (unhide hl2 x (hsub x hx2)).2 hx))
          clear o6 n6 m6 g6 hsub HO5 H5 HU5 HB5 hn2 hl2 HRL HLT
          go_wp2
          go_roundw
          case rel => exact ⟨k + 1, vo6, tl, vc6, F6, by omega, rfl, by go_num, HO6, HN6, HL6, H6⟩
          case measure => simp [intOf]; omega
        · obtain rfl : k = pl := by omega
          have hall : Pl.take k = Pl := by rw [← unhide HPL, List.take_length]
          rw [hall] at ho
          obtain ⟨vo', vc', e8⟩ := (unhide ho).form
          obtain ⟨rfl, rfl, rfl⟩ : vo = vo' ∧ vn = Pl.length ∧ vc = vc' := by simpa using e8
          clear e8 hall
          have c2 : wr.cell? ⟨w.heap.size + 1 + 1, 0, none⟩ = some (.slice po pn pc) := by rw [cell_of_row wr _ 0 _ _ (0, 0) (unhide hem).cb]; rfl
          have HRL : Hid ((X.take i).length ≤ 1000000) := by
            unfold Hid
            rw [List.length_take]
            have h9 := unhide HM
            omega
          rw [unhide HPL] at ho ⊢
          go_wp2_with (at_builtin; refine append_rowR ok2 Try.underlying27 infoIntSSS rfl _ _ rfl (.slice po pn pc) (X.take i) F rfl (unhide hem).own (unhide hem).nd _ Pl F2 (unhide ho) (unhide hn2) (fun x hx => (unhide hl2 x hx).2) rfl (unhide HRL) _ (unhide HTN) ?_)
          intro v6 w6 F6 o6 n6 m6 g6
          obtain ⟨vo6, vc6, rfl⟩ := o6.form
          have hsub : ∀ x ∈ blk (.slice po pn pc), w.heap.size + 3 ≤ x := by
            obtain ⟨us, Fs, _, _, _, _, e9⟩ := (unhide hem).own
            intro x hx
            exact (unhide hem).lo x (by rw [e9]; simp [hx])
          have hl6 : ∀ x ∈ F6, w.heap.size + 3 ≤ x := fun x hx => by
            rcases m6 x hx with h | h | h
            · exact (unhide hem).lo x h
            · exact (unhide hl2 x h).1
            · have := (unhide hem).size; omega
          have H6 := hide ((unhide hem).put g6 o6 n6 hl6 hsub)
          have hcb6 := (g6.block (w.heap.size + 2) (by have := (unhide hem).size; omega) (fun e => by have := hsub _ e; omega)).trans (unhide hem).cb
          have c6 : w6.cell? ⟨w.heap.size + 1 + 1, 0, none⟩ = some (.slice po pn pc) := by rw [cell_of_row w6 _ 0 _ _ (0, 0) hcb6]; rfl
          have k6 : w6.frozen? ⟨w.heap.size + 1 + 1, 0, none⟩ = false := frozen_of_row w6 _ 0 _ _ hcb6
          obtain ⟨el, HEL2⟩ : ∃ el, Hid ((X.take (i + 1)).length = el) := ⟨_, rfl⟩
          rw [unhide HEL2] at H6 ⊢
          clear o6 n6 m6 g6 hl6 hsub hem ho hn2 hl2 HRL hcb6 c2 f0 p0
          go_wp2
          go_roundw
          case rel => exact ⟨i + 1, vo6, el, vc6, F6, by omega, by go_num, H6⟩
          case measure => simp [intOf]; omega
    · obtain rfl : i = m := by omega
      have hall : X.take i = X := by rw [← unhide HM, List.take_length]
      have c0 : wr.cell? ⟨w.heap.size + 1 + 1, 0, none⟩ = some (.slice po pn pc) := by rw [cell_of_row wr _ 0 _ _ (0, 0) (unhide hem).cb]; rfl
      have d0 : wr.cell? ⟨w.heap.size + 1, 0, none⟩ = some (.slice none 0 0) := by rw [cell_of_row wr _ 0 _ _ (0, 0) (unhide hem).rb]; rfl
      have k0 : wr.frozen? ⟨w.heap.size + 1, 0, none⟩ = false := frozen_of_row wr _ 0 _ _ (unhide hem).rb
      have HE := hide (unhide HEND wr po pn pc _ F (unhide hem) hall)
      clear hem HEND hall
      go_wp2
      refine bodyPost_ret (v := .agg #[.slice po pn pc]) (by have hcc := (unhide HE).1; simp [results, Try.results48, go_sem, hcc]) rfl ?_
      exact ⟨_, F, rfl, (unhide HE).2⟩

end Go.Proofs.Ytibgldanmhckiaa

namespace Go.Proofs.Ytibgldanmhckiaa
open Go.RowKit Go.Shelf

theorem OwR.head {α : Type} {e : TypeId} {P : World → Value → α → List Nat → Prop} {w : World} {v : Value} {L : List α} {F : List Nat} (h : OwR e P w v L F) : ∀ x ∈ blk v, x ∈ F := by
  obtain ⟨us, Fs, _, _, _, _, rfl⟩ := h
  intro x hx
  simp [hx]
theorem OwR.none0 {α : Type} {e : TypeId} (P : World → Value → α → List Nat → Prop) {w : World} {v : Value} {base : Nat} (h : w.ownsRow base e 1 v 0 []) : OwR e P w v [] (blk v) :=
  ⟨[], [], rfl, rfl, own_base h (Nat.zero_le _), fun i hi => absurd hi (by simp), by simp⟩

set_option maxRecDepth 20000 in
set_option maxHeartbeats 3200000 in
theorem blockLists (wd ht g cap : Nat) (L : List (List Int)) (hw : wd ≤ 1024) (hh : ht ≤ 1024) (hL : L.length ≤ 1000000) (w : World) (hT : Th w g L) :
    Calls Try.prog 82 #[.agg #[.int .i64 (wd : Int), .int .i64 (ht : Int), .slice (some ⟨g, 0, none⟩) L.length cap]] w fun e w' => ∃ v F, e = .returned v ∧ Ow2 w' v L F ∧ F.Nodup ∧ (∀ x ∈ F, w.heap.size ≤ x) ∧ w.grownBy w' none := by
  obtain ⟨W0, hW0⟩ : ∃ W0, w.alloc (.cells #[.int .i64 (wd : Int), .int .i64 (ht : Int), .slice (some ⟨g, 0, none⟩) L.length cap] 120) = W0 := ⟨_, rfl⟩
  have G0 : w.grownBy W0 none := by rw [← hW0]; exact World.grownBy_alloc _ _ _
  have b0 : W0.heap[w.heap.size]? = some (.cells #[.int .i64 (wd : Int), .int .i64 (ht : Int), .slice (some ⟨g, 0, none⟩) L.length cap] 120 (0, 0)) := by rw [← hW0]; exact heap_alloc_new w _
  have HT0 := hide (hT.grown G0)
  have c2 : W0.cell? ⟨w.heap.size, 2, none⟩ = some (.slice (some ⟨g, 0, none⟩) L.length cap) := by rw [cell_of_row W0 _ 2 _ _ (0, 0) b0]; rfl
  have C2 := hide c2
  have HW := hide hW0
  have HG0 := hide G0
  have s0 : W0.heap.size = w.heap.size + 1 := by rw [← hW0]; simp
  have HLL := hide hT.len
  have hn1 : wd * ht ≤ 1024 * 1024 := Nat.mul_le_mul hw hh
  clear hW0 G0 hT b0 c2
  obtain ⟨i0, hi, hz0, hz1, hz2⟩ := info_parts infoIntSS
  have HI := hide hi
  have HZ0 := hide hz0
  have HZ1 := hide hz1
  have HZ2 := hide hz2
  clear hi hz0 hz1 hz2
  go_enter Try.func82, Try.ntmps82
  go_wp2_with fail
  rw [unhide HW]
  clear HW
  refine (areaCount (wd : Int) (ht : Int) (by omega) (by omega) W0).mono ?_
  rintro e w1 ⟨rfl, g1⟩
  have c2 := g1.cell (unhide C2) (by simp)
  go_wp2_with (at_make; refine wpList_make_own _ rfl _ _ 42 rfl 0 32 i0 (.slice none 0 0) 1 Try.underlying42 (unhide HI) (unhide HZ0) (unhide HZ1) .i64 .i64 _ (wd * ht) rfl rfl (by rw [Int.natCast_mul]) (by rw [unhide HZ2]; omega) (by unfold maxLen; omega) (Nat.zero_le _) ?_)
  intro w2 hown g2
  have c2' := g2.cell c2 (by simp)
  have HO2 : Hid (Ow2 w2 (.slice (some ⟨w1.heap.size, 0, none⟩) 0 (wd * ht)) (L.take 0) (blk (.slice (some ⟨w1.heap.size, 0, none⟩) 0 (wd * ht)))) := OwR.none0 _ hown
  have g12 := grown_trans g1 g2
  have s1 := g1.size
  have HL2 : Hid (∀ x ∈ blk (.slice (some ⟨w1.heap.size, 0, none⟩) 0 (wd * ht)), W0.heap.size ≤ x) := fun x hx => by
    have e9 : w1.heap.size = x := Option.some.inj (mem_blk.1 hx)
    omega
  clear hown c2 g1 g2
  go_wp2
  go_loopw [3, 13] (fun v kv wr => ∃ (k : Nat) (vo : Option Addr) (vn vc : Nat) (F2 : List Nat), k ≤ L.length ∧ v = .slice vo vn vc ∧ kv = .int .i64 k ∧ Hid (Ow2 wr (.slice vo vn vc) (L.take k) F2) ∧ Hid F2.Nodup ∧ Hid (∀ x ∈ F2, W0.heap.size ≤ x) ∧ Hid (W0.grownBy wr none)) (fun _ kv _ => L.length - (intOf kv).toNat)
  case atStart => exact ⟨0, some ⟨w1.heap.size, 0, none⟩, 0, wd * ht, _, Nat.zero_le _, rfl, rfl, HO2, blk_nodup _, HL2, g12⟩
  case round =>
    clear HO2 HL2 c2' g12
    obtain ⟨k, vo, vn, vc, F2, hk, rfl, rfl, ho, hn2, hl2, hg⟩ := hrel
    by_cases hkm : k < L.length
    · have hkI : (k : Int) < (L.length : Int) := by omega
      obtain ⟨B, HBE⟩ : ∃ B, Hid (L.getD k [] = B) := ⟨_, rfl⟩
      have hlen : B.length = 64 := by rw [← unhide HBE]; exact unhide HLL k hkm
      have TK : Hid (∀ j v, (sq B)[j]? = some v → wr.cell? ⟨g, k * 64 + j, none⟩ = some v) := fun j v hv => ((unhide HT0).grown (unhide hg)).rd k hkm j v (by rw [unhide HBE]; simpa [sq] using hv)
      have HSL : Hid ((sq B).size = 64) := by unfold Hid; rw [sq_size, hlen]
      have HB := hide (heap_alloc_new wr (.cells #[.int .i64 0, .int .i64 0, .int .i64 0, .int .i64 0, .int .i64 0, .int .i64 0, .int .i64 0, .int .i64 0, .int .i64 0, .int .i64 0, .int .i64 0, .int .i64 0, .int .i64 0, .int .i64 0, .int .i64 0, .int .i64 0, .int .i64 0, .int .i64 0, .int .i64 0, .int .i64 0, .int .i64 0, .int .i64 0, .int .i64 0, .int .i64 0, .int .i64 0, .int .i64 0, .int .i64 0, .int .i64 0, .int .i64 0, .int .i64 0, .int .i64 0, .int .i64 0, .int .i64 0, .int .i64 0, .int .i64 0, .int .i64 0, .int .i64 0, .int .i64 0, .int .i64 0, .int .i64 0, .int .i64 0, .int .i64 0, .int .i64 0, .int .i64 0, .int .i64 0, .int .i64 0, .int .i64 0, .int .i64 0, .int .i64 0, .int .i64 0, .int .i64 0, .int .i64 0, .int .i64 0, .int .i64 0, .int .i64 0, .int .i64 0, .int .i64 0, .int .i64 0, .int .i64 0, .int .i64 0, .int .i64 0, .int .i64 0, .int .i64 0, .int .i64 0] 80))
      have HLK : Hid (L.take k ++ [B] = L.take (k + 1)) := by
        unfold Hid
        have e9 : L.getD k [] = L[k] := by simp [hkm]
        rw [← unhide HBE, e9]
        exact takeX_next L k hkm
      have HRL : Hid ((L.take k).length ≤ 1000000) := by unfold Hid; rw [List.length_take]; omega
      go_wp2_with (first | (refine load_mid rfl 80 _ rfl g (k * 64) rfl (sq B) (unhide TK) _ Try.underlying80 rfl (by rw [unhide HSL]; kernel_rfl) ?_) | (refine load_row rfl 80 _ rfl wr.heap.size rfl (sq B) 80 (unhide HB3) _ Try.underlying80 rfl (by rw [unhide HSL]; kernel_rfl) ?_) | (refine store_row rfl 80 _ _ rfl wr.heap.size rfl (sq B) rfl #[.int .i64 0, .int .i64 0, .int .i64 0, .int .i64 0, .int .i64 0, .int .i64 0, .int .i64 0, .int .i64 0, .int .i64 0, .int .i64 0, .int .i64 0, .int .i64 0, .int .i64 0, .int .i64 0, .int .i64 0, .int .i64 0, .int .i64 0, .int .i64 0, .int .i64 0, .int .i64 0, .int .i64 0, .int .i64 0, .int .i64 0, .int .i64 0, .int .i64 0, .int .i64 0, .int .i64 0, .int .i64 0, .int .i64 0, .int .i64 0, .int .i64 0, .int .i64 0, .int .i64 0, .int .i64 0, .int .i64 0, .int .i64 0, .int .i64 0, .int .i64 0, .int .i64 0, .int .i64 0, .int .i64 0, .int .i64 0, .int .i64 0, .int .i64 0, .int .i64 0, .int .i64 0, .int .i64 0, .int .i64 0, .int .i64 0, .int .i64 0, .int .i64 0, .int .i64 0, .int .i64 0, .int .i64 0, .int .i64 0, .int .i64 0, .int .i64 0, .int .i64 0, .int .i64 0, .int .i64 0, .int .i64 0, .int .i64 0, .int .i64 0, .int .i64 0] 80 (unhide HB) (by rw [unhide HSL]; rfl) (by rw [unhide HSL]; kernel_rfl) (sq_one _) ?_; intro w3 hB3 g3; have HB3 := hide hB3; have G3 := hide (grown_new (grown_alloc (unhide hg) (.cells #[.int .i64 0, .int .i64 0, .int .i64 0, .int .i64 0, .int .i64 0, .int .i64 0, .int .i64 0, .int .i64 0, .int .i64 0, .int .i64 0, .int .i64 0, .int .i64 0, .int .i64 0, .int .i64 0, .int .i64 0, .int .i64 0, .int .i64 0, .int .i64 0, .int .i64 0, .int .i64 0, .int .i64 0, .int .i64 0, .int .i64 0, .int .i64 0, .int .i64 0, .int .i64 0, .int .i64 0, .int .i64 0, .int .i64 0, .int .i64 0, .int .i64 0, .int .i64 0, .int .i64 0, .int .i64 0, .int .i64 0, .int .i64 0, .int .i64 0, .int .i64 0, .int .i64 0, .int .i64 0, .int .i64 0, .int .i64 0, .int .i64 0, .int .i64 0, .int .i64 0, .int .i64 0, .int .i64 0, .int .i64 0, .int .i64 0, .int .i64 0, .int .i64 0, .int .i64 0, .int .i64 0, .int .i64 0, .int .i64 0, .int .i64 0, .int .i64 0, .int .i64 0, .int .i64 0, .int .i64 0, .int .i64 0, .int .i64 0, .int .i64 0, .int .i64 0] 80)) g3 (fun q e => by simp at e; have := (unhide hg).size; omega)); have O3 := hide (ok2.wr (unhide ho) (Wr.trans (Wr.ofNone (World.grownBy_alloc wr (.cells #[.int .i64 0, .int .i64 0, .int .i64 0, .int .i64 0, .int .i64 0, .int .i64 0, .int .i64 0, .int .i64 0, .int .i64 0, .int .i64 0, .int .i64 0, .int .i64 0, .int .i64 0, .int .i64 0, .int .i64 0, .int .i64 0, .int .i64 0, .int .i64 0, .int .i64 0, .int .i64 0, .int .i64 0, .int .i64 0, .int .i64 0, .int .i64 0, .int .i64 0, .int .i64 0, .int .i64 0, .int .i64 0, .int .i64 0, .int .i64 0, .int .i64 0, .int .i64 0, .int .i64 0, .int .i64 0, .int .i64 0, .int .i64 0, .int .i64 0, .int .i64 0, .int .i64 0, .int .i64 0, .int .i64 0, .int .i64 0, .int .i64 0, .int .i64 0, .int .i64 0, .int .i64 0, .int .i64 0, .int .i64 0, .int .i64 0, .int .i64 0, .int .i64 0, .int .i64 0, .int .i64 0, .int .i64 0, .int .i64 0, .int .i64 0, .int .i64 0, .int .i64 0, .int .i64 0, .int .i64 0, .int .i64 0, .int .i64 0, .int .i64 0, .int .i64 0] 80) none)) (Wr.ofRow (F := [wr.heap.size]) g3 (fun q e => by have e9 := Option.some.inj e; simp [e9]))) (fun x hx e => by simp at e; have := ok2.lt _ _ _ _ (unhide ho) x hx; omega)); clear hB3 g3 HB))
      refine (list B hlen _).mono ?_
      rintro e w4 ⟨v4, rfl, o4, g4⟩
      obtain ⟨uo, uc, rfl⟩ := own_form o4
      have hs3 : wr.heap.size < w3.heap.size := (Array.getElem?_eq_some_iff.1 (unhide HB3)).1
      have hgs := (unhide hg).size
      have HU : Hid (OwI .i64 3 w4 (.slice uo 64 uc) B (blk (.slice uo 64 uc))) := ⟨by rw [hlen]; exact own_base o4 (Nat.zero_le _), rfl⟩
      have HO4 := hide (ok2.keep (unhide O3) g4)
      have G4 := hide (grown_trans (unhide G3) g4)
      have HDU : Hid (∀ x ∈ blk (.slice uo 64 uc), x ∉ F2 ∧ W0.heap.size ≤ x) := fun x hx => by
        have e9 := (o4.lt x (mem_blk.1 hx)).1
        exact ⟨fun h => by have := ok2.lt _ _ _ _ (unhide ho) x h; omega, by omega⟩
      clear o4 g4 O3 G3 HB3 ho hg TK
      go_wp2_with (at_builtin; refine append_rowR ok1 Try.underlying42 infoIntSS rfl _ _ rfl (.slice vo vn vc) (L.take k) F2 rfl (unhide HO4) (unhide hn2) _ B _ (unhide HU) (blk_nodup _) (fun x hx => (unhide HDU x hx).1) rfl (unhide HRL) _ (unhide HLK) ?_)
      intro v5 w5 F5 o5 n5 m5 g5
      obtain ⟨vo5, vc5, rfl⟩ := o5.form
      have HO5 := hide o5
      have HN5 := hide n5
      have HL5 : Hid (∀ x ∈ F5, W0.heap.size ≤ x) := fun x hx => by
        rcases m5 x hx with h | h | h
        · exact unhide hl2 x h
        · exact (unhide HDU x h).2
        · have := (unhide G4).size; omega
      have G5 := hide (Wr.new (unhide G4) g5 (fun x hx => unhide hl2 x ((unhide HO4).head x hx)))
      clear o5 n5 m5 g5 HO4 HU HDU hn2 hl2 HRL G4
      go_wp2
      go_roundw
      case rel => exact ⟨k + 1, vo5, _, vc5, F5, by omega, rfl, by go_num, HO5, HN5, HL5, G5⟩
      case measure => simp [intOf]; omega
    · obtain rfl : k = L.length := by omega
      have e8 : L.take L.length = L := List.take_length
      rw [e8] at ho
      go_wp2
      go_ret
      exact ⟨_, F2, rfl, unhide ho, unhide hn2, fun x hx => by have := unhide hl2 x hx; omega, grown_trans (unhide HG0) (unhide hg)⟩

end Go.Proofs.Ytibgldanmhckiaa

namespace Go.Proofs.Ytibgldanmhckiaa
open Go.RowKit

theorem step_append_rowsG {α : Type} {P : World → (Nat → Value) → α → List Nat → Prop} (hP : OkG P) {e T : TypeId} {sz bytes : Nat} {z : Value} (hT : Try.prog.underlying T = some (.slice e)) (hI : (Try.prog.info? e).map (fun i => (i.zero, i.size, i.bytes)) = some (some z, sz, bytes)) (hzs : z.cells.size = sz) (hsz : 0 < sz) (hbt : bytes ≤ 1000)
    {w : World} {ops : Array Oper} {o : Oper} {a : Act} {K : Act → World → Prop} {Q : Exit → Act → World → Prop} {E : Prop} (hgd : o.guard = none) (s x : Operand)
    (ho : o.op = .call { callee := .builtin .append, args := #[s, x], argTypes := #[T, T] })
    (v : Value) (L : List α) (F : List Nat) (hs : a.eval s = v) (hown : OwG e sz P w v L F) (hF : F.Nodup)
    (cs : Array Value) (m : Nat) (V : Nat → Nat → Value) (hcs : cs.toList = rowsK m sz V) (M : List α) (hM : M.length = m) (Gs : List (List Nat)) (hGs : Gs.length = m) (hu : ∀ i (h : i < M.length), P w (V i) M[i] (Gs.getD i [])) (hG : Gs.flatten.Nodup) (hd : ∀ x ∈ Gs.flatten, x ∉ F) (h1c : ∀ u ∈ cs.toList, u.oneCell' = true)
    (H : Nat) (hH : w.heap.size = H) (hx : a.eval x = .slice (some ⟨H, 0, none⟩) m m) (hm0 : 0 < m) (hb : L.length + m ≤ 1000000) (R : List α) (hR : L ++ M = R)
    (h : ∀ v' w' F', OwG e sz P w' v' R F' → F'.Nodup → (∀ x ∈ F', x ∈ F ∨ x ∈ Gs.flatten ∨ w.heap.size ≤ x) → Wr (blk v) w w' → K (a.put o.dst v') w') :
    if Region.wanted o (yielded ops a.tmps) = true then Oper.wp Try.prog o a (w.alloc (.cells cs e)) K Q else E := by
  subst hR
  subst hH
  obtain ⟨i0, hi, hz0, hz1, hz2⟩ := info_parts hI
  obtain ⟨U, Fs, l2, o1, els, rfl⟩ := hown
  have hn := List.nodup_append.1 hF
  have hbb : (L.length + m) * bytes ≤ 1000000 * 1000 := Nat.mul_le_mul hb hbt
  refine step_append_lies _ hgd s x T ho 0 e i0 _ sz bytes hT hi hz0 hz1 hz2 hzs hsz v L.length _ hs (o1.alloc _) ⟨w.heap.size, 0, none⟩ m m cs.toList hx (by rw [hcs, rowsK_len]) (World.news_of_block (cs := cs) (t := e) (fr := (0, 0)) (heap_alloc_new w _)) h1c hm0 (by unfold maxLen; omega) (by omega) (Nat.zero_le _) _ rfl ?_
  intro g0 cap0 w' h1 h2 h4' _
  obtain ⟨v', hv'⟩ : ∃ v', Value.slice (some ⟨g0, 0, none⟩) (L.length + m) cap0 = v' := ⟨_, rfl⟩
  have h4 : v'.ownBlock = v.ownBlock ∨ v'.ownBlock = some (w.alloc (.cells cs e)).heap.size := by
    rcases h4' with h5 | h5
    · left; rw [← hv', h5]; rfl
    · right; rw [← hv', ← h5]; rfl
  rw [hv'] at h1 ⊢
  clear hv' h4'
  have hga : w.grownBy w' v.ownBlock := ⟨h2.os, h2.tape, h2.output, by have h := h2.size; simp at h; omega, fun k hk hr => (h2.block k (by simp; omega) hr).trans (Below.heap_alloc _ _ _ hk)⟩
  have hw : Wr (blk v) w w' := Wr.ofRow hga (fun g e => mem_blk.2 e)
  have hvb : ∀ y, y ∈ blk v' → y ∈ blk v ∨ w.heap.size ≤ y := fun y hy => by
    rcases h4 with h4 | h4
    · exact .inl (mem_blk.2 (by rw [← h4]; exact mem_blk.1 hy))
    · have e1 := mem_blk.1 hy
      rw [h4] at e1
      have e2 : (w.alloc (.cells cs e)).heap.size = y := Option.some.inj e1
      exact .inr (by simp at e2; omega)
  have hfl : (Fs ++ Gs).flatten = Fs.flatten ++ Gs.flatten := by simp
  have hlt : ∀ y ∈ Fs.flatten, y < w.heap.size := fun y hy => by
    obtain ⟨l, hl, hyl⟩ := List.mem_flatten.1 hy
    obtain ⟨i, hi, rfl⟩ := List.mem_iff_getElem.1 hl
    exact hP.lt w _ _ _ (els i (by omega)) y (by simpa [hi] using hyl)
  have hltG : ∀ y ∈ Gs.flatten, y < w.heap.size := fun y hy => by
    obtain ⟨l, hl, hyl⟩ := List.mem_flatten.1 hy
    obtain ⟨i, hi, rfl⟩ := List.mem_iff_getElem.1 hl
    exact hP.lt w _ _ _ (hu i (by omega)) y (by simpa [hi] using hyl)
  refine h v' w' (blk v' ++ (Fs ++ Gs).flatten) ⟨fun i j => if i < L.length then U i j else V (i - L.length) j, Fs ++ Gs, by simp [l2, hGs, hM], ?_, fun i hi => ?_, rfl⟩ ?_ ?_ hw
  · rw [List.length_append, hM, ← rowsK_append L.length m sz hsz, ← hcs]; exact h1
  · by_cases hil : i < L.length
    · have e1 : (fun j => if i < L.length then U i j else V (i - L.length) j) = U i := by funext j; rw [if_pos hil]
      have e2 : (Fs ++ Gs).getD i [] = Fs.getD i [] := by simp [List.getElem?_append_left (show i < Fs.length by omega)]
      dsimp only
      rw [e1, e2, List.getElem_append_left hil]
      exact hP.wr (els i hil) hw (fun y hy hy2 => hn.2.2 y hy2 y (flat_in (by omega) y hy) rfl)
    · have him : i - L.length < M.length := by rw [List.length_append] at hi; omega
      have e1 : (fun j => if i < L.length then U i j else V (i - L.length) j) = V (i - L.length) := by funext j; rw [if_neg hil]
      have e2 : (Fs ++ Gs).getD i [] = Gs.getD (i - L.length) [] := by simp [List.getElem?_append_right (show Fs.length ≤ i by omega), l2]
      dsimp only
      rw [e1, e2, List.getElem_append_right (by omega)]
      exact hP.wr (hu (i - L.length) him) hw (fun y hy hy2 => hd y (flat_in (by omega) y hy) (by simp [hy2]))
  · rw [hfl]
    refine List.nodup_append.2 ⟨blk_nodup v', List.nodup_append.2 ⟨hn.2.1, hG, fun y hy z hz => ?_⟩, fun y hy z hz => ?_⟩
    · rintro rfl
      exact hd y hz (by simp [hy])
    · rintro rfl
      rcases List.mem_append.1 hz with hz | hz
      · rcases hvb y hy with h5 | h5
        · exact hn.2.2 y h5 y hz rfl
        · have := hlt y hz; omega
      · rcases hvb y hy with h5 | h5
        · exact hd y hz (by simp [h5])
        · have := hltG y hz; omega
  · intro y hy
    rw [hfl] at hy
    rcases List.mem_append.1 hy with hy | hy
    · rcases hvb y hy with h5 | h5
      · exact .inl (by simp [h5])
      · exact .inr (.inr h5)
    · rcases List.mem_append.1 hy with hy | hy
      · exact .inl (by simp [hy])
      · exact .inr (.inl hy)

end Go.Proofs.Ytibgldanmhckiaa

namespace Go.Proofs.Ytibgldanmhckiaa
open Go.RowKit Go.Shelf

/-- The cells of planes. -/
def plV (X : Array Value) (gv : Value) : Array Value := X ++ #[gv]
theorem plV_size {X : Array Value} (h : X.size = 21) (gv : Value) : (plV X gv).size = 22 := by simp [plV, h]
theorem plV_none : plV #[.int .i64 0, .int .i64 0, .int .i64 0, .int .i64 0, .int .i64 0, .int .i64 0, .int .i64 0, .int .i64 0, .int .i64 0, .int .i64 0, .int .i64 0, .int .i64 0, .int .i64 0, .int .i64 0, .int .i64 0, .int .i64 0, .int .i64 0, .int .i64 0, .int .i64 0, .int .i64 0, .int .i64 0] (.slice none 0 0) = #[.int .i64 0, .int .i64 0, .int .i64 0, .int .i64 0, .int .i64 0, .int .i64 0, .int .i64 0, .int .i64 0, .int .i64 0, .int .i64 0, .int .i64 0, .int .i64 0, .int .i64 0, .int .i64 0, .int .i64 0, .int .i64 0, .int .i64 0, .int .i64 0, .int .i64 0, .int .i64 0, .int .i64 0, .slice none 0 0] := rfl
theorem plV_one {X : Array Value} (h : X.all (·.oneCell') = true) {gv : Value} (hg : gv.oneCell' = true) : (plV X gv).all (·.oneCell') = true := by
  rw [Array.all_eq_true_iff_forall_mem] at h ⊢
  intro v hv
  simp only [plV, Array.mem_append, List.mem_toArray, List.mem_singleton] at hv
  rcases hv with hv | rfl
  · exact h v hv
  · exact hg
theorem pl_grids {X : Array Value} (h : X.size = 21) {gv : Value} {w : World} {b : Nat} {t : TypeId} (hb : w.heap[b]? = some (.cells (plV X gv) t (0, 0))) : w.cell? ⟨b, 21, none⟩ = some gv ∧ w.frozen? ⟨b, 21, none⟩ = false := by
  refine ⟨?_, frozen_of_row w b 21 _ _ hb⟩
  rw [cell_of_row w _ 21 _ _ (0, 0) hb]
  unfold plV
  rw [Array.getElem?_append_right (by omega), h]
  rfl
theorem pl_frame {X : Array Value} {gv : Value} {w : World} {b : Nat} {t : TypeId} (hb : w.heap[b]? = some (.cells (plV X gv) t (0, 0))) : ∀ j v, X[j]? = some v → w.cell? ⟨b, 0 + j, none⟩ = some v := by
  intro j v hv
  rw [Nat.zero_add, cell_of_row w _ j _ _ (0, 0) hb]
  have hj := (Array.getElem?_eq_some_iff.1 hv).1
  unfold plV
  rw [Array.getElem?_append_left hj]
  exact hv
theorem pl_set {X : Array Value} (h : X.size = 21) {gv : Value} {w : World} {b : Nat} {t : TypeId} (hb : w.heap[b]? = some (.cells (plV X gv) t (0, 0))) (gv' : Value) : (w.setCell ⟨b, 21, none⟩ gv').heap[b]? = some (.cells (plV X gv') t (0, 0)) := by
  have e : (plV X gv).setIfInBounds 21 gv' = plV X gv' := by
    unfold plV
    apply Array.ext_getElem?
    intro i
    rw [Array.getElem?_setIfInBounds]
    by_cases hi : 21 = i
    · subst hi
      rw [if_pos rfl, if_pos (by simp [h]), Array.getElem?_append_right (by omega), h]
      rfl
    · rw [if_neg hi]
      by_cases hl : i < X.size
      · rw [Array.getElem?_append_left hl, Array.getElem?_append_left hl]
      · rw [Array.getElem?_eq_none (by simp; omega), Array.getElem?_eq_none (by simp; omega)]
  rw [heap_setCell_same w b 21 _ _ _ hb, e]
theorem arr21 {X : Array Value} (h : X.size = 21) : ∃ x0 x1 x2 x3 x4 x5 x6 x7 x8 x9 x10 x11 x12 x13 x14 x15 x16 x17 x18 x19 x20, X = #[x0, x1, x2, x3, x4, x5, x6, x7, x8, x9, x10, x11, x12, x13, x14, x15, x16, x17, x18, x19, x20] := by
  obtain ⟨l⟩ := X
  have hl : l.length = 21 := by simpa using h
  match l, hl with
  | [x0, x1, x2, x3, x4, x5, x6, x7, x8, x9, x10, x11, x12, x13, x14, x15, x16, x17, x18, x19, x20], _ => exact ⟨x0, x1, x2, x3, x4, x5, x6, x7, x8, x9, x10, x11, x12, x13, x14, x15, x16, x17, x18, x19, x20, rfl⟩
/-- Planes of a frame and no grids yet. -/
theorem built_pl {X : Array Value} (h : X.size = 21) : Try.prog.built 76 [(0, .agg X)] = some (plV X (.slice none 0 0)) := by
  obtain ⟨x0, x1, x2, x3, x4, x5, x6, x7, x8, x9, x10, x11, x12, x13, x14, x15, x16, x17, x18, x19, x20, rfl⟩ := arr21 h
  kernel_rfl
theorem build_pl {ops : Array Oper} {rest : List Oper} {op : Oper} {a : Act} {w : World} {Q : Exit → Act → World → Prop} (hw : Region.wanted op (yielded ops a.tmps) = true) (x : Operand) (ho : op.op = .build 76 #[(0, x)]) (X : Array Value) (hs : X.size = 21) (hx : a.eval x = .agg X)
    (h : wpList Try.prog ops Q rest (a.put op.dst (.agg (plV X (.slice none 0 0)))) w) : wpList Try.prog ops Q (op :: rest) a w :=
  BigFrame.wpList_want hw fun K hK => by
    have hr := run_build (P := Try.prog) w 76 #[(0, .agg X)] _ (built_pl hs)
    unfold Oper.wp execOp
    simp only [ho, List.map_toArray, List.map_cons, List.map_nil, hx, Sem.run_bind, hr, Result.andThen_ok, Sem.run_pure]
    exact hK _ _ h

/-- New grids. -/
def newGr (n : Nat) (bw bh : Nat → Nat) : List Gd := (List.range n).map fun c => (bw c, bh c, List.replicate (bw c * bh c) noughts)
theorem newGr_next (bw bh : Nat → Nat) (i : Nat) : newGr i bw bh ++ [(bw i, bh i, List.replicate (bw i * bh i) noughts)] = newGr (i + 1) bw bh := by
  unfold newGr
  rw [List.range_succ, List.map_append]
  rfl
theorem newGr_len (n : Nat) (bw bh : Nat → Nat) : (newGr n bw bh).length = n := by simp [newGr]
theorem OwG.head {α : Type} {e : TypeId} {sz : Nat} {P : World → (Nat → Value) → α → List Nat → Prop} {w : World} {v : Value} {L : List α} {F : List Nat} (h : OwG e sz P w v L F) : ∀ x ∈ blk v, x ∈ F := by
  obtain ⟨U, Fs, _, _, _, rfl⟩ := h
  intro x hx
  simp [hx]
abbrev OwGr := OwG 120 3 GrP
theorem okGr : OwOk OwGr := OwG.ok GrP.ok

/-- Planes while they are made. -/
structure Ep (w wr : World) (X : Array Value) (gv : Value) (G : List Gd) (F : List Nat) : Prop where
  x : wr.heap[w.heap.size]? = some (.cells X 73 (0, 0))
  r : wr.heap[w.heap.size + 1]? = some (.cells #[.int .i64 0, .int .i64 0, .int .i64 0, .int .i64 0, .int .i64 0, .int .i64 0, .int .i64 0, .int .i64 0, .int .i64 0, .int .i64 0, .int .i64 0, .int .i64 0, .int .i64 0, .int .i64 0, .int .i64 0, .int .i64 0, .int .i64 0, .int .i64 0, .int .i64 0, .int .i64 0, .int .i64 0, .slice none 0 0] 76 (0, 0))
  all : wr.heap[w.heap.size + 2]? = some (.cells (plV X gv) 76 (0, 0))
  own : OwGr wr gv G F
  nd : F.Nodup
  lo : ∀ g ∈ F, w.heap.size + 3 ≤ g
  grown : w.grownBy wr none
theorem Ep.size {w wr : World} {X : Array Value} {gv : Value} {G : List Gd} {F : List Nat} (h : Ep w wr X gv G F) : w.heap.size + 3 ≤ wr.heap.size := (Array.getElem?_eq_some_iff.1 h.all).1
theorem Ep.new {w wr w' : World} {X : Array Value} {gv : Value} {G : List Gd} {F : List Nat} (h : Ep w wr X gv G F) (g : wr.grownBy w' none) : Ep w w' X gv G F :=
  ⟨grown_atT g h.x (by simp), grown_atT g h.r (by simp), grown_atT g h.all (by simp), okGr.keep h.own g, h.nd, h.lo, grown_trans h.grown g⟩

end Go.Proofs.Ytibgldanmhckiaa
