/-
  FixZero, EqFx, AnyTake, LevSpec, CoefPure, ZeroSpec, GeoImpl, RegionInv, GeoRegion, GeoImpl2, GeoHas, GeoImpl3, GeoImpl4, GeoSpec2, CoefSpec.
-/
import Derived.DeepKeys4
import Derived.Deep.RegionHeld3
import Derived.Orders
import Derived.RegionTactic
import Derived.Deep.RegionHeld
import Derived.Test.YtjkokbijnaodnaaGreatMAd

namespace Go.Proofs.YtjkokbijnaodnaaGreat
open Go.RowKit

set_option maxRecDepth 100000 in
set_option maxHeartbeats 1600000 in
theorem fixFrameZ (p wd ht rs : Int) (ao : Option Addr) (n cap : Nat) (C : Nat → Nat → Int) (w : World) (hr : RdC w ao n C) (hn : n ≤ 4194304) (b : Bool) (HFB : Hid (frameB p wd ht rs n C = b)) :
    Calls Tryz.prog 50 #[.agg #[.int .i64 p, .int .i64 wd, .int .i64 ht, .int .i64 rs, .slice ao n cap]] w fun e w' => ∃ X, e = .returned (.agg X) ∧ (b = false → X = #[.int .i64 0, .int .i64 0, .int .i64 0, .int .i64 0, .int .i64 0, .int .i64 0, .int .i64 0, .int .i64 0, .int .i64 0, .int .i64 0, .int .i64 0, .int .i64 0, .int .i64 0, .int .i64 0, .int .i64 0, .int .i64 0, .int .i64 0, .int .i64 0, .int .i64 0, .int .i64 0, .int .i64 0]) ∧ (b = true → Fx X p wd ht rs n (fun i j => if i < n then C i j else 0)) ∧ w.grownBy w' none := by
  have HR := hide hr
  clear hr
  obtain ⟨X0, hX0⟩ : ∃ X0 : Array Value, #[.int .i64 p, .int .i64 wd, .int .i64 ht, .int .i64 rs, .int .i64 n, .int .i64 0, .int .i64 0, .int .i64 0, .int .i64 0, .int .i64 0, .int .i64 0, .int .i64 0, .int .i64 0, .int .i64 0, .int .i64 0, .int .i64 0, .int .i64 0, .int .i64 0, .int .i64 0, .int .i64 0, .int .i64 0] = X0 := ⟨_, rfl⟩
  have HF0 : Hid (Fx X0 p wd ht rs n (fun _ _ => 0)) := by
    rw [← hX0]
    refine ⟨rfl, rfl, rfl, rfl, rfl, rfl, fun i j hi hj => ?_⟩
    have h1 : i = 0 ∨ i = 1 ∨ i = 2 ∨ i = 3 := by omega
    have h2 : j = 0 ∨ j = 1 ∨ j = 2 ∨ j = 3 := by omega
    rcases h1 with rfl | rfl | rfl | rfl <;> rcases h2 with rfl | rfl | rfl | rfl <;> rfl
  have HX0 := hide hX0
  have HI0 : Hid ((Tryz.prog.info? 83).map (·.size) = some X0.size) := by unfold Hid; rw [(unhide HF0).size]; kernel_rfl
  have HB2 : Hid ((((w.alloc (.cells #[.int .i64 p, .int .i64 wd, .int .i64 ht, .int .i64 rs, .slice ao n cap] 37)).alloc (.cells #[.int .i64 0, .int .i64 0, .int .i64 0, .int .i64 0, .int .i64 0, .int .i64 0, .int .i64 0, .int .i64 0, .int .i64 0, .int .i64 0, .int .i64 0, .int .i64 0, .int .i64 0, .int .i64 0, .int .i64 0, .int .i64 0, .int .i64 0, .int .i64 0, .int .i64 0, .int .i64 0, .int .i64 0] 83)).alloc (.cells #[.int .i64 0, .int .i64 0, .int .i64 0, .int .i64 0, .int .i64 0, .int .i64 0, .int .i64 0, .int .i64 0, .int .i64 0, .int .i64 0, .int .i64 0, .int .i64 0, .int .i64 0, .int .i64 0, .int .i64 0, .int .i64 0, .int .i64 0, .int .i64 0, .int .i64 0, .int .i64 0, .int .i64 0] 83)).heap[w.heap.size + 1 + 1]? = some (.cells #[.int .i64 0, .int .i64 0, .int .i64 0, .int .i64 0, .int .i64 0, .int .i64 0, .int .i64 0, .int .i64 0, .int .i64 0, .int .i64 0, .int .i64 0, .int .i64 0, .int .i64 0, .int .i64 0, .int .i64 0, .int .i64 0, .int .i64 0, .int .i64 0, .int .i64 0, .int .i64 0, .int .i64 0] 83 (0, 0))) := by
    have := heap_alloc_new ((w.alloc (.cells #[.int .i64 p, .int .i64 wd, .int .i64 ht, .int .i64 rs, .slice ao n cap] 37)).alloc (.cells #[.int .i64 0, .int .i64 0, .int .i64 0, .int .i64 0, .int .i64 0, .int .i64 0, .int .i64 0, .int .i64 0, .int .i64 0, .int .i64 0, .int .i64 0, .int .i64 0, .int .i64 0, .int .i64 0, .int .i64 0, .int .i64 0, .int .i64 0, .int .i64 0, .int .i64 0, .int .i64 0, .int .i64 0] 83)) (.cells #[.int .i64 0, .int .i64 0, .int .i64 0, .int .i64 0, .int .i64 0, .int .i64 0, .int .i64 0, .int .i64 0, .int .i64 0, .int .i64 0, .int .i64 0, .int .i64 0, .int .i64 0, .int .i64 0, .int .i64 0, .int .i64 0, .int .i64 0, .int .i64 0, .int .i64 0, .int .i64 0, .int .i64 0] 83)
    unfold Hid
    simpa using this
  have HB1 : Hid ((((w.alloc (.cells #[.int .i64 p, .int .i64 wd, .int .i64 ht, .int .i64 rs, .slice ao n cap] 37)).alloc (.cells #[.int .i64 0, .int .i64 0, .int .i64 0, .int .i64 0, .int .i64 0, .int .i64 0, .int .i64 0, .int .i64 0, .int .i64 0, .int .i64 0, .int .i64 0, .int .i64 0, .int .i64 0, .int .i64 0, .int .i64 0, .int .i64 0, .int .i64 0, .int .i64 0, .int .i64 0, .int .i64 0, .int .i64 0] 83)).alloc (.cells #[.int .i64 0, .int .i64 0, .int .i64 0, .int .i64 0, .int .i64 0, .int .i64 0, .int .i64 0, .int .i64 0, .int .i64 0, .int .i64 0, .int .i64 0, .int .i64 0, .int .i64 0, .int .i64 0, .int .i64 0, .int .i64 0, .int .i64 0, .int .i64 0, .int .i64 0, .int .i64 0, .int .i64 0] 83)).heap[w.heap.size + 1]? = some (.cells #[.int .i64 0, .int .i64 0, .int .i64 0, .int .i64 0, .int .i64 0, .int .i64 0, .int .i64 0, .int .i64 0, .int .i64 0, .int .i64 0, .int .i64 0, .int .i64 0, .int .i64 0, .int .i64 0, .int .i64 0, .int .i64 0, .int .i64 0, .int .i64 0, .int .i64 0, .int .i64 0, .int .i64 0] 83 (0, 0))) := by
    have := heap_alloc_new (w.alloc (.cells #[.int .i64 p, .int .i64 wd, .int .i64 ht, .int .i64 rs, .slice ao n cap] 37)) (.cells #[.int .i64 0, .int .i64 0, .int .i64 0, .int .i64 0, .int .i64 0, .int .i64 0, .int .i64 0, .int .i64 0, .int .i64 0, .int .i64 0, .int .i64 0, .int .i64 0, .int .i64 0, .int .i64 0, .int .i64 0, .int .i64 0, .int .i64 0, .int .i64 0, .int .i64 0, .int .i64 0, .int .i64 0] 83)
    unfold Hid
    rw [Below.heap_alloc _ _ _ (by simp)]
    simpa using this
  have HB0 : Hid ((((w.alloc (.cells #[.int .i64 p, .int .i64 wd, .int .i64 ht, .int .i64 rs, .slice ao n cap] 37)).alloc (.cells #[.int .i64 0, .int .i64 0, .int .i64 0, .int .i64 0, .int .i64 0, .int .i64 0, .int .i64 0, .int .i64 0, .int .i64 0, .int .i64 0, .int .i64 0, .int .i64 0, .int .i64 0, .int .i64 0, .int .i64 0, .int .i64 0, .int .i64 0, .int .i64 0, .int .i64 0, .int .i64 0, .int .i64 0] 83)).alloc (.cells #[.int .i64 0, .int .i64 0, .int .i64 0, .int .i64 0, .int .i64 0, .int .i64 0, .int .i64 0, .int .i64 0, .int .i64 0, .int .i64 0, .int .i64 0, .int .i64 0, .int .i64 0, .int .i64 0, .int .i64 0, .int .i64 0, .int .i64 0, .int .i64 0, .int .i64 0, .int .i64 0, .int .i64 0] 83)).heap[w.heap.size]? = some (.cells #[.int .i64 p, .int .i64 wd, .int .i64 ht, .int .i64 rs, .slice ao n cap] 37 (0, 0))) := by
    have := heap_alloc_new w (.cells #[.int .i64 p, .int .i64 wd, .int .i64 ht, .int .i64 rs, .slice ao n cap] 37)
    unfold Hid
    rw [Below.heap_alloc _ _ _ (by simp; omega), Below.heap_alloc _ _ _ (by simp)]
    exact this
  have HGS : Hid ((((w.alloc (.cells #[.int .i64 p, .int .i64 wd, .int .i64 ht, .int .i64 rs, .slice ao n cap] 37)).alloc (.cells #[.int .i64 0, .int .i64 0, .int .i64 0, .int .i64 0, .int .i64 0, .int .i64 0, .int .i64 0, .int .i64 0, .int .i64 0, .int .i64 0, .int .i64 0, .int .i64 0, .int .i64 0, .int .i64 0, .int .i64 0, .int .i64 0, .int .i64 0, .int .i64 0, .int .i64 0, .int .i64 0, .int .i64 0] 83)).alloc (.cells #[.int .i64 0, .int .i64 0, .int .i64 0, .int .i64 0, .int .i64 0, .int .i64 0, .int .i64 0, .int .i64 0, .int .i64 0, .int .i64 0, .int .i64 0, .int .i64 0, .int .i64 0, .int .i64 0, .int .i64 0, .int .i64 0, .int .i64 0, .int .i64 0, .int .i64 0, .int .i64 0, .int .i64 0] 83)).heap.size = w.heap.size + 3) := by unfold Hid; simp
  have G0 : Hid (w.grownBy (((w.alloc (.cells #[.int .i64 p, .int .i64 wd, .int .i64 ht, .int .i64 rs, .slice ao n cap] 37)).alloc (.cells #[.int .i64 0, .int .i64 0, .int .i64 0, .int .i64 0, .int .i64 0, .int .i64 0, .int .i64 0, .int .i64 0, .int .i64 0, .int .i64 0, .int .i64 0, .int .i64 0, .int .i64 0, .int .i64 0, .int .i64 0, .int .i64 0, .int .i64 0, .int .i64 0, .int .i64 0, .int .i64 0, .int .i64 0] 83)).alloc (.cells #[.int .i64 0, .int .i64 0, .int .i64 0, .int .i64 0, .int .i64 0, .int .i64 0, .int .i64 0, .int .i64 0, .int .i64 0, .int .i64 0, .int .i64 0, .int .i64 0, .int .i64 0, .int .i64 0, .int .i64 0, .int .i64 0, .int .i64 0, .int .i64 0, .int .i64 0, .int .i64 0, .int .i64 0] 83)) none) := grown_alloc (grown_alloc (grown_alloc (World.grownBy.refl _ _) _) _) _
  clear hX0
  go_enter Tryz.func50, Tryz.ntmps50
  go_wp2_with (refine wpList_store_row rfl 83 _ _ rfl (w.heap.size + 1 + 1) rfl X0 (congrArg _ (unhide HX0)) #[.int .i64 0, .int .i64 0, .int .i64 0, .int .i64 0, .int .i64 0, .int .i64 0, .int .i64 0, .int .i64 0, .int .i64 0, .int .i64 0, .int .i64 0, .int .i64 0, .int .i64 0, .int .i64 0, .int .i64 0, .int .i64 0, .int .i64 0, .int .i64 0, .int .i64 0, .int .i64 0, .int .i64 0] 83 (unhide HB2) (unhide HF0).size.symm (unhide HI0) (unhide HF0).one ?_; intro w3 hB3 g3)
  have hGS := unhide HGS
  have hBf := (g3.block w.heap.size (by omega) (by simp; omega)).trans (unhide HB0)
  have hBr := (g3.block (w.heap.size + 1) (by omega) (by simp)).trans (unhide HB1)
  have G3 : w.grownBy w3 none := grown_new (unhide G0) g3 (fun g e => by simp at e; omega)
  have c4 : w3.cell? ⟨w.heap.size, 4, none⟩ = some (.slice ao n cap) := by rw [cell_of_row w3 _ 4 _ _ (0, 0) hBf]; rfl
  have HBR := hide hBr
  have HGR := hide G3
  have HB3 := hide hB3
  have hs3 : w.heap.size + 3 ≤ w3.heap.size := by have := g3.size; omega
  clear hBf hBr hB3 g3 G3 HB0 HB1 HB2 HGS G0 hGS
  have HRC := hide ((unhide HR).grown (unhide HGR))
  have hmin : Nat.min n 4 ≤ 4 := Nat.min_le_right _ _
  have hmin2 : Nat.min n 4 ≤ n := Nat.min_le_left _ _
  have HRL : Hid ((rowsK (Nat.min n 4) 4 (compCells C)).length = Nat.min n 4 * 4) := rowsK_len _ _ _
  have HFIT : Hid (5 + (rowsK (Nat.min n 4) 4 (compCells C)).length ≤ X0.size) := by unfold Hid; rw [unhide HRL, (unhide HF0).size]; omega
  have HONE : Hid (∀ v ∈ rowsK (Nat.min n 4) 4 (compCells C), v.oneCell' = true) := rowsK_one (fun _ _ => rfl)
  have HSRC := hide (rdC_src (unhide HRC) hmin2)
  go_region_law (refine step_copyK rfl (.tmp 17) (.tmp 19) 35 35 rfl 53 Tryz.underlying35 4 (by kernel_rfl) (w.heap.size + 1 + 1) 5 4 4 ao n cap rfl rfl X0 83 (unhide HB3) (rowsK (Nat.min n 4) 4 (compCells C)) (unhide HRL) (unhide HSRC) (unhide HFIT) (unhide HONE) ?_; intro w4 hB4 g4)
  have HF1 := hide (fx_copied (unhide HF0) (Nat.min n 4) C hmin)
  have hBr := (g4.block (w.heap.size + 1) (show w.heap.size + 1 < w3.heap.size by omega) (by simp)).trans (unhide HBR)
  have G4 : w.grownBy w4 none := grown_new (grown_drew (unhide HGR)) g4 (fun g e => by simp at e; omega)
  have hs4 : w.heap.size + 3 ≤ w4.heap.size := by have h : w3.heap.size ≤ w4.heap.size := g4.size; omega
  clear g4 HSRC HONE HFIT HRL c4 HB3 HBR HRC HGR
  obtain ⟨X1, hX1⟩ : ∃ X1 : Array Value, (X0.toList.take 5 ++ rowsK (Nat.min n 4) 4 (compCells C) ++ X0.toList.drop (5 + (rowsK (Nat.min n 4) 4 (compCells C)).length)).toArray = X1 := ⟨_, rfl⟩
  rw [hX1] at HF1 hB4
  clear hX1
  have hB4' := unhide hB4
  have hs1 := (unhide HF1).size
  have HCG : Hid (n ≤ 4 → ∀ i, i < n → (fun i j => if i < Nat.min n 4 then C i j else (fun _ _ => 0 : Nat → Nat → Int) i j) i = C i) := by
    intro h4 i hi
    have e : Nat.min n 4 = n := Nat.min_eq_left h4
    funext j
    rw [e]
    simp only [if_pos hi]
  have HCZ : Hid (n ≤ 4 → ∀ i j, (fun i j => if i < Nat.min n 4 then C i j else (fun _ _ => 0 : Nat → Nat → Int) i j) i j = if i < n then C i j else 0) := by
    intro h4 i j
    have e : Nat.min n 4 = n := Nat.min_eq_left h4
    rw [e]
  have HFB1 : Hid (frameB p wd ht rs n (fun i j => if i < Nat.min n 4 then C i j else (fun _ _ => 0 : Nat → Nat → Int) i j) = b) := by
    unfold Hid
    rw [← unhide HFB, frameB, frameB, compsB_congr (unhide HCG)]
  have HN4 : Hid (b = true → n ≤ 4) := by
    intro hb
    rw [← unhide HFB, frameB, Bool.and_eq_true, compsB, Bool.and_eq_true] at hb
    have := of_decide_eq_true hb.2.1
    omega
  generalize (fun i j => if i < Nat.min n 4 then C i j else (fun _ _ => 0 : Nat → Nat → Int) i j) = D at *
  clear hB4
  obtain ⟨R, HRR⟩ : ∃ R : Array Value, Hid ((if frameB p wd ht rs n D = true then X1 else #[.int .i64 0, .int .i64 0, .int .i64 0, .int .i64 0, .int .i64 0, .int .i64 0, .int .i64 0, .int .i64 0, .int .i64 0, .int .i64 0, .int .i64 0, .int .i64 0, .int .i64 0, .int .i64 0, .int .i64 0, .int .i64 0, .int .i64 0, .int .i64 0, .int .i64 0, .int .i64 0, .int .i64 0]) = R) := ⟨_, rfl⟩
  have HRS : Hid (R.size = 21) := by unfold Hid; rw [← unhide HRR]; split; exact hs1; rfl
  have HRO : Hid (R.all (·.oneCell') = true) := by unfold Hid; rw [← unhide HRR]; split; exact (unhide HF1).one; decide +kernel
  go_wp2_with (refine wpList_load_row rfl 83 _ rfl (w.heap.size + 1 + 1) rfl X1 83 hB4' _ Tryz.underlying83 rfl (by rw [hs1]; kernel_rfl) ?_)
  refine (orNone X1 p wd ht rs n D (unhide HF1) R HRR _).mono ?_
  rintro e w5 ⟨rfl, g5⟩
  have hBr5 := (g5.block (w.heap.size + 1) (by omega) (by simp)).trans hBr
  have G5 := grown_trans G4 g5
  clear hBr hB4'
  go_wp2_with (refine wpList_store_row rfl 83 _ _ rfl (w.heap.size + 1) rfl R rfl #[.int .i64 0, .int .i64 0, .int .i64 0, .int .i64 0, .int .i64 0, .int .i64 0, .int .i64 0, .int .i64 0, .int .i64 0, .int .i64 0, .int .i64 0, .int .i64 0, .int .i64 0, .int .i64 0, .int .i64 0, .int .i64 0, .int .i64 0, .int .i64 0, .int .i64 0, .int .i64 0, .int .i64 0] 83 hBr5 (unhide HRS).symm (by rw [unhide HRS]; kernel_rfl) (unhide HRO) ?_; intro w6 hB6 g6)
  refine bodyPost_ret (v := .agg R) ?_ rfl ⟨R, rfl, fun hb => ?_, fun hb => ?_, ?_⟩
  · rw [results_cell1 rfl]
    exact loadFx (unhide HRS) hB6
  · rw [← unhide HRR, unhide HFB1, hb]; rfl
  · have e : R = X1 := by rw [← unhide HRR, unhide HFB1, hb]; rfl
    rw [e]; exact (unhide HF1).congr (unhide HCZ (unhide HN4 hb))
  · exact grown_new G5 g6 (fun g e => by simp at e; omega)

end Go.Proofs.YtjkokbijnaodnaaGreat

namespace Go.Proofs.YtjkokbijnaodnaaGreat
open Go.RowKit

theorem keyIntF (d : Nat) {x : Int} (wx : (Lit.int .i64 x).wf = true) : Tryz.prog.keyLits (d + 1) 3 [.int .i64 x] = some [.int .i64 x] := by
  unfold Program.keyLits
  simp only [Tryz.underlying3]
  rw [if_pos ⟨trivial, wx⟩]
def litsC (c : Nat → Int) : List Lit := [.int .i64 (c 0), .int .i64 (c 1), .int .i64 (c 2), .int .i64 (c 3)]
def cellsC (c : Nat → Int) : List Value := [.int .i64 (c 0), .int .i64 (c 1), .int .i64 (c 2), .int .i64 (c 3)]
theorem keyCompF (d : Nat) (c : Nat → Int) (h : ∀ j, j < 4 → (Lit.int .i64 (c j)).wf = true) : Tryz.prog.keyLits (d + 1 + 1) 53 (cellsC c) = some (litsC c) := by
  have hc4 : Tryz.prog.cellsOf 53 = 4 := by kernel_rfl
  have hc1 : Tryz.prog.cellsOf 3 = 1 := by kernel_rfl
  unfold Program.keyLits cellsC
  simp only [Tryz.underlying53]
  rw [if_pos ⟨by rw [hc4]; rfl, by kernel_rfl⟩]
  simp only [hc1, List.mapM_cons, List.mapM_nil]
  simp [keyIntF d (h 0 (by omega)), keyIntF d (h 1 (by omega)), keyIntF d (h 2 (by omega)), keyIntF d (h 3 (by omega)), litsC]
def cells16 (D : Nat → Nat → Int) : List Value := cellsC (D 0) ++ (cellsC (D 1) ++ (cellsC (D 2) ++ cellsC (D 3)))
def lits16 (D : Nat → Nat → Int) : List Lit := litsC (D 0) ++ (litsC (D 1) ++ (litsC (D 2) ++ litsC (D 3)))
theorem keyCompsF (d : Nat) (D : Nat → Nat → Int) (h : ∀ i j, j < 4 → (Lit.int .i64 (D i j)).wf = true) : Tryz.prog.keyLits (d + 1 + 1 + 1) 81 (cells16 D) = some (lits16 D) := by
  have hc4 : Tryz.prog.cellsOf 53 = 4 := by kernel_rfl
  have hc16 : Tryz.prog.cellsOf 81 = 16 := by kernel_rfl
  have k0 := keyCompF d (D 0) (h 0)
  have k1 := keyCompF d (D 1) (h 1)
  have k2 := keyCompF d (D 2) (h 2)
  have k3 := keyCompF d (D 3) (h 3)
  have e : List.range 4 = [0, 1, 2, 3] := rfl
  have t0 : ((cells16 D).drop (0 * 4)).take 4 = cellsC (D 0) := rfl
  have t1 : ((cells16 D).drop (1 * 4)).take 4 = cellsC (D 1) := rfl
  have t2 : ((cells16 D).drop (2 * 4)).take 4 = cellsC (D 2) := rfl
  have t3 : ((cells16 D).drop (3 * 4)).take 4 = cellsC (D 3) := rfl
  have hl : (cells16 D).length = 16 := rfl
  generalize cells16 D = X at *
  unfold Program.keyLits
  simp only [Tryz.underlying81]
  rw [if_pos (by rw [hc16, hl]), e]
  simp only [hc4, List.mapM_cons, List.mapM_nil, t0, t1, t2, t3, k0, k1, k2, k3]
  rfl
def cells21 (p wd ht rs n : Int) (D : Nat → Nat → Int) : List Value := .int .i64 p :: .int .i64 wd :: .int .i64 ht :: .int .i64 rs :: .int .i64 n :: cells16 D
def lits21 (p wd ht rs n : Int) (D : Nat → Nat → Int) : List Lit := .int .i64 p :: .int .i64 wd :: .int .i64 ht :: .int .i64 rs :: .int .i64 n :: lits16 D
theorem keyFxF (d : Nat) (p wd ht rs n : Int) (D : Nat → Nat → Int) (h0 : (Lit.int .i64 p).wf = true) (h1 : (Lit.int .i64 wd).wf = true) (h2 : (Lit.int .i64 ht).wf = true) (h3 : (Lit.int .i64 rs).wf = true) (h4 : (Lit.int .i64 n).wf = true) (h : ∀ i j, j < 4 → (Lit.int .i64 (D i j)).wf = true) :
    Tryz.prog.keyLits (d + 1 + 1 + 1 + 1) 83 (cells21 p wd ht rs n D) = some (lits21 p wd ht rs n D) := by
  have hc1 : Tryz.prog.cellsOf 3 = 1 := by kernel_rfl
  have hc16 : Tryz.prog.cellsOf 81 = 16 := by kernel_rfl
  have hc21 : Tryz.prog.cellsOf 83 = 21 := by kernel_rfl
  have k0 := keyIntF (d + 1 + 1) h0
  have k1 := keyIntF (d + 1 + 1) h1
  have k2 := keyIntF (d + 1 + 1) h2
  have k3 := keyIntF (d + 1 + 1) h3
  have k4 := keyIntF (d + 1 + 1) h4
  have k5 := keyCompsF d D h
  have hl : (cells21 p wd ht rs n D).length = 21 := rfl
  have t0 : ((cells21 p wd ht rs n D).drop 0).take 1 = [.int .i64 p] := rfl
  have t1 : ((cells21 p wd ht rs n D).drop 1).take 1 = [.int .i64 wd] := rfl
  have t2 : ((cells21 p wd ht rs n D).drop 2).take 1 = [.int .i64 ht] := rfl
  have t3 : ((cells21 p wd ht rs n D).drop 3).take 1 = [.int .i64 rs] := rfl
  have t4 : ((cells21 p wd ht rs n D).drop 4).take 1 = [.int .i64 n] := rfl
  have t5 : ((cells21 p wd ht rs n D).drop 5).take 16 = cells16 D := rfl
  generalize cells21 p wd ht rs n D = X at *
  unfold Program.keyLits
  simp only [Tryz.underlying83]
  rw [if_pos ⟨by rw [hc21, hl], by kernel_rfl⟩]
  simp only [hc1, hc16, List.mapM_cons, List.mapM_nil, t0, t1, t2, t3, t4, t5, k0, k1, k2, k3, k4, k5]
  rfl
theorem Fx.form {X : Array Value} {p wd ht rs n : Int} {D : Nat → Nat → Int} (h : Fx X p wd ht rs n D) : X = (cells21 p wd ht rs n D).toArray := by
  obtain ⟨l⟩ := X
  have hs : l.length = 21 := h.size
  congr 1
  refine List.ext_getElem? (fun i => ?_)
  by_cases hi : i < 21
  · by_cases h5 : i < 5
    · have e : i = 0 ∨ i = 1 ∨ i = 2 ∨ i = 3 ∨ i = 4 := by omega
      rcases e with rfl | rfl | rfl | rfl | rfl
      · have e : l[0]? = some (.int .i64 p) := by simpa using h.c0
        exact e.trans rfl
      · have e : l[1]? = some (.int .i64 wd) := by simpa using h.c1
        exact e.trans rfl
      · have e : l[2]? = some (.int .i64 ht) := by simpa using h.c2
        exact e.trans rfl
      · have e : l[3]? = some (.int .i64 rs) := by simpa using h.c3
        exact e.trans rfl
      · have e : l[4]? = some (.int .i64 n) := by simpa using h.c4
        exact e.trans rfl
    · obtain ⟨a, b, ha, hb, rfl⟩ : ∃ a b, a < 4 ∧ b < 4 ∧ i = 5 + 4 * a + b := ⟨(i - 5) / 4, (i - 5) % 4, by omega, by omega, by omega⟩
      have hc : l[5 + 4 * a + b]? = some (.int .i64 (D a b)) := by have := h.comp a b ha hb; rw [Nat.mul_comm 4 a]; simpa using this
      have ea : a = 0 ∨ a = 1 ∨ a = 2 ∨ a = 3 := by omega
      have eb : b = 0 ∨ b = 1 ∨ b = 2 ∨ b = 3 := by omega
      rcases ea with rfl | rfl | rfl | rfl <;> rcases eb with rfl | rfl | rfl | rfl <;> exact hc.trans rfl
  · rw [List.getElem?_eq_none (by omega), List.getElem?_eq_none (by show 21 ≤ i; omega)]
/-- The components of two frames are the same, one by one. -/
def compEq (c d : Nat → Int) : Bool := c 0 == d 0 && (c 1 == d 1 && (c 2 == d 2 && c 3 == d 3))
theorem litsC_eq {c d : Nat → Int} : litsC c = litsC d ↔ compEq c d = true := by simp [litsC, compEq]
theorem litsC_len (c : Nat → Int) : (litsC c).length = 4 := rfl
def eqD (D E : Nat → Nat → Int) : Bool := compEq (D 0) (E 0) && (compEq (D 1) (E 1) && (compEq (D 2) (E 2) && compEq (D 3) (E 3)))
theorem lits16_eq {D E : Nat → Nat → Int} : lits16 D = lits16 E ↔ eqD D E = true := by
  simp [lits16, litsC, eqD, compEq, and_assoc]
theorem formedFx {X : Array Value} (hs : X.size = 21) : (Value.agg X).formed Tryz.prog 83 = true := by
  have hc21 : Tryz.prog.cellsOf 83 = 21 := by kernel_rfl
  simp [Value.formed, Tryz.underlying83, hc21, hs]
theorem Fx.cells {X : Array Value} {p wd ht rs n : Int} {D : Nat → Nat → Int} (h : Fx X p wd ht rs n D) : (Value.agg X).cells.toList = cells21 p wd ht rs n D := by
  rw [h.form]
  simp [Value.cells]
set_option maxRecDepth 20000 in
theorem eqFx {X Y : Array Value} {p wd ht rs n p' wd' ht' rs' n' : Int} {D E : Nat → Nat → Int} (hX : Fx X p wd ht rs n D) (hY : Fx Y p' wd' ht' rs' n' E)
    (h0 : (Lit.int .i64 p).wf = true) (h1 : (Lit.int .i64 wd).wf = true) (h2 : (Lit.int .i64 ht).wf = true) (h3 : (Lit.int .i64 rs).wf = true) (h4 : (Lit.int .i64 n).wf = true) (h : ∀ i j, j < 4 → (Lit.int .i64 (D i j)).wf = true)
    (h0' : (Lit.int .i64 p').wf = true) (h1' : (Lit.int .i64 wd').wf = true) (h2' : (Lit.int .i64 ht').wf = true) (h3' : (Lit.int .i64 rs').wf = true) (h4' : (Lit.int .i64 n').wf = true) (h' : ∀ i j, j < 4 → (Lit.int .i64 (E i j)).wf = true) (w : World) :
    (Op.equalIn 10000 83 (.agg X) (.agg Y)).run Tryz.prog w = .ok (p == p' && (wd == wd' && (ht == ht' && (rs == rs' && (n == n' && eqD D E))))) w := by
  obtain ⟨r, hr, hi⟩ := run_equalIn_deep (P := Tryz.prog) 9996 4 83 (by kernel_rfl) w _ _ (.agg X) (.agg Y) _ _ (formedFx hX.size) (formedFx hY.size) (by rw [hX.cells]; exact keyFxF 0 p wd ht rs n D h0 h1 h2 h3 h4 h) (by rw [hY.cells]; exact keyFxF 0 p' wd' ht' rs' n' E h0' h1' h2' h3' h4' h')
  refine hr.trans (congrArg (fun b => Result.ok b w) ?_)
  rw [Bool.eq_iff_iff, hi]
  simp [lits21, lits16_eq]
end Go.Proofs.YtjkokbijnaodnaaGreat

namespace Go.Proofs.YtjkokbijnaodnaaGreat
open Go.RowKit

theorem anyH_take1 {P : Program} {md : Region.Mode} {Q : Exit → Act → World → Prop} {S : World → Prop} {l : List Oper} {i f : Nat} {o : Oper} {v : Value} {listed : Array Bool} {a : Act} {w : World} (ho : l[i]? = some o) (hB : (Region.noSelect l.toArray && Region.free md l.toArray listed i && (Region.ready md l.toArray listed).contains i) = true)
    (hQ : ∀ c a d v w, Q (.panic c) (Act.put a d v) w → Q (.panic c) a w) (hS : S w) (hy : YieldsIf P l.toArray S o v a) (h : wpAnyH P md l.toArray Q S f (listed.setIfInBounds i true) (a.put o.dst v) w) : wpAnyH P md l.toArray Q S (f + 1) listed a w := by
  rw [Bool.and_eq_true, Bool.and_eq_true] at hB
  exact wpAnyH_take (by simpa using ho) hB.1.1 hB.1.2 hB.2 (fun c a w hq => hQ c a _ _ w hq) hy hS h

end Go.Proofs.YtjkokbijnaodnaaGreat

namespace Go.Proofs.YtjkokbijnaodnaaGreat
open Go.RowKit

def levB (lo hi : Int) (zs : List Int) : Bool := decide (zs.length = 64) && zs.all (fun n => decide (lo ≤ n ∧ n ≤ hi))

theorem lev_all {lo hi : Int} {zs : List Int} (hz : zs.length = 64) (h : ∀ j, j < 64 → lo ≤ zs.getD j 0 ∧ zs.getD j 0 ≤ hi) : levB lo hi zs = true := by
  simp only [levB, hz, decide_true, Bool.true_and, List.all_eq_true, decide_eq_true_eq]
  intro n hn
  obtain ⟨i, hi', rfl⟩ := List.getElem_of_mem hn
  have h2 : zs.getD i 0 = zs[i] := by simp [hi']
  rw [← h2]
  exact h i (by omega)
theorem lev_at {lo hi : Int} {zs : List Int} (h : levB lo hi zs = true) : zs.length = 64 ∧ ∀ j, j < 64 → lo ≤ zs.getD j 0 ∧ zs.getD j 0 ≤ hi := by
  simp only [levB, Bool.and_eq_true, decide_eq_true_eq, List.all_eq_true] at h
  refine ⟨h.1, fun j hj => ?_⟩
  have hj' : j < zs.length := by omega
  have h2 : zs.getD j 0 = zs[j] := by simp [hj']
  rw [h2]
  exact h.2 _ (List.getElem_mem hj')

set_option maxHeartbeats 800000 in
theorem specLev (ao : Option Addr) (n cap : Nat) (zs : List Int) (lo hi : Int) (w : World) (hr : Rd .i64 w ao n zs) (b : Bool) (hb : Hid (levB lo hi zs = b)) :
    Calls Tryz.prog 64 #[.slice ao n cap, .int .i64 lo, .int .i64 hi] w fun e w' => e = .returned (.bool b) ∧ w.grownBy w' none := by
  by_cases h : n = 64
  · subst h
    have HR := hide hr
    have HZ := hide hr.1
    clear hr
    go_enter Tryz.func64, Tryz.ntmps64
    go_wp2
    go_loopw [7] (fun i wr => ∃ k : Nat, k ≤ 64 ∧ i = .int .i64 k ∧ (Hid (∀ j, j < k → lo ≤ zs.getD j 0 ∧ zs.getD j 0 ≤ hi)) ∧ w.grownBy wr none) (fun i _ => 64 - (intOf i).toNat)
    case atStart => exact ⟨0, Nat.zero_le _, rfl, fun j hj => absurd hj (by omega), World.grownBy.refl _ _⟩
    case round =>
      obtain ⟨k, hk, rfl, HK, hgk⟩ := hrel
      by_cases hlt : k < 64
      · obtain ⟨bb, off, rfl, hc⟩ := (unhide HR).2 k hlt
        have hcell := hgk.cell hc (by simp)
        obtain ⟨t, HT⟩ : ∃ t, Hid (decide (lo ≤ zs.getD k 0 ∧ zs.getD k 0 ≤ hi) = t) := ⟨_, rfl⟩
        clear hc
        obtain ⟨z, HX⟩ : ∃ z, Hid (zs.getD k 0 = z) := ⟨_, rfl⟩
        rw [unhide HX] at hcell HT
        go_wp2_with fail
        refine (between z lo hi t HT wr).mono ?_
        rintro e w2 ⟨rfl, rfl⟩
        cases t with
        | true =>
          go_wp2
          go_roundw
          case rel =>
            refine ⟨k + 1, by omega, by go_num, fun j hj => ?_, hgk⟩
            by_cases e : j = k
            · subst e; rw [unhide HX]; have := unhide HT; simpa using this
            · exact unhide HK j (by omega)
          case measure => simp [intOf]; omega
        | false =>
          have hf : b = false := by
            cases hbb : b with
            | false => rfl
            | true =>
              have h1 := (lev_at ((unhide hb).trans hbb)).2 k hlt
              rw [unhide HX] at h1
              have := unhide HT
              simp at this
              omega
          subst hf
          go_wp2
          go_ret
          exact ⟨rfl, hgk⟩
      · obtain rfl : k = 64 := by omega
        have ht : b = true := by rw [← unhide hb]; exact lev_all (unhide HZ) (unhide HK)
        subst ht
        go_wp2
        go_ret
        exact ⟨rfl, hgk⟩
  · have hb' : b = false := by rw [← unhide hb]; simp [levB, hr.1, h]
    subst hb'
    have hne : ((n : Int) != 64) = true := by simp; omega
    clear hr hb
    go_enter Tryz.func64, Tryz.ntmps64
    go_wp2
    go_ret
    exact ⟨rfl, World.grownBy.refl _ _⟩

end Go.Proofs.YtjkokbijnaodnaaGreat

namespace Go.Proofs.YtjkokbijnaodnaaGreat

/-- How many blocks a component's plane has beside and below one another, and how many of them are needed. -/
def bwG (wd : Int) (n : Nat) (C : Nat → Nat → Int) (c : Nat) : Nat := (upI wd (8 * mostA 1 C 1 n) * C c 1).toNat
def bhG (ht : Int) (n : Nat) (C : Nat → Nat → Int) (c : Nat) : Nat := (upI ht (8 * mostA 1 C 2 n) * C c 2).toNat
def nwG (wd : Int) (n : Nat) (C : Nat → Nat → Int) (c : Nat) : Nat := (upI (upI (wd * C c 1) (mostA 1 C 1 n)) 8).toNat
def nhG (ht : Int) (n : Nat) (C : Nat → Nat → Int) (c : Nat) : Nat := (upI (upI (ht * C c 2) (mostA 1 C 2 n)) 8).toNat
theorem up_le32 {n d : Int} (hn : 1 ≤ n ∧ n ≤ 256) (hd : 1 ≤ d ∧ d ≤ 4) : 1 ≤ upI n (8 * d) ∧ upI n (8 * d) ≤ 32 := by
  unfold upI
  rw [Int.tdiv_eq_ediv_of_nonneg (by omega)]
  have : d = 1 ∨ d = 2 ∨ d = 3 ∨ d = 4 := by omega
  rcases this with rfl | rfl | rfl | rfl <;> omega
theorem mul_in {a b : Int} (ha : 1 ≤ a ∧ a ≤ 32) (hb : 1 ≤ b ∧ b ≤ 4) : 1 ≤ a * b ∧ a * b ≤ 128 := by
  obtain ⟨b0, b1⟩ := hb
  have : b = 1 ∨ b = 2 ∨ b = 3 ∨ b = 4 := by omega
  rcases this with rfl | rfl | rfl | rfl <;> omega
structure Dims (wd ht : Int) (n : Nat) (C : Nat → Nat → Int) (c : Nat) : Prop where
  bw : upI wd (8 * mostA 1 C 1 n) * C c 1 = (bwG wd n C c : Int)
  bh : upI ht (8 * mostA 1 C 2 n) * C c 2 = (bhG ht n C c : Int)
  bw1 : 1 ≤ bwG wd n C c ∧ bwG wd n C c ≤ 128
  bh1 : 1 ≤ bhG ht n C c ∧ bhG ht n C c ≤ 128
  sw : 1 ≤ upI (wd * C c 1) (mostA 1 C 1 n) ∧ upI (wd * C c 1) (mostA 1 C 1 n) ≤ 1024
  sh : 1 ≤ upI (ht * C c 2) (mostA 1 C 2 n) ∧ upI (ht * C c 2) (mostA 1 C 2 n) ≤ 1024
  nw : upI (upI (wd * C c 1) (mostA 1 C 1 n)) 8 = (nwG wd n C c : Int)
  nh : upI (upI (ht * C c 2) (mostA 1 C 2 n)) 8 = (nhG ht n C c : Int)
  nw1 : nwG wd n C c ≤ 1024
  nh1 : nhG ht n C c ≤ 1024
theorem side_mul {a b : Int} (ha : 1 ≤ a ∧ a ≤ 256) (hb : 1 ≤ b ∧ b ≤ 4) : 1 ≤ a * b ∧ a * b ≤ 1024 := by
  obtain ⟨b0, b1⟩ := hb
  have : b = 1 ∨ b = 2 ∨ b = 3 ∨ b = 4 := by omega
  rcases this with rfl | rfl | rfl | rfl <;> omega
theorem dims_of {wd ht : Int} {n : Nat} {C : Nat → Nat → Int} (hg : Geo wd ht n C (mostA 1 C 1 n) (mostA 1 C 2 n)) (c : Nat) (hc : c < n) : Dims wd ht n C c := by
  have h1 := mul_in (up_le32 hg.wd hg.hb) (hg.ch c hc)
  have h2 := mul_in (up_le32 hg.ht hg.vb) (hg.cv c hc)
  have h3 := side_mul hg.wd (hg.ch c hc)
  have h4 := side_mul hg.ht (hg.cv c hc)
  have h5 := upI_pos h3.1 hg.hb.1
  have h6 := upI_pos h4.1 hg.vb.1
  have h7 := upI_pos h5.1 (show (1 : Int) ≤ 8 by omega)
  have h8 := upI_pos h6.1 (show (1 : Int) ≤ 8 by omega)
  refine ⟨?_, ?_, ?_, ?_, ⟨h5.1, by omega⟩, ⟨h6.1, by omega⟩, ?_, ?_, ?_, ?_⟩
  · unfold bwG; omega
  · unfold bhG; omega
  · unfold bwG; omega
  · unfold bhG; omega
  · unfold nwG; omega
  · unfold nhG; omega
  · unfold nwG; omega
  · unfold nhG; omega

/-- Blocks of noughts, and what is so of coefficients that are ok. -/
def noughts : List Int := List.replicate 64 0
def emptyG (n : Nat) (bn : Nat → Nat) : List (List (List Int)) := (List.range n).map fun c => List.replicate (bn c) noughts
def emptyF (b : Bool) (wd ht : Int) (n : Nat) (C : Nat → Nat → Int) : List (List (List Int)) := if b then emptyG n (fun c => bwG wd n C c * bhG ht n C c) else []
def zeroB (xs : List Int) : Bool := xs.all (fun x => x == 0)
def hidB (bw nw nh k : Nat) : Bool := decide (nh ≤ k / bw) || decide (nw ≤ k % bw)
def blockB (hid : Bool) (xs : List Int) : Bool := levB (-16383) 16383 xs && (!hid || zeroB xs)
def planeB (bw bh nw nh : Nat) (P : List (List Int)) : Bool := decide (P.length = bw * bh) && (List.range P.length).all (fun k => blockB (hidB bw nw nh k) (P.getD k []))
def coefsOkB (wd ht : Int) (n : Nat) (C : Nat → Nat → Int) (X : List (List (List Int))) : Bool := decide (X.length = n) && (List.range X.length).all (fun c => planeB (bwG wd n C c) (bhG ht n C c) (nwG wd n C c) (nhG ht n C c) (X.getD c []))
def coefsOkF (b : Bool) (wd ht : Int) (n : Nat) (C : Nat → Nat → Int) (X : List (List (List Int))) : Bool := b && coefsOkB wd ht n C X
/-- Where a place lies in its plane, if it is one. -/
def placeO (wd ht : Int) (n : Nat) (C : Nat → Nat → Int) (co ro cl : Int) : Option Nat :=
  if 0 ≤ co ∧ co ≤ (n : Int) - 1 then (if (0 ≤ ro ∧ ro ≤ (bhG ht n C co.toNat : Int) - 1) ∧ 0 ≤ cl ∧ cl ≤ (bwG wd n C co.toNat : Int) - 1 then some (ro.toNat * bwG wd n C co.toNat + cl.toNat) else none) else none
def hiddenI (wd ht : Int) (n : Nat) (C : Nat → Nat → Int) (c : Nat) (ro cl : Int) : Bool := decide ((nhG ht n C c : Int) ≤ ro) || decide ((nwG wd n C c : Int) ≤ cl)
def blockAtF (b : Bool) (wd ht : Int) (n : Nat) (C : Nat → Nat → Int) (X : List (List (List Int))) (co ro cl : Int) : List Int :=
  if coefsOkF b wd ht n C X then (match placeO wd ht n C co ro cl with | some k => (X.getD co.toNat []).getD k [] | none => []) else []
def withBlockF (b : Bool) (wd ht : Int) (n : Nat) (C : Nat → Nat → Int) (X : List (List (List Int))) (co ro cl : Int) (bl : List Int) : List (List (List Int)) :=
  if coefsOkF b wd ht n C X && levB (-16383) 16383 bl then (match placeO wd ht n C co ro cl with | some k => if hiddenI wd ht n C co.toNat ro cl then [] else X.set co.toNat ((X.getD co.toNat []).set k bl) | none => []) else []

end Go.Proofs.YtjkokbijnaodnaaGreat

namespace Go.Proofs.YtjkokbijnaodnaaGreat
open Go.RowKit

theorem zero_take {xs : List Int} {k : Nat} (hk : k < xs.length) : zeroB (xs.take (k + 1)) = (zeroB (xs.take k) && (xs.getD k 0 == 0)) := by
  unfold zeroB
  rw [List.take_succ_eq_append_getElem hk, List.all_append]
  simp [hk]
theorem zero_no {xs : List Int} {k : Nat} (hk : k < xs.length) (h : (xs.getD k 0 == 0) = false) : zeroB xs = false := by
  cases hx : zeroB xs with
  | false => rfl
  | true =>
    have e : xs.getD k 0 = xs[k] := by simp [hk]
    rw [e, List.all_eq_true.1 hx _ (List.getElem_mem hk)] at h
    exact h

set_option maxHeartbeats 800000 in
theorem specZero (ao : Option Addr) (n cap : Nat) (zs : List Int) (w : World) (hr : Rd .i64 w ao n zs) (hn : n ≤ 1048576) (b : Bool) (hb : Hid (zeroB zs = b)) :
    Calls Tryz.prog 62 #[.slice ao n cap] w fun e w' => e = .returned (.bool b) ∧ w' = w := by
  have HL := hide hr.1
  have HR := hide hr
  clear hr
  go_enter Tryz.func62, Tryz.ntmps62
  go_wp2
  go_loopw [3] (fun iv wr => ∃ i : Nat, i ≤ n ∧ iv = .int .i64 i ∧ Hid (zeroB (zs.take i) = true) ∧ wr = w) (fun iv _ => n - (intOf iv).toNat)
  case atStart => exact ⟨0, Nat.zero_le _, rfl, rfl, rfl⟩
  case round =>
    obtain ⟨i, hi, rfl, ha, rfl⟩ := hrel
    by_cases hlt : i < n
    · obtain ⟨fb, fo, rfl, c0⟩ := (unhide HR).2 i hlt
      have his : i < zs.length := by rw [unhide HL]; exact hlt
      have hal := zero_take his
      have hno := zero_no his
      have hiI : (i : Int) < (n : Int) := by omega
      generalize zs.getD i 0 = x at *
      cases hx : (x == 0) with
      | false =>
        have e : b = false := by rw [← unhide hb]; exact hno hx
        subst e
        have hx2 : (x != 0) = true := by unfold bne; rw [hx]; rfl
        clear hal hno ha hx
        go_wp2
        go_ret
        exact ⟨rfl, rfl⟩
      | true =>
        have HA : Hid (zeroB (zs.take (i + 1)) = true) := by unfold Hid; rw [hal, unhide ha, hx]; rfl
        have hx2 : (x != 0) = false := by unfold bne; rw [hx]; rfl
        clear hal hno ha hx
        go_wp2
        go_roundw
        case rel => exact ⟨i + 1, by omega, by go_num, HA, trivial⟩
        case measure => simp [intOf]; omega
    · obtain rfl : i = n := by omega
      have e : b = true := by
        have h := unhide ha
        rw [← unhide HL, List.take_length] at h
        rw [← unhide hb]; exact h
      subst e
      clear ha
      go_wp2
      go_ret
      exact ⟨rfl, rfl⟩

end Go.Proofs.YtjkokbijnaodnaaGreat

namespace Go.Proofs.YtjkokbijnaodnaaGreat
open Go.RowKit

theorem divUp (n d u : Int) (hn : 1 ≤ n ∧ n ≤ 1000000) (hd : 1 ≤ d ∧ d ≤ 1000000) (hu : Hid (upI n d = u)) (w : World) :
    Calls Tryz.prog 116 #[.int .i64 n, .int .i64 d] w fun e w' => e = .returned (.int .i64 u) ∧ w = w' := by
  have hd0 : (d == 0) = false := by simp; omega
  have hm1 : (d == -1) = false := by simp; omega
  have he : Hid ((n + d - 1) / d = u) := by rw [← unhide hu, upI, Int.tdiv_eq_ediv_of_nonneg (by omega)]; rfl
  go_enter Tryz.func116, Tryz.ntmps116
  go_wp2
  go_ret
  exact ⟨by simp [unhide he], rfl⟩

theorem areaCount (a b : Int) (ha : 0 ≤ a ∧ a ≤ 1024) (hb : 0 ≤ b ∧ b ≤ 1024) (w : World) :
    Calls Tryz.prog 94 #[.agg #[.int .i64 a, .int .i64 b]] w fun e w' => e = .returned (.int .i64 (a * b)) ∧ w.grownBy w' none := by
  have h0 : 0 ≤ a * b := Int.mul_nonneg ha.1 hb.1
  have h1 : a * b ≤ 1024 * 1024 := Int.mul_le_mul ha.2 hb.2 hb.1 (by omega)
  have hw := i64_in (a * b) (by omega)
  go_enter Tryz.func94, Tryz.ntmps94
  go_wp2
  go_ret
  exact ⟨rfl, grown_alloc (World.grownBy.refl _ _) _⟩

theorem shares (X : Array Value) (p wd ht rs n : Int) (C : Nat → Nat → Int) (hX : Fx X p wd ht rs n C) (c : Nat) (hc : c < 4) (w : World) :
    Calls Tryz.prog 108 #[.agg X, .int .i64 c] w fun e w' => e = .returned (.agg #[.int .i64 (C c 1), .int .i64 (C c 2)]) ∧ w.grownBy w' none := by
  have hs := hX.size
  have hc0 : (0 : Int) ≤ (c : Int) := by omega
  have hc4 : (c : Int) < 4 := by omega
  have HB : ∀ o, ((w.alloc (.cells X 83)).alloc o).heap[w.heap.size]? = some (.cells X 83 (0, 0)) := by
    intro o; rw [Below.heap_alloc _ _ _ (by simp)]; exact heap_alloc_new w _
  have K : Hid (∀ o, ((w.alloc (.cells X 83)).alloc o).cell? ⟨w.heap.size, 5 + c * 4 + 1, none⟩ = some (.int .i64 (C c 1)) ∧ ((w.alloc (.cells X 83)).alloc o).cell? ⟨w.heap.size, 5 + c * 4 + 2, none⟩ = some (.int .i64 (C c 2))) := fun o => ⟨fx_cell hX (HB o) c 1 (by omega) (by omega), fx_cell hX (HB o) c 2 (by omega) (by omega)⟩
  have h1 := (unhide K (.cells #[.int .i64 0, .int .i64 0] 128)).1
  have h2 := (unhide K (.cells #[.int .i64 0, .int .i64 0] 128)).2
  clear hX HB
  go_enter Tryz.func108, Tryz.ntmps108
  go_wp2
  go_region_held3 (fun w' => w'.cell? ⟨w.heap.size, 5 + c * 4 + 1, none⟩ = some (.int .i64 (C c 1)) ∧ w'.cell? ⟨w.heap.size, 5 + c * 4 + 2, none⟩ = some (.int .i64 (C c 2))) (first | exact ⟨h1, h2⟩ | exact unhide K _) (fail)
  go_wp2
  refine bodyPost_ret (v := .agg #[.int .i64 (C c 1), .int .i64 (C c 2)]) (by simp [results, Tryz.results108, go_sem]) rfl ⟨rfl, ?_⟩
  exact grown_drew (grown_alloc (grown_alloc (World.grownBy.refl _ _) _) _)

theorem areaCells {w : World} {g : Nat} {a b : Value} {t : TypeId} (hb : w.heap[g]? = some (.cells #[a, b] t (0, 0))) :
    w.cell? ⟨g, 0, none⟩ = some a ∧ w.cell? ⟨g, 1, none⟩ = some b ∧ w.frozen? ⟨g, 0, none⟩ = false ∧ w.frozen? ⟨g, 1, none⟩ = false :=
  ⟨by rw [cell_of_row w _ 0 _ _ (0, 0) hb]; rfl, by rw [cell_of_row w _ 1 _ _ (0, 0) hb]; rfl, frozen_of_row w g 0 _ _ hb, frozen_of_row w g 1 _ _ hb⟩
theorem grown_setNew {w w' : World} (h : w.grownBy w' none) (b j : Nat) (u : Value) (hb : w.heap.size ≤ b) : w.grownBy (w'.setCell ⟨b, j, none⟩ u) none := grown_new h (grown_set w' b j u) (fun g e => by simp at e; omega)
theorem loadArea {w : World} {g : Nat} {a b : Int} (hb : w.heap[g]? = some (.cells #[.int .i64 a, .int .i64 b] 128 (0, 0))) : (loadVar 128 ⟨g, 0, none⟩).run Tryz.prog w = .ok (.agg #[.int .i64 a, .int .i64 b]) w :=
  run_loadVar_row w g 128 128 _ (0, 0) _ hb Tryz.underlying128 rfl (by kernel_rfl)

set_option maxHeartbeats 1600000 in
theorem most (X : Array Value) (p wd ht rs : Int) (n : Nat) (C : Nat → Nat → Int) (hX : Fx X p wd ht rs n C) (hn : n ≤ 4) (mh mv : Int) (HH : Hid (mostA 0 C 1 n = mh)) (HV : Hid (mostA 0 C 2 n = mv)) (w : World) :
    Calls Tryz.prog 115 #[.agg X] w fun e w' => e = .returned (.agg #[.int .i64 mh, .int .i64 mv]) ∧ w.grownBy w' none := by
  have HX := hide hX
  have hs := hX.size
  have h4 := hX.c4
  have h4' : X[4] = .int .i64 n := by rw [Array.getElem?_eq_getElem (by omega)] at h4; simpa using h4
  obtain ⟨W0, hW0⟩ : ∃ W0, (((w.alloc (.cells X 83)).alloc (.cells #[.int .i64 0, .int .i64 0] 128)).alloc (.cells #[.int .i64 0, .int .i64 0] 128)) = W0 := ⟨_, rfl⟩
  have G0 : w.grownBy W0 none := by rw [← hW0]; exact grown_alloc (grown_alloc (grown_alloc (World.grownBy.refl _ _) _) _) _
  have b0 : W0.heap[w.heap.size]? = some (.cells X 83 (0, 0)) := by
    rw [← hW0, Below.heap_alloc _ _ _ (by simp; omega), Below.heap_alloc _ _ _ (by simp)]
    exact heap_alloc_new w _
  have b1 : W0.heap[w.heap.size + 1]? = some (.cells #[.int .i64 0, .int .i64 0] 128 (0, 0)) := by
    rw [← hW0, Below.heap_alloc _ _ _ (by simp)]
    have := heap_alloc_new (w.alloc (.cells X 83)) (.cells #[.int .i64 0, .int .i64 0] 128)
    simpa using this
  have b2 : W0.heap[w.heap.size + 1 + 1]? = some (.cells #[.int .i64 0, .int .i64 0] 128 (0, 0)) := by
    rw [← hW0]
    have := heap_alloc_new ((w.alloc (.cells X 83)).alloc (.cells #[.int .i64 0, .int .i64 0] 128)) (.cells #[.int .i64 0, .int .i64 0] 128)
    simpa using this
  have hsz : W0.heap.size = w.heap.size + 3 := by rw [← hW0]; simp
  have HW := hide hW0
  have B0 := hide b0
  have B1 := hide b1
  have B2 := hide b2
  have HG0 := hide G0
  clear hX hW0 b0 b1 b2 G0 h4
  go_enter Tryz.func115, Tryz.ntmps115
  go_wp2
  rw [unhide HW]
  clear HW
  go_loopw [9] (fun i wr => ∃ k : Nat, k ≤ n ∧ i = .int .i64 k ∧ wr.heap[w.heap.size + 1 + 1]? = some (.cells #[.int .i64 (mostA 0 C 1 k), .int .i64 (mostA 0 C 2 k)] 128 (0, 0)) ∧ W0.grownBy wr (some (w.heap.size + 1 + 1))) (fun i _ => n - (intOf i).toNat)
  case atStart => exact ⟨0, Nat.zero_le _, rfl, unhide B2, World.grownBy.refl _ _⟩
  case round =>
    obtain ⟨k, hk, rfl, hM, hgk⟩ := hrel
    have hB := (hgk.block w.heap.size (by omega) (by simp; omega)).trans (unhide B0)
    have hR := (hgk.block (w.heap.size + 1) (by omega) (by simp)).trans (unhide B1)
    have hsk := hgk.size
    by_cases hlt : k < n
    · have S1 : Hid (mostA 0 C 1 (k + 1) = max (mostA 0 C 1 k) (C k 1)) := rfl
      have S2 : Hid (mostA 0 C 2 (k + 1) = max (mostA 0 C 2 k) (C k 2)) := rfl
      generalize mostA 0 C 1 k = m1 at *
      generalize mostA 0 C 2 k = m2 at *
      go_wp2_with (refine wpList_load_row rfl 83 _ rfl w.heap.size rfl X 83 hB _ Tryz.underlying83 rfl (by rw [hs]; kernel_rfl) ?_)
      refine (shares X p wd ht rs n C (unhide HX) k (by omega) _).mono ?_
      rintro e w2 ⟨rfl, g2⟩
      have hM2 := (g2.block (w.heap.size + 1 + 1) (by omega) (by simp)).trans hM
      have s2 := g2.size
      have gA : w2.grownBy (w2.alloc (.cells #[.int .i64 (C k 1), .int .i64 (C k 2)] 128)) none := grown_alloc (World.grownBy.refl _ _) _
      have hM3 := (gA.block (w.heap.size + 1 + 1) (by omega) (by simp)).trans hM2
      have cm0 : (w2.alloc (.cells #[.int .i64 (C k 1), .int .i64 (C k 2)] 128)).cell? ⟨w.heap.size + 1 + 1, 0, none⟩ = some (.int .i64 m1) := by rw [cell_of_row _ _ 0 _ _ (0, 0) hM3]; rfl
      have cm1 : (w2.alloc (.cells #[.int .i64 (C k 1), .int .i64 (C k 2)] 128)).cell? ⟨w.heap.size + 1 + 1, 1, none⟩ = some (.int .i64 m2) := by rw [cell_of_row _ _ 1 _ _ (0, 0) hM3]; rfl
      have GA := hide (grown_trans g2 gA)
      have HM3 := hide hM3
      clear hM2 hM3 gA hM
      generalize C k 1 = c1 at *
      generalize C k 2 = c2 at *
      have fz0 := frozen_of_row _ _ 0 _ _ (unhide HM3)
      have fz1 := frozen_of_row _ _ 1 _ _ (unhide HM3)
      have ST : Hid (∀ u v : Int, (((w2.alloc (.cells #[.int .i64 c1, .int .i64 c2] 128)).setCell ⟨w.heap.size + 1 + 1, 0, none⟩ (.int .i64 u)).setCell ⟨w.heap.size + 1 + 1, 1, none⟩ (.int .i64 v)).heap[w.heap.size + 1 + 1]? = some (.cells #[.int .i64 u, .int .i64 v] 128 (0, 0)) ∧
          W0.grownBy (((w2.alloc (.cells #[.int .i64 c1, .int .i64 c2] 128)).setCell ⟨w.heap.size + 1 + 1, 0, none⟩ (.int .i64 u)).setCell ⟨w.heap.size + 1 + 1, 1, none⟩ (.int .i64 v)) (some (w.heap.size + 1 + 1))) := fun u v =>
        ⟨heap_setCell_same _ _ 1 _ _ _ (heap_setCell_same _ _ 0 _ _ _ (unhide HM3)), grown_trans (grown_trans (grown_trans hgk (grown_any (unhide GA))) (grown_set _ _ _ _)) (grown_set _ _ _ _)⟩
      by_cases q1 : m1 < c1 <;> by_cases q2 : m2 < c2
      all_goals
        go_wp2
        go_roundw
        case rel => exact ⟨k + 1, by omega, by go_num, by rw [unhide S1, unhide S2, ← show _ = max m1 c1 from by first | exact (Int.max_eq_right (by omega)).symm | exact (Int.max_eq_left (by omega)).symm, ← show _ = max m2 c2 from by first | exact (Int.max_eq_right (by omega)).symm | exact (Int.max_eq_left (by omega)).symm]; exact (unhide ST _ _).1, (unhide ST _ _).2⟩
        case measure => simp [intOf]; omega
    · have hkn : k = n := by omega
      subst hkn
      rw [unhide HH, unhide HV] at hM
      have cm := areaCells hM
      have cr := areaCells hR
      go_wp2
      refine bodyPost_ret (v := .agg #[.int .i64 mh, .int .i64 mv]) (by simp [results, Tryz.results115, go_sem, cr]) rfl ⟨rfl, ?_⟩
      exact grown_setNew (grown_setNew (grown_new (unhide HG0) hgk (fun g e => by simp at e; omega)) _ _ _ (by omega)) _ _ _ (by omega)

end Go.Proofs.YtjkokbijnaodnaaGreat

namespace Go.Proofs.YtjkokbijnaodnaaGreat
open Go.RowKit

section
variable {P : Program} {md : Region.Mode} {Q : Exit → Act → World → Prop} {l : List Oper}

/-- Whether operation k is done. -/
def doneAt (listed : Array Bool) (k : Nat) : Prop := listed.getD k false = true
theorem doneAt_set {listed : Array Bool} {i k : Nat} (hi : i < listed.size) : doneAt (listed.setIfInBounds i true) k ↔ k = i ∨ doneAt listed k := by
  unfold doneAt
  rw [Array.getD_eq_getD_getElem?, Array.getElem?_setIfInBounds, Array.getD_eq_getD_getElem?]
  by_cases e : i = k
  · subst e; simp [hi]
  · rw [if_neg e]
    constructor
    · intro h; exact .inr h
    · rintro (h | h)
      · exact absurd h.symm e
      · exact h

/-- How many are not done. -/
def undone (listed : Array Bool) : Nat := listed.toList.countP (fun b => !b)
theorem undone_set {listed : Array Bool} {i : Nat} (h : listed.getD i true = false) : undone (listed.setIfInBounds i true) + 1 = undone listed := by
  have hi : i < listed.size := by
    rcases Nat.lt_or_ge i listed.size with h1 | h1
    · exact h1
    · rw [Array.getD_eq_getD_getElem?, Array.getElem?_eq_none h1] at h; simp at h
  have hb : listed.toList[i]? = some false := by
    rw [Array.getD_eq_getD_getElem?, Array.getElem?_eq_getElem hi] at h
    rw [Array.getElem?_toList, Array.getElem?_eq_getElem hi]
    simpa using h
  have key : ∀ (xs : List Bool) (i : Nat), xs[i]? = some false → (xs.set i true).countP (fun b => !b) + 1 = xs.countP (fun b => !b) := by
    intro xs
    induction xs with
    | nil => intro i h; simp at h
    | cons x xs ih =>
      intro i h
      cases i with
      | zero => simp at h; subst h; simp
      | succ i =>
        have := ih i (by simpa using h)
        rw [List.set_cons_succ, List.countP_cons, List.countP_cons]
        omega
  unfold undone
  rw [Array.toList_setIfInBounds]
  exact key _ _ hb

theorem ready_mem {listed : Array Bool} {i : Nat} (h : i ∈ Region.ready md l.toArray listed) : ∃ o, l[i]? = some o ∧ listed.getD i true = false ∧ ∀ e ∈ o.after, Region.binds md e = true → doneAt listed e.on := by
  unfold Region.ready at h
  rw [List.mem_filter] at h
  obtain ⟨_, h2⟩ := h
  rw [Bool.and_eq_true] at h2
  obtain ⟨h2, h3⟩ := h2
  cases ho : l[i]? with
  | none => simp [ho] at h3
  | some o =>
    refine ⟨o, rfl, by simpa using h2, fun e he hb => ?_⟩
    have h4 : o.after.all (fun e => !Region.binds md e || listed.getD e.on false) = true := by simpa [ho] using h3
    have h5 := (Array.all_eq_true_iff_forall_mem.1 h4) e he
    rw [hb] at h5
    simpa [doneAt] using h5

/-- Where every operation waits for earlier ones alone, none is ready only when all are done. -/
theorem all_done {listed : Array Bool} (hsz : listed.size = l.length) (hfw : ∀ (i : Nat) (o : Oper), l[i]? = some o → ∀ e ∈ o.after, e.on < i) (hr : Region.ready md l.toArray listed = []) : ∀ i, i < l.length → doneAt listed i := by
  intro i
  induction i using Nat.strongRecOn with
  | _ i ih =>
    intro hi
    by_cases hd : doneAt listed i
    · exact hd
    · exfalso
      have hmem : i ∈ Region.ready md l.toArray listed := by
        unfold Region.ready
        rw [List.mem_filter]
        refine ⟨by simpa using hi, ?_⟩
        have ho : l[i]? = some l[i] := List.getElem?_eq_getElem hi
        have hf : listed.getD i true = false := by
          unfold doneAt at hd
          rw [Array.getD_eq_getD_getElem?, Array.getElem?_eq_getElem (by omega)] at hd ⊢
          simpa using hd
        rw [Bool.and_eq_true]
        refine ⟨by simp [hf], ?_⟩
        have h4 : (l[i]).after.all (fun e => !Region.binds md e || listed.getD e.on false) = true := by
          rw [Array.all_eq_true_iff_forall_mem]
          intro e he
          have hlt := hfw i _ ho e he
          have := ih e.on hlt (by omega)
          unfold doneAt at this
          rw [this, Bool.or_true]
        simpa [ho] using h4
      rw [hr] at hmem
      simp at hmem

theorem any_inv (I : Array Bool → Act → World → Prop)
    (step : ∀ (i : Nat) (o : Oper) (listed : Array Bool) (a : Act) (w : World), l[i]? = some o → listed.size = l.length → i < listed.size → ¬ doneAt listed i → (∀ e ∈ o.after, Region.binds md e = true → doneAt listed e.on) → I listed a w →
      ∀ K' : Act → World → Prop, Shut (∀ a' w', I (listed.setIfInBounds i true) a' w' → K' a' w') → if Region.wanted o (yielded l.toArray a.tmps) = true then Oper.wp P o a w K' Q else K' (a.put o.dst undef) w)
    (done : ∀ listed a w, listed.size = l.length → Region.ready md l.toArray listed = [] → I listed a w → Q .normal a w) :
    ∀ (fuel : Nat) (listed : Array Bool) (a : Act) (w : World), listed.size = l.length → undone listed ≤ fuel → I listed a w → wpAny P md l.toArray Q fuel listed a w := by
  have lt_of : ∀ {listed : Array Bool} {i : Nat}, listed.getD i true = false → i < listed.size := by
    intro listed i h
    rcases Nat.lt_or_ge i listed.size with h1 | h1
    · exact h1
    · rw [Array.getD_eq_getD_getElem?, Array.getElem?_eq_none h1] at h; simp at h
  intro fuel
  induction fuel with
  | zero =>
    intro listed a w hsz hu hI
    have hr : Region.ready md l.toArray listed = [] := by
      apply List.eq_nil_iff_forall_not_mem.2
      intro i hi
      obtain ⟨o, _, hf, _⟩ := ready_mem hi
      have := undone_set hf
      omega
    exact ⟨hr, done listed a w hsz hr hI⟩
  | succ fuel ih =>
    intro listed a w hsz hu hI
    refine ⟨fun hr => done listed a w hsz hr hI, fun i hi => ?_⟩
    obtain ⟨o, ho, hf, hdep⟩ := ready_mem hi
    have hlt := lt_of hf
    have hnd : ¬ doneAt listed i := by
      unfold doneAt
      rw [Array.getD_eq_getD_getElem?, Array.getElem?_eq_getElem hlt] at hf ⊢
      simpa using hf
    have hu2 := undone_set hf
    refine wpOp_step (by simpa using ho) (fun K' hK => step i o listed a w ho hsz hlt hnd hdep hI K' (fun a' w' hI' => hK a' w' (ih _ a' w' (by simpa using hsz) (by omega) hI')))
end

/-- A region that draws its order, by an invariant. -/
theorem wp_region_inv {P : Program} {id : Nat} {Q : Exit → Act → World → Prop} {a : Act} {w : World} {l : List Oper} (I : Array Bool → Act → World → Prop) (hm : P.follows .mixedOrders = true)
    (hfw : ∀ (i : Nat) (o : Oper), l[i]? = some o → ∀ e ∈ o.after, e.on < i)
    (start : I (Array.replicate l.length false) a w.drew)
    (step : ∀ (i : Nat) (o : Oper) (listed : Array Bool) (a : Act) (w : World), l[i]? = some o → listed.size = l.length → i < listed.size → ¬ doneAt listed i → (∀ e ∈ o.after, Region.binds .any e = true → doneAt listed e.on) → I listed a w →
      ∀ K' : Act → World → Prop, Shut (∀ a' w', I (listed.setIfInBounds i true) a' w' → K' a' w') → if Region.wanted o (yielded l.toArray a.tmps) = true then Oper.wp P o a w K' Q else K' (a.put o.dst undef) w)
    (done : ∀ listed a w, (∀ i, i < l.length → doneAt listed i) → I listed a w → Q .normal a w) : (Code.region id l.toArray true).wp P Q a w := by
  refine wp_region_any hm ?_
  have hu : undone (Array.replicate l.toArray.size false) ≤ l.toArray.size := by
    unfold undone
    exact Nat.le_trans List.countP_le_length (by simp)
  exact any_inv I step (fun listed a' w' hsz hr hI => done listed a' w' (all_done hsz hfw hr) hI) _ _ a _ (by simp) hu (by simpa using start)

/-- Every operation waits for earlier ones alone. -/
def fwB : Nat → List Oper → Bool
  | _, [] => true
  | k, o :: rest => o.after.all (fun e => decide (e.on < k)) && fwB (k + 1) rest
theorem fwB_get : ∀ (l : List Oper) (k : Nat), fwB k l = true → ∀ (i : Nat) (o : Oper), l[i]? = some o → ∀ e ∈ o.after, e.on < k + i
  | [], _, _, i, o, h => by simp at h
  | x :: l, k, hB, i, o, h => by
    rw [fwB, Bool.and_eq_true] at hB
    intro e he
    cases i with
    | zero =>
      simp at h; subst h
      exact of_decide_eq_true ((Array.all_eq_true_iff_forall_mem.1 hB.1) e he)
    | succ i =>
      have := fwB_get l (k + 1) hB.2 i o (by simpa using h) e he
      omega

def depsF (listed : Array Bool) : List Edge → Prop
  | [] => True
  | e :: es => (Region.binds .any e = true → doneAt listed e.on) ∧ depsF listed es
theorem depsF_of {listed : Array Bool} : ∀ (es : List Edge), (∀ e ∈ es, Region.binds .any e = true → doneAt listed e.on) → depsF listed es
  | [], _ => trivial
  | e :: es, h => ⟨h e (by simp), depsF_of es (fun e' he' => h e' (by simp [he']))⟩

theorem depsF_mem {listed : Array Bool} : ∀ {es : List Edge}, depsF listed es → ∀ e ∈ es, Region.binds .any e = true → doneAt listed e.on
  | [], _, e, he, _ => by simp at he
  | x :: es, h, e, he, hb => by
    rcases List.mem_cons.1 he with rfl | he
    · exact h.1 hb
    · exact depsF_mem h.2 e he hb

/-- One proof for each operation. -/
def stepsF (P : Program) (ops : Array Oper) (Q : Exit → Act → World → Prop) (I : Array Bool → Act → World → Prop) : List Oper → Nat → Prop
  | [], _ => True
  | o :: rest, k => (∀ (listed : Array Bool) (a : Act) (w : World), k < listed.size → ¬ doneAt listed k → depsF listed o.after.toList → I listed a w →
      ∀ K' : Act → World → Prop, Shut (∀ a' w', I (listed.setIfInBounds k true) a' w' → K' a' w') → if Region.wanted o (yielded ops a.tmps) = true then Oper.wp P o a w K' Q else K' (a.put o.dst undef) w) ∧ stepsF P ops Q I rest (k + 1)
theorem stepsF_get {P : Program} {ops : Array Oper} {Q : Exit → Act → World → Prop} {I : Array Bool → Act → World → Prop} : ∀ (l : List Oper) (k : Nat), stepsF P ops Q I l k → ∀ (i : Nat) (o : Oper), l[i]? = some o →
    ∀ (listed : Array Bool) (a : Act) (w : World), k + i < listed.size → ¬ doneAt listed (k + i) → depsF listed o.after.toList → I listed a w →
      ∀ K' : Act → World → Prop, Shut (∀ a' w', I (listed.setIfInBounds (k + i) true) a' w' → K' a' w') → if Region.wanted o (yielded ops a.tmps) = true then Oper.wp P o a w K' Q else K' (a.put o.dst undef) w
  | [], _, _, i, o, h => by simp at h
  | x :: l, k, hS, i, o, h => by
    cases i with
    | zero => simp at h; subst h; exact hS.1
    | succ i =>
      have := stepsF_get l (k + 1) hS.2 i o (by simpa using h)
      rw [show k + 1 + i = k + (i + 1) by omega] at this
      exact this

theorem wp_region_steps {P : Program} {id : Nat} {Q : Exit → Act → World → Prop} {a : Act} {w : World} {l : List Oper} (I : Array Bool → Act → World → Prop) (hm : P.follows .mixedOrders = true)
    (hfw : fwB 0 l = true) (start : I (Array.replicate l.length false) a w.drew) (steps : stepsF P l.toArray Q I l 0)
    (done : ∀ listed a w, (∀ i, i < l.length → doneAt listed i) → I listed a w → Q .normal a w) : (Code.region id l.toArray true).wp P Q a w :=
  wp_region_inv I hm (fun i o ho e he => by have := fwB_get l 0 hfw i o ho e he; omega) start
    (fun i o listed a w ho _ hi hnd hdep hI K' hK => by
      have := stepsF_get l 0 steps i o ho listed a w (by omega) (by rw [Nat.zero_add]; exact hnd) (depsF_of _ (fun e he => hdep e (by simpa using he))) hI K'
      rw [Nat.zero_add] at this
      exact this hK) done
theorem not_done_start (m k : Nat) : ¬ doneAt (Array.replicate m false) k := by
  unfold doneAt
  rw [Array.getD_eq_getD_getElem?, Array.getElem?_replicate]
  split <;> simp

end Go.Proofs.YtjkokbijnaodnaaGreat

namespace Go.Proofs.YtjkokbijnaodnaaGreat
open Go.RowKit

def updA (v : Nat → Value) (d : Nat) (x : Value) : Nat → Value := fun i => if i = d then x else v i
theorem updA_same (v : Nat → Value) (d : Nat) (x : Value) : updA v d x d = x := by simp [updA]
theorem updA_other (v : Nat → Value) {d i : Nat} (x : Value) (h : i ≠ d) : updA v d x i = v i := by simp [updA, h]

/-- A new cell with an area in it, which is (a, b) where it has been laid. -/
def CellA (wx w : World) (v : Value) (laid : Prop) (a b : Int) : Prop := ∃ g, v = .pointer (some ⟨g, 0, none⟩) ∧ wx.heap.size ≤ g ∧ ∃ x y : Int, w.heap[g]? = some (.cells #[.int .i64 x, .int .i64 y] 128 (0, 0)) ∧ (laid → x = a ∧ y = b)
theorem CellA.grown {wx w w' : World} {v : Value} {laid laid' : Prop} {a b : Int} (h : CellA wx w v laid a b) (hg : w.grownBy w' none) (hl : laid' → laid) : CellA wx w' v laid' a b := by
  obtain ⟨g, e, h1, x, y, h2, h3⟩ := h
  exact ⟨g, e, h1, x, y, (hg.block g (Array.getElem?_eq_some_iff.1 h2).1 (by simp)).trans h2, fun q => h3 (hl q)⟩

/-- What holds while the region goes. -/
structure InvA (wx : World) (X : Array Value) (c a b a' b' : Int) (v : Nat → Value) (listed : Array Bool) (w : World) : Prop where
  grown : wx.grownBy w none
  d0 : doneAt listed 0 → v 7 = .agg X
  d1 : doneAt listed 1 → v 8 = .int .i64 c
  d2 : doneAt listed 2 → v 9 = .agg #[.int .i64 a, .int .i64 b]
  d3 : doneAt listed 3 → v 10 = .agg X
  d4 : doneAt listed 4 → v 11 = .agg #[.int .i64 a', .int .i64 b']
  d5 : doneAt listed 5 → CellA wx w (v 5) (doneAt listed 7) a b
  d6 : doneAt listed 6 → CellA wx w (v 6) (doneAt listed 8) a' b'
  ne : doneAt listed 5 → doneAt listed 6 → v 5 ≠ v 6
  o7 : doneAt listed 7 → doneAt listed 5
  o8 : doneAt listed 8 → doneAt listed 6

section
variable {wx w w' : World} {X : Array Value} {c a b a' b' : Int} {v : Nat → Value} {listed : Array Bool} {k : Nat}

def yieldA (X : Array Value) (c a b a' b' : Int) (x : Value) : Nat → Prop
  | 0 => x = .agg X
  | 1 => x = .int .i64 c
  | 2 => x = .agg #[.int .i64 a, .int .i64 b]
  | 3 => x = .agg X
  | 4 => x = .agg #[.int .i64 a', .int .i64 b']
  | _ => False

theorem InvA.step (h : InvA wx X c a b a' b' v listed w) (hi : k < listed.size) (hg : w.grownBy w' none) {x : Value} (hx : yieldA X c a b a' b' x k) : InvA wx X c a b a' b' (updA v (k + 7) x) (listed.setIfInBounds k true) w' := by
  have hk : k ≤ 4 := by
    by_cases h : k ≤ 4
    · exact h
    · exfalso
      have : 5 ≤ k := by omega
      match k, this, hx with
      | k + 5, _, hx => exact hx
  have dn : ∀ j, doneAt (listed.setIfInBounds k true) j → j = k ∨ doneAt listed j := fun j h => (doneAt_set hi).1 h
  have one : ∀ (j : Nat) (P : Value → Prop), (j = k → P x) → (doneAt listed j → P (v (j + 7))) → doneAt (listed.setIfInBounds k true) j → P (updA v (k + 7) x (j + 7)) := by
    intro j P h1 h2 h3
    by_cases e : j = k
    · subst e; rw [updA_same]; exact h1 rfl
    · rw [updA_other v x (by omega)]
      rcases dn j h3 with h | h
      · exact absurd h e
      · exact h2 h
  have far : ∀ j, 5 ≤ j → doneAt (listed.setIfInBounds k true) j → doneAt listed j := fun j hj h3 => by
    rcases dn j h3 with h | h
    · omega
    · exact h
  refine ⟨grown_trans h.grown hg, one 0 (fun u => u = .agg X) (fun e => by rw [← e] at hx; exact hx) h.d0, one 1 (fun u => u = .int .i64 c) (fun e => by rw [← e] at hx; exact hx) h.d1, one 2 (fun u => u = .agg #[.int .i64 a, .int .i64 b]) (fun e => by rw [← e] at hx; exact hx) h.d2, one 3 (fun u => u = .agg X) (fun e => by rw [← e] at hx; exact hx) h.d3, one 4 (fun u => u = .agg #[.int .i64 a', .int .i64 b']) (fun e => by rw [← e] at hx; exact hx) h.d4, fun q => ?_, fun q => ?_, fun q q' => ?_, fun q => (doneAt_set hi).2 (.inr (h.o7 (far 7 (by omega) q))), fun q => (doneAt_set hi).2 (.inr (h.o8 (far 8 (by omega) q)))⟩
  · rw [updA_other v x (by omega)]; exact (h.d5 (far 5 (by omega) q)).grown hg (far 7 (by omega))
  · rw [updA_other v x (by omega)]; exact (h.d6 (far 6 (by omega) q)).grown hg (far 8 (by omega))
  · rw [updA_other v x (by omega), updA_other v x (by omega)]; exact h.ne (far 5 (by omega) q) (far 6 (by omega) q')

theorem CellA.lt {laid : Prop} {u : Value} (h : CellA wx w u laid a b) : ∃ g, u = .pointer (some ⟨g, 0, none⟩) ∧ g < w.heap.size := by
  obtain ⟨g, e, _, x, y, h2, _⟩ := h
  exact ⟨g, e, (Array.getElem?_eq_some_iff.1 h2).1⟩

theorem InvA.alloc (h : InvA wx X c a b a' b' v listed w) (hi : k < listed.size) (hk : k = 5 ∨ k = 6) (hnd : ¬ doneAt listed k) :
    InvA wx X c a b a' b' (updA v k (.pointer (some ⟨w.heap.size, 0, none⟩))) (listed.setIfInBounds k true) (w.alloc (.cells #[.int .i64 0, .int .i64 0] 128)) := by
  have dn : ∀ j, j ≠ k → doneAt (listed.setIfInBounds k true) j → doneAt listed j := fun j hj h => by
    rcases (doneAt_set hi).1 h with h | h
    · exact absurd h hj
    · exact h
  have hg : w.grownBy (w.alloc (.cells #[.int .i64 0, .int .i64 0] 128)) none := World.grownBy_alloc _ _ none
  have new : ∀ (laid : Prop) (a b : Int), ¬ laid → CellA wx (w.alloc (.cells #[.int .i64 0, .int .i64 0] 128)) (.pointer (some ⟨w.heap.size, 0, none⟩)) laid a b := fun laid a b hl => ⟨w.heap.size, rfl, h.grown.size, 0, 0, heap_alloc_new _ _, fun q => absurd q hl⟩
  have o7 : doneAt (listed.setIfInBounds k true) 7 → doneAt (listed.setIfInBounds k true) 5 := fun q => (doneAt_set hi).2 (.inr (h.o7 (dn 7 (by omega) q)))
  have o8 : doneAt (listed.setIfInBounds k true) 8 → doneAt (listed.setIfInBounds k true) 6 := fun q => (doneAt_set hi).2 (.inr (h.o8 (dn 8 (by omega) q)))
  have h7 : ¬ doneAt listed (k + 2) := by
    rcases hk with rfl | rfl
    · exact fun q => hnd (h.o7 q)
    · exact fun q => hnd (h.o8 q)
  rcases hk with rfl | rfl
  · refine ⟨grown_trans h.grown hg, fun q => ?_, fun q => ?_, fun q => ?_, fun q => ?_, fun q => ?_, fun q => ?_, fun q => ?_, fun q q' => ?_, o7, o8⟩
    · rw [updA_other v _ (by omega)]; exact h.d0 (dn 0 (by omega) q)
    · rw [updA_other v _ (by omega)]; exact h.d1 (dn 1 (by omega) q)
    · rw [updA_other v _ (by omega)]; exact h.d2 (dn 2 (by omega) q)
    · rw [updA_other v _ (by omega)]; exact h.d3 (dn 3 (by omega) q)
    · rw [updA_other v _ (by omega)]; exact h.d4 (dn 4 (by omega) q)
    · rw [updA_same]; exact new _ _ _ (fun q => h7 (dn 7 (by omega) q))
    · rw [updA_other v _ (by omega)]; exact (h.d6 (dn 6 (by omega) q)).grown hg (dn 8 (by omega))
    · rw [updA_same, updA_other v _ (by omega)]
      obtain ⟨g, e, hlt⟩ := (h.d6 (dn 6 (by omega) q')).lt
      rw [e]; intro e'; simp at e'; first | done | omega
  · refine ⟨grown_trans h.grown hg, fun q => ?_, fun q => ?_, fun q => ?_, fun q => ?_, fun q => ?_, fun q => ?_, fun q => ?_, fun q q' => ?_, o7, o8⟩
    · rw [updA_other v _ (by omega)]; exact h.d0 (dn 0 (by omega) q)
    · rw [updA_other v _ (by omega)]; exact h.d1 (dn 1 (by omega) q)
    · rw [updA_other v _ (by omega)]; exact h.d2 (dn 2 (by omega) q)
    · rw [updA_other v _ (by omega)]; exact h.d3 (dn 3 (by omega) q)
    · rw [updA_other v _ (by omega)]; exact h.d4 (dn 4 (by omega) q)
    · rw [updA_other v _ (by omega)]; exact (h.d5 (dn 5 (by omega) q)).grown hg (dn 7 (by omega))
    · rw [updA_same]; exact new _ _ _ (fun q => h7 (dn 8 (by omega) q))
    · rw [updA_same, updA_other v _ (by omega)]
      obtain ⟨g, e, hlt⟩ := (h.d5 (dn 5 (by omega) q)).lt
      rw [e]; intro e'; simp at e'; first | done | omega

/-- Both cells of an area are written. -/
def putA (w : World) (g : Nat) (x y : Int) : World := (w.setCell ⟨g, 0, none⟩ (.int .i64 x)).setCell ⟨g, 1, none⟩ (.int .i64 y)
theorem putA_grown (w : World) (g : Nat) (x y : Int) : w.grownBy (putA w g x y) (some g) := grown_trans (grown_set _ _ _ _) (grown_set _ _ _ _)
theorem putA_at {g : Nat} {p q : Value} {t : TypeId} (x y : Int) (h : w.heap[g]? = some (.cells #[p, q] t (0, 0))) : (putA w g x y).heap[g]? = some (.cells #[.int .i64 x, .int .i64 y] t (0, 0)) :=
  heap_setCell_same _ _ 1 _ _ _ (heap_setCell_same _ _ 0 _ _ _ h)

theorem CellA.beside {u : Value} {laid laid' : Prop} {g : Nat} {x y : Int} (h : CellA wx w u laid a b) (hne : u ≠ .pointer (some ⟨g, 0, none⟩)) (hl : laid' → laid) : CellA wx (putA w g x y) u laid' a b := by
  obtain ⟨g', e, h1, p, q, h2, h3⟩ := h
  exact ⟨g', e, h1, p, q, ((putA_grown w g x y).block g' (Array.getElem?_eq_some_iff.1 h2).1 (by simp; intro e'; exact hne (by rw [e, e']))).trans h2, fun r => h3 (hl r)⟩

theorem InvA.store5 (h : InvA wx X c a b a' b' v listed w) (hi : 7 < listed.size) {g : Nat} (e : v 5 = .pointer (some ⟨g, 0, none⟩)) (h5 : doneAt listed 5) : InvA wx X c a b a' b' v (listed.setIfInBounds 7 true) (putA w g a b) := by
  have dn : ∀ j, j ≠ 7 → doneAt (listed.setIfInBounds 7 true) j → doneAt listed j := fun j hj h => by
    rcases (doneAt_set hi).1 h with h | h
    · exact absurd h hj
    · exact h
  obtain ⟨g', e', h1, p, q, h2, _⟩ := h.d5 h5
  obtain rfl : g = g' := by rw [e] at e'; simpa using e'
  refine ⟨grown_new h.grown (putA_grown w g a b) (fun g' e' => by simp at e'; omega), fun q => h.d0 (dn 0 (by omega) q), fun q => h.d1 (dn 1 (by omega) q), fun q => h.d2 (dn 2 (by omega) q), fun q => h.d3 (dn 3 (by omega) q), fun q => h.d4 (dn 4 (by omega) q),
    fun _ => ⟨g, e, h1, a, b, putA_at a b h2, fun _ => ⟨rfl, rfl⟩⟩, fun q => (h.d6 (dn 6 (by omega) q)).beside (fun e' => h.ne h5 (dn 6 (by omega) q) (by rw [e, e'])) (dn 8 (by omega)), fun q q' => h.ne (dn 5 (by omega) q) (dn 6 (by omega) q'), fun _ => (doneAt_set hi).2 (.inr h5), fun q => (doneAt_set hi).2 (.inr (h.o8 (dn 8 (by omega) q)))⟩

theorem InvA.store6 (h : InvA wx X c a b a' b' v listed w) (hi : 8 < listed.size) {g : Nat} (e : v 6 = .pointer (some ⟨g, 0, none⟩)) (h6 : doneAt listed 6) : InvA wx X c a b a' b' v (listed.setIfInBounds 8 true) (putA w g a' b') := by
  have dn : ∀ j, j ≠ 8 → doneAt (listed.setIfInBounds 8 true) j → doneAt listed j := fun j hj h => by
    rcases (doneAt_set hi).1 h with h | h
    · exact absurd h hj
    · exact h
  obtain ⟨g', e', h1, p, q, h2, _⟩ := h.d6 h6
  obtain rfl : g = g' := by rw [e] at e'; simpa using e'
  refine ⟨grown_new h.grown (putA_grown w g a' b') (fun g' e' => by simp at e'; omega), fun q => h.d0 (dn 0 (by omega) q), fun q => h.d1 (dn 1 (by omega) q), fun q => h.d2 (dn 2 (by omega) q), fun q => h.d3 (dn 3 (by omega) q), fun q => h.d4 (dn 4 (by omega) q),
    fun q => (h.d5 (dn 5 (by omega) q)).beside (fun e' => h.ne (dn 5 (by omega) q) h6 (by rw [e, e'])) (dn 7 (by omega)), fun _ => ⟨g, e, h1, a', b', putA_at a' b' h2, fun _ => ⟨rfl, rfl⟩⟩, fun q q' => h.ne (dn 5 (by omega) q) (dn 6 (by omega) q'), fun q => (doneAt_set hi).2 (.inr (h.o7 (dn 7 (by omega) q))), fun _ => (doneAt_set hi).2 (.inr h6)⟩
end

end Go.Proofs.YtjkokbijnaodnaaGreat

namespace Go.Proofs.YtjkokbijnaodnaaGreat
open Go.RowKit

def actP (X : Array Value) (c : Int) (rx : Nat) (v : Nat → Value) : Act := { tmps := #[.agg X, .int .i64 c, .pointer (some ⟨rx, 0, none⟩), undef, .pointer (some ⟨rx + 1, 0, none⟩), v 5, v 6, v 7, v 8, v 9, v 10, v 11, undef, undef, undef, undef, undef, undef, undef, undef, undef, undef, undef, undef, undef, undef, undef, undef, undef], defers := [] }

set_option maxRecDepth 20000 in
set_option maxHeartbeats 3200000 in
theorem plane (X : Array Value) (p wd ht rs : Int) (n : Nat) (C : Nat → Nat → Int) (hX : Fx X p wd ht rs n C) (mh mv : Int) (hg : Geo wd ht n C mh mv) (c : Nat) (hc : c < n) (u v : Int) (HU : Hid (upI (wd * C c 1) mh = u)) (HV : Hid (upI (ht * C c 2) mv = v)) (w : World) :
    Calls Tryz.prog 117 #[.agg X, .int .i64 c] w fun e w' => e = .returned (.agg #[.int .i64 u, .int .i64 v]) ∧ w.grownBy w' none := by
  have hs := hX.size
  have hn4 := hg.n4
  have F1 := hide (fun w => shares X p wd ht rs n C hX c (by omega) w)
  have F2 := hide (fun w => most X p wd ht rs n C hX hg.n4 mh mv hg.h0 hg.v0 w)
  have HX1 := hX.c1
  have HX2 := hX.c2
  obtain ⟨h1, h2⟩ : (1 ≤ C c 1 ∧ C c 1 ≤ 4) ∧ (1 ≤ C c 2 ∧ C c 2 ≤ 4) := ⟨hg.ch c hc, hg.cv c hc⟩
  have hmh := hg.hb
  have hmv := hg.vb
  have hwd := hg.wd
  have hht := hg.ht
  have P1 := mul_share (a := wd) ⟨hwd.1, by omega⟩ h1
  have P2 := mul_share (a := ht) ⟨hht.1, by omega⟩ h2
  obtain ⟨wx, hW0⟩ : ∃ wx, ((w.alloc (.cells X 83)).alloc (.cells #[.int .i64 0, .int .i64 0] 128)) = wx := ⟨_, rfl⟩
  have G0 : w.grownBy wx none := by rw [← hW0]; exact grown_alloc (grown_alloc (World.grownBy.refl _ _) _) _
  have b0 : wx.heap[w.heap.size]? = some (.cells X 83 (0, 0)) := by
    rw [← hW0, Below.heap_alloc _ _ _ (by simp)]
    exact heap_alloc_new w _
  have b1 : wx.heap[w.heap.size + 1]? = some (.cells #[.int .i64 0, .int .i64 0] 128 (0, 0)) := by
    rw [← hW0]
    have := heap_alloc_new (w.alloc (.cells X 83)) (.cells #[.int .i64 0, .int .i64 0] 128)
    simpa using this
  have hsz : wx.heap.size = w.heap.size + 2 := by rw [← hW0]; simp
  have HW := hide hW0
  have B0 := hide b0
  have B1 := hide b1
  have HG0 := hide G0
  clear hW0 b0 b1 G0
  clear hX hg
  go_enter Tryz.func117, Tryz.ntmps117
  go_wp2
  rw [unhide HW]
  clear HW
  generalize C c 1 = c1 at *
  generalize C c 2 = c2 at *
  have hw1 := i64_in (wd * c1) (by omega)
  have hw2 := i64_in (ht * c2) (by omega)
  refine wp_region_steps (fun listed a w' => ∃ v, a = actP X c w.heap.size v ∧ InvA wx X c c1 c2 mh mv v listed w') (by kernel_rfl) (by kernel_rfl) ?start ?steps ?done

  case start =>
    exact ⟨fun _ => undef, rfl, grown_drew (World.grownBy.refl _ _), fun h => absurd h (not_done_start _ _), fun h => absurd h (not_done_start _ _), fun h => absurd h (not_done_start _ _), fun h => absurd h (not_done_start _ _), fun h => absurd h (not_done_start _ _), fun h => absurd h (not_done_start _ _), fun h => absurd h (not_done_start _ _), fun h => absurd h (not_done_start _ _), fun h => absurd h (not_done_start _ _), fun h => absurd h (not_done_start _ _)⟩
  case steps =>
    have xB : ∀ w1, wx.grownBy w1 none → w1.heap[w.heap.size]? = some (.cells X 83 (0, 0)) := fun w1 g => (g.block w.heap.size (by omega) (by simp)).trans (unhide B0)
    refine ⟨?_, ?_⟩
    · rintro listed a w1 hi hnd hd ⟨v, rfl, hJ⟩ K hK
      unfold actP
      rw [if_pos (by rfl)]
      refine wp_load_mid 83 _ rfl w.heap.size 0 rfl X.toList _ (fun j u hu => by rw [cell_of_row w1 w.heap.size (0 + j) X _ (0, 0) (xB w1 hJ.grown)]; simpa using hu) Tryz.underlying83 rfl (by simp only [Array.length_toList]; rw [hs]; kernel_rfl) ?_
      exact hK.out _ _ ⟨_, rfl, hJ.step hi (World.grownBy.refl _ none) (x := .agg X) rfl⟩
    refine ⟨?_, ?_⟩
    · rintro listed a w1 hi hnd hd ⟨v, rfl, hJ⟩ K hK
      unfold actP
      go_simp
      exact hK.out _ _ ⟨_, rfl, hJ.step hi (World.grownBy.refl _ none) (x := .int .i64 c) rfl⟩
    refine ⟨?_, ?_⟩
    · rintro listed a w1 hi hnd hd ⟨v, rfl, hJ⟩ K hK
      have hd' : depsF listed [{ on := 0, ground := .data }, { on := 1, ground := .data }] := hd
      simp only [depsF, and_true] at hd'
      have e7 := hJ.d0 (hd'.1 (by rfl))
      have e8 := hJ.d1 (hd'.2 (by rfl))
      unfold actP
      rw [e7, e8]
      go_simp
      refine (unhide F1 w1).mono ?_
      rintro e w2 ⟨rfl, g2⟩
      exact hK.out _ _ ⟨updA v 9 _, (by simp [actP, updA, e7, e8]), hJ.step hi g2 rfl⟩
    refine ⟨?_, ?_⟩
    · rintro listed a w1 hi hnd hd ⟨v, rfl, hJ⟩ K hK
      unfold actP
      rw [if_pos (by rfl)]
      refine wp_load_mid 83 _ rfl w.heap.size 0 rfl X.toList _ (fun j u hu => by rw [cell_of_row w1 w.heap.size (0 + j) X _ (0, 0) (xB w1 hJ.grown)]; simpa using hu) Tryz.underlying83 rfl (by simp only [Array.length_toList]; rw [hs]; kernel_rfl) ?_
      exact hK.out _ _ ⟨_, rfl, hJ.step hi (World.grownBy.refl _ none) (x := .agg X) rfl⟩
    refine ⟨?_, ?_⟩
    · rintro listed a w1 hi hnd hd ⟨v, rfl, hJ⟩ K hK
      have hd' : depsF listed [{ on := 3, ground := .data }, { on := 2, ground := .chain }] := hd
      simp only [depsF, and_true] at hd'
      have e10 := hJ.d3 (hd'.1 (by rfl))
      unfold actP
      rw [e10]
      go_simp
      refine (unhide F2 w1).mono ?_
      rintro e w2 ⟨rfl, g2⟩
      exact hK.out _ _ ⟨updA v 11 _, (by simp [actP, updA, e10]), hJ.step hi g2 rfl⟩
    refine ⟨?_, ?_⟩
    · rintro listed a w1 hi hnd hd ⟨v, rfl, hJ⟩ K hK
      unfold actP
      go_simp
      exact hK.out _ _ ⟨_, rfl, hJ.alloc hi (.inl rfl) hnd⟩
    refine ⟨?_, ?_⟩
    · rintro listed a w1 hi hnd hd ⟨v, rfl, hJ⟩ K hK
      unfold actP
      go_simp
      exact hK.out _ _ ⟨_, rfl, hJ.alloc hi (.inr rfl) hnd⟩
    refine ⟨?_, ?_⟩
    · rintro listed a w1 hi hnd hd ⟨v, rfl, hJ⟩ K hK
      have d5 := depsF_mem hd { on := 5, ground := .data } (by simp) rfl
      have e9 := hJ.d2 (depsF_mem hd { on := 2, ground := .data } (by simp) rfl)
      obtain ⟨g, e5, hge, x, y, hb, _⟩ := hJ.d5 d5
      have cf := areaCells hb
      unfold actP
      rw [e5, e9]
      go_simp
      exact hK.out _ _ ⟨v, (by simp [actP, e5, e9]), hJ.store5 hi e5 d5⟩
    refine ⟨?_, trivial⟩
    · rintro listed a w1 hi hnd hd ⟨v, rfl, hJ⟩ K hK
      have d6 := depsF_mem hd { on := 6, ground := .data } (by simp) rfl
      have e11 := hJ.d4 (depsF_mem hd { on := 4, ground := .data } (by simp) rfl)
      obtain ⟨g, e6, hge, x, y, hb, _⟩ := hJ.d6 d6
      have cf := areaCells hb
      unfold actP
      rw [e6, e11]
      go_simp
      exact hK.out _ _ ⟨v, (by simp [actP, e6, e11]), hJ.store6 hi e6 d6⟩
  case done =>
    rintro listed a w1 hall ⟨v, rfl, hJ⟩
    obtain ⟨g5, e5, hge5, x5, y5, hb5, l5⟩ := hJ.d5 (hall 5 (by decide))
    obtain ⟨g6, e6, hge6, x6, y6, hb6, l6⟩ := hJ.d6 (hall 6 (by decide))
    obtain ⟨rfl, rfl⟩ := l5 (hall 7 (by decide))
    obtain ⟨rfl, rfl⟩ := l6 (hall 8 (by decide))
    have hB := (hJ.grown.block w.heap.size (by omega) (by simp)).trans (unhide B0)
    have hR := (hJ.grown.block (w.heap.size + 1) (by omega) (by simp)).trans (unhide B1)
    have gJ := hJ.grown
    have hne : g5 ≠ g6 := fun e => hJ.ne (hall 5 (by decide)) (hall 6 (by decide)) (by rw [e5, e6, e])
    unfold actP
    rw [e5, e6]
    clear hall hJ l5 l6 e5 e6
    generalize v 7 = v7
    generalize v 8 = v8
    generalize v 9 = v9
    generalize v 10 = v10
    generalize v 11 = v11
    clear v

    have cx1 : w1.cell? ⟨w.heap.size, 1, none⟩ = some (.int .i64 wd) := by rw [cell_of_row w1 _ 1 _ _ (0, 0) hB]; exact HX1
    have cx2 : w1.cell? ⟨w.heap.size, 2, none⟩ = some (.int .i64 ht) := by rw [cell_of_row w1 _ 2 _ _ (0, 0) hB]; exact HX2
    obtain ⟨c50, c51, _, _⟩ := areaCells hb5
    obtain ⟨c60, c61, _, _⟩ := areaCells hb6
    obtain ⟨cr0, cr1, f0, f1⟩ := areaCells hR
    clear hb5 hb6 hB F1 F2
    have KEEP : Hid (∀ u v, (putA w1 (w.heap.size + 1) u v).cell? ⟨w.heap.size, 1, none⟩ = some (.int .i64 wd) ∧ (putA w1 (w.heap.size + 1) u v).cell? ⟨w.heap.size, 2, none⟩ = some (.int .i64 ht) ∧ (putA w1 (w.heap.size + 1) u v).cell? ⟨g5, 0, none⟩ = some (.int .i64 x5) ∧ (putA w1 (w.heap.size + 1) u v).cell? ⟨g5, 1, none⟩ = some (.int .i64 y5) ∧ (putA w1 (w.heap.size + 1) u v).cell? ⟨g6, 0, none⟩ = some (.int .i64 x6) ∧ (putA w1 (w.heap.size + 1) u v).cell? ⟨g6, 1, none⟩ = some (.int .i64 y6)) := fun u v => ⟨(putA_grown _ _ _ _).cell cx1 (by simp), (putA_grown _ _ _ _).cell cx2 (by simp), (putA_grown _ _ _ _).cell c50 (by simp; omega), (putA_grown _ _ _ _).cell c51 (by simp; omega), (putA_grown _ _ _ _).cell c60 (by simp; omega), (putA_grown _ _ _ _).cell c61 (by simp; omega)⟩
    go_wp2
    go_region_held3 (fun w' => w'.cell? ⟨w.heap.size, 1, none⟩ = some (.int .i64 wd) ∧ w'.cell? ⟨w.heap.size, 2, none⟩ = some (.int .i64 ht) ∧ w'.cell? ⟨g5, 0, none⟩ = some (.int .i64 x5) ∧ w'.cell? ⟨g5, 1, none⟩ = some (.int .i64 y5) ∧ w'.cell? ⟨g6, 0, none⟩ = some (.int .i64 x6) ∧ w'.cell? ⟨g6, 1, none⟩ = some (.int .i64 y6)) (first | exact ⟨cx1, cx2, c50, c51, c60, c61⟩ | exact unhide KEEP _ _) (first | (go_at_call_of 116 (Value.int .i64 (wd * x5)); refine (divUp _ _ u (by omega) (by omega) HU _).mono ?_; rintro e w2 ⟨rfl, rfl⟩) | (go_at_call_of 116 (Value.int .i64 (ht * y5)); refine (divUp _ _ v (by omega) (by omega) HV _).mono ?_; rintro e w2 ⟨rfl, rfl⟩))
    go_wp2
    refine bodyPost_ret (v := .agg #[.int .i64 u, .int .i64 v]) (by simp [results, Tryz.results117, go_sem, cr0, cr1]) rfl ⟨rfl, ?_⟩
    exact grown_drew (grown_setNew (grown_setNew (grown_trans (unhide HG0) gJ) _ _ _ (by omega)) _ _ _ (by omega))

/-- Two numbers rounded up, laid into the answer. -/
theorem unitsOf_bounds {a m : Int} (ha : 1 ≤ a ∧ a ≤ 256) (hm : 1 ≤ m ∧ m ≤ 4) : 1 ≤ upI a (8 * m) ∧ upI a (8 * m) ≤ a := upI_pos ha.1 (by omega)

set_option maxRecDepth 20000 in
set_option maxHeartbeats 3200000 in
theorem units (X : Array Value) (p wd ht rs : Int) (n : Nat) (C : Nat → Nat → Int) (hX : Fx X p wd ht rs n C) (mh mv : Int) (hg : Geo wd ht n C mh mv) (u v : Int) (HU : Hid (upI wd (8 * mh) = u)) (HV : Hid (upI ht (8 * mv) = v)) (w : World) :
    Calls Tryz.prog 109 #[.agg X] w fun e w' => e = .returned (.agg #[.int .i64 u, .int .i64 v]) ∧ w.grownBy w' none := by
  have hs := hX.size
  have F2 := hide (fun w => most X p wd ht rs n C hX hg.n4 mh mv hg.h0 hg.v0 w)
  have HX1 := hX.c1
  have HX2 := hX.c2
  have hmh := hg.hb
  have hmv := hg.vb
  have hwd := hg.wd
  have hht := hg.ht
  obtain ⟨wx, hW0⟩ : ∃ wx, ((w.alloc (.cells X 83)).alloc (.cells #[.int .i64 0, .int .i64 0] 128)) = wx := ⟨_, rfl⟩
  have G0 : w.grownBy wx none := by rw [← hW0]; exact grown_alloc (grown_alloc (World.grownBy.refl _ _) _) _
  have b0 : wx.heap[w.heap.size]? = some (.cells X 83 (0, 0)) := by
    rw [← hW0, Below.heap_alloc _ _ _ (by simp)]
    exact heap_alloc_new w _
  have b1 : wx.heap[w.heap.size + 1]? = some (.cells #[.int .i64 0, .int .i64 0] 128 (0, 0)) := by
    rw [← hW0]
    have := heap_alloc_new (w.alloc (.cells X 83)) (.cells #[.int .i64 0, .int .i64 0] 128)
    simpa using this
  have hsz : wx.heap.size = w.heap.size + 2 := by rw [← hW0]; simp
  have HW := hide hW0
  have B0 := hide b0
  have B1 := hide b1
  have HG0 := hide G0
  clear hW0 b0 b1 G0
  clear hX hg
  have hw1 := i64_in (8 * mh) (by omega)
  have hw2 := i64_in (8 * mv) (by omega)
  have bB := unhide B0
  go_enter Tryz.func109, Tryz.ntmps109
  go_wp2_with (first | (rw [unhide HW]; refine wpList_load_row rfl 83 _ rfl w.heap.size rfl X 83 bB _ Tryz.underlying83 rfl (by rw [hs]; kernel_rfl) ?_))
  refine (unhide F2 wx).mono ?_
  rintro e w1 ⟨rfl, g1⟩
  obtain ⟨W2, hW2⟩ : ∃ W2, w1.alloc (.cells #[.int .i64 mh, .int .i64 mv] 128) = W2 := ⟨_, rfl⟩
  have g2 : wx.grownBy W2 none := by rw [← hW2]; exact grown_alloc g1 _
  have hb6 : W2.heap[w1.heap.size]? = some (.cells #[.int .i64 mh, .int .i64 mv] 128 (0, 0)) := by rw [← hW2]; exact heap_alloc_new _ _
  have hs1 := g1.size
  have hB := (g2.block w.heap.size (by omega) (by simp)).trans (unhide B0)
  have hR := (g2.block (w.heap.size + 1) (by omega) (by simp)).trans (unhide B1)
  have cx1 : W2.cell? ⟨w.heap.size, 1, none⟩ = some (.int .i64 wd) := by rw [cell_of_row W2 _ 1 _ _ (0, 0) hB]; exact HX1
  have cx2 : W2.cell? ⟨w.heap.size, 2, none⟩ = some (.int .i64 ht) := by rw [cell_of_row W2 _ 2 _ _ (0, 0) hB]; exact HX2
  obtain ⟨c60, c61, _, _⟩ := areaCells hb6
  obtain ⟨cr0, cr1, f0, f1⟩ := areaCells hR
  have KEEP : Hid (∀ u v, (putA W2 (w.heap.size + 1) u v).cell? ⟨w.heap.size, 1, none⟩ = some (.int .i64 wd) ∧ (putA W2 (w.heap.size + 1) u v).cell? ⟨w.heap.size, 2, none⟩ = some (.int .i64 ht) ∧ (putA W2 (w.heap.size + 1) u v).cell? ⟨w1.heap.size, 0, none⟩ = some (.int .i64 mh) ∧ (putA W2 (w.heap.size + 1) u v).cell? ⟨w1.heap.size, 1, none⟩ = some (.int .i64 mv)) := fun u v => ⟨(putA_grown _ _ _ _).cell cx1 (by simp), (putA_grown _ _ _ _).cell cx2 (by simp), (putA_grown _ _ _ _).cell c60 (by simp; omega), (putA_grown _ _ _ _).cell c61 (by simp; omega)⟩
  have HW2 := hide hW2
  clear hW2 hb6 hB F2 hR
  go_wp2
  rw [unhide HW2]
  clear HW2
  go_region_held3 (fun w' => w'.cell? ⟨w.heap.size, 1, none⟩ = some (.int .i64 wd) ∧ w'.cell? ⟨w.heap.size, 2, none⟩ = some (.int .i64 ht) ∧ w'.cell? ⟨w1.heap.size, 0, none⟩ = some (.int .i64 mh) ∧ w'.cell? ⟨w1.heap.size, 1, none⟩ = some (.int .i64 mv)) (first | exact ⟨cx1, cx2, c60, c61⟩ | exact unhide KEEP _ _) (first | (go_at_call_of 116 (Value.int .i64 wd); refine (divUp _ _ u (by omega) (by omega) HU _).mono ?_; rintro e w2 ⟨rfl, rfl⟩) | (go_at_call_of 116 (Value.int .i64 ht); refine (divUp _ _ v (by omega) (by omega) HV _).mono ?_; rintro e w2 ⟨rfl, rfl⟩))
  go_wp2
  refine bodyPost_ret (v := .agg #[.int .i64 u, .int .i64 v]) (by simp [results, Tryz.results109, go_sem, cr0, cr1]) rfl ⟨rfl, ?_⟩
  exact grown_drew (grown_setNew (grown_setNew (grown_trans (unhide HG0) g2) _ _ _ (by omega)) _ _ _ (by omega))

end Go.Proofs.YtjkokbijnaodnaaGreat

namespace Go.Proofs.YtjkokbijnaodnaaGreat
open Go.RowKit

theorem hasComp (X : Array Value) (p wd ht rs : Int) (n : Nat) (C : Nat → Nat → Int) (hX : Fx X p wd ht rs n C) (hn : n ≤ 4) (c : Int) (t : Bool) (HT : Hid (decide (0 ≤ c ∧ c ≤ (n : Int) - 1) = t)) (w : World) :
    Calls Tryz.prog 112 #[.agg X, .int .i64 c] w fun e w' => e = .returned (.bool t) ∧ w.grownBy w' none := by
  have hs := hX.size
  have h4 := hX.c4
  have h4' : X[4] = .int .i64 n := by rw [Array.getElem?_eq_getElem (by omega)] at h4; simpa using h4
  have hw := i64_in ((n : Int) - 1) (by omega)
  clear h4 hX
  go_enter Tryz.func112, Tryz.ntmps112
  go_wp2_with fail
  refine (inRange c 0 ((n : Int) - 1) t HT _).mono ?_
  rintro e w1 ⟨rfl, rfl⟩
  go_wp2
  go_ret
  exact ⟨rfl, grown_alloc (World.grownBy.refl _ _) _⟩

theorem hasComp_none (c : Int) (w : World) :
    Calls Tryz.prog 112 #[.agg #[.int .i64 0, .int .i64 0, .int .i64 0, .int .i64 0, .int .i64 0, .int .i64 0, .int .i64 0, .int .i64 0, .int .i64 0, .int .i64 0, .int .i64 0, .int .i64 0, .int .i64 0, .int .i64 0, .int .i64 0, .int .i64 0, .int .i64 0, .int .i64 0, .int .i64 0, .int .i64 0, .int .i64 0], .int .i64 c] w fun e w' => e = .returned (.bool false) ∧ w.grownBy w' none := by
  have HT : Hid (decide (0 ≤ c ∧ c ≤ (-1 : Int)) = false) := decide_eq_false (by omega)
  go_enter Tryz.func112, Tryz.ntmps112
  go_wp2_with fail
  refine (inRange c 0 (-1) false HT _).mono ?_
  rintro e w1 ⟨rfl, rfl⟩
  go_wp2
  go_ret
  exact ⟨rfl, grown_alloc (World.grownBy.refl _ _) _⟩

end Go.Proofs.YtjkokbijnaodnaaGreat

namespace Go.Proofs.YtjkokbijnaodnaaGreat
open Go.RowKit

def actB (X : Array Value) (c : Int) (rx : Nat) (v : Nat → Value) : Act := { tmps := #[.agg X, .int .i64 c, .pointer (some ⟨rx, 0, none⟩), undef, .pointer (some ⟨rx + 1, 0, none⟩), v 5, v 6, v 7, v 8, v 9, v 10, v 11, undef, undef, undef, undef, undef, undef, undef, undef, undef, undef, undef], defers := [] }

set_option maxRecDepth 20000 in
set_option maxHeartbeats 3200000 in
theorem needed (X : Array Value) (p wd ht rs : Int) (n : Nat) (C : Nat → Nat → Int) (hX : Fx X p wd ht rs n C) (mh mv : Int) (hg : Geo wd ht n C mh mv) (c : Nat) (hc : c < n) (a b u v : Int) (HA : Hid (upI (wd * C c 1) mh = a)) (HB : Hid (upI (ht * C c 2) mv = b)) (HU : Hid (upI a 8 = u)) (HV : Hid (upI b 8 = v)) (w : World) :
    Calls Tryz.prog 113 #[.agg X, .int .i64 c] w fun e w' => e = .returned (.agg #[.int .i64 u, .int .i64 v]) ∧ w.grownBy w' none := by
  have hs := hX.size
  have F2 := hide (fun w => plane X p wd ht rs n C hX mh mv hg c hc a b HA HB w)
  have ha : 1 ≤ a ∧ a ≤ 4096 := by
    have P1 := mul_share (a := wd) ⟨hg.wd.1, by have := hg.wd; omega⟩ (hg.ch c hc)
    have := upI_pos P1.1 hg.hb.1
    rw [unhide HA] at this; omega
  have hb : 1 ≤ b ∧ b ≤ 4096 := by
    have P1 := mul_share (a := ht) ⟨hg.ht.1, by have := hg.ht; omega⟩ (hg.cv c hc)
    have := upI_pos P1.1 hg.vb.1
    rw [unhide HB] at this; omega
  obtain ⟨wx, hW0⟩ : ∃ wx, ((w.alloc (.cells X 83)).alloc (.cells #[.int .i64 0, .int .i64 0] 128)) = wx := ⟨_, rfl⟩
  have G0 : w.grownBy wx none := by rw [← hW0]; exact grown_alloc (grown_alloc (World.grownBy.refl _ _) _) _
  have b0 : wx.heap[w.heap.size]? = some (.cells X 83 (0, 0)) := by
    rw [← hW0, Below.heap_alloc _ _ _ (by simp)]
    exact heap_alloc_new w _
  have b1 : wx.heap[w.heap.size + 1]? = some (.cells #[.int .i64 0, .int .i64 0] 128 (0, 0)) := by
    rw [← hW0]
    have := heap_alloc_new (w.alloc (.cells X 83)) (.cells #[.int .i64 0, .int .i64 0] 128)
    simpa using this
  have hsz : wx.heap.size = w.heap.size + 2 := by rw [← hW0]; simp
  have HW := hide hW0
  have B0 := hide b0
  have B1 := hide b1
  have HG0 := hide G0
  clear hW0 b0 b1 G0
  clear hX hg
  have bB := unhide B0
  go_enter Tryz.func113, Tryz.ntmps113
  go_wp2_with (first | (rw [unhide HW]; refine wpList_load_row rfl 83 _ rfl w.heap.size rfl X 83 bB _ Tryz.underlying83 rfl (by rw [hs]; kernel_rfl) ?_))
  refine (unhide F2 wx).mono ?_
  rintro e w1 ⟨rfl, g1⟩
  obtain ⟨W2, hW2⟩ : ∃ W2, w1.alloc (.cells #[.int .i64 a, .int .i64 b] 128) = W2 := ⟨_, rfl⟩
  have g2 : wx.grownBy W2 none := by rw [← hW2]; exact grown_alloc g1 _
  have hb6 : W2.heap[w1.heap.size]? = some (.cells #[.int .i64 a, .int .i64 b] 128 (0, 0)) := by rw [← hW2]; exact heap_alloc_new _ _
  have hs1 := g1.size
  have hR := (g2.block (w.heap.size + 1) (by omega) (by simp)).trans (unhide B1)
  obtain ⟨c60, c61, _, _⟩ := areaCells hb6
  obtain ⟨cr0, cr1, f0, f1⟩ := areaCells hR
  have KEEP : Hid (∀ u v, (putA W2 (w.heap.size + 1) u v).cell? ⟨w1.heap.size, 0, none⟩ = some (.int .i64 a) ∧ (putA W2 (w.heap.size + 1) u v).cell? ⟨w1.heap.size, 1, none⟩ = some (.int .i64 b)) := fun u v => ⟨(putA_grown _ _ _ _).cell c60 (by simp; omega), (putA_grown _ _ _ _).cell c61 (by simp; omega)⟩
  have HW2 := hide hW2
  clear hW2 hb6 F2 hR
  go_wp2
  rw [unhide HW2]
  clear HW2
  go_region_held3 (fun w' => w'.cell? ⟨w1.heap.size, 0, none⟩ = some (.int .i64 a) ∧ w'.cell? ⟨w1.heap.size, 1, none⟩ = some (.int .i64 b)) (first | exact ⟨c60, c61⟩ | exact unhide KEEP _ _) (first | (go_at_call_of 116 (Value.int .i64 a); refine (divUp _ _ u (by omega) (by omega) HU _).mono ?_; rintro e w2 ⟨rfl, rfl⟩) | (go_at_call_of 116 (Value.int .i64 b); refine (divUp _ _ v (by omega) (by omega) HV _).mono ?_; rintro e w2 ⟨rfl, rfl⟩))
  go_wp2
  refine bodyPost_ret (v := .agg #[.int .i64 u, .int .i64 v]) (by simp [results, Tryz.results113, go_sem, cr0, cr1]) rfl ⟨rfl, ?_⟩
  exact grown_drew (grown_setNew (grown_setNew (grown_trans (unhide HG0) g2) _ _ _ (by omega)) _ _ _ (by omega))

set_option maxRecDepth 20000 in
set_option maxHeartbeats 3200000 in
theorem blocks (X : Array Value) (p wd ht rs : Int) (n : Nat) (C : Nat → Nat → Int) (hX : Fx X p wd ht rs n C) (mh mv : Int) (hg : Geo wd ht n C mh mv) (c : Nat) (hc : c < n) (a b : Int) (HA : Hid (upI wd (8 * mh) = a)) (HB : Hid (upI ht (8 * mv) = b)) (w : World) :
    Calls Tryz.prog 93 #[.agg X, .int .i64 c] w fun e w' => e = .returned (.agg #[.int .i64 (C c 1 * a), .int .i64 (C c 2 * b)]) ∧ w.grownBy w' none := by
  have hs := hX.size
  have hn4 := hg.n4
  have F1 := hide (fun w => shares X p wd ht rs n C hX c (by omega) w)
  have F2 := hide (fun w => units X p wd ht rs n C hX mh mv hg a b HA HB w)
  obtain ⟨h1, h2⟩ : (1 ≤ C c 1 ∧ C c 1 ≤ 4) ∧ (1 ≤ C c 2 ∧ C c 2 ≤ 4) := ⟨hg.ch c hc, hg.cv c hc⟩
  have ha : 1 ≤ a ∧ a ≤ 256 := by
    have := upI_pos (d := 8 * mh) hg.wd.1 (by have := hg.hb; omega)
    have := hg.wd
    rw [unhide HA] at *; omega
  have hb : 1 ≤ b ∧ b ≤ 256 := by
    have := upI_pos (d := 8 * mv) hg.ht.1 (by have := hg.vb; omega)
    have := hg.ht
    rw [unhide HB] at *; omega
  have P1 := mul_share (a := a) ⟨ha.1, by omega⟩ h1
  have P2 := mul_share (a := b) ⟨hb.1, by omega⟩ h2
  obtain ⟨wx, hW0⟩ : ∃ wx, ((w.alloc (.cells X 83)).alloc (.cells #[.int .i64 0, .int .i64 0] 128)) = wx := ⟨_, rfl⟩
  have G0 : w.grownBy wx none := by rw [← hW0]; exact grown_alloc (grown_alloc (World.grownBy.refl _ _) _) _
  have b0 : wx.heap[w.heap.size]? = some (.cells X 83 (0, 0)) := by
    rw [← hW0, Below.heap_alloc _ _ _ (by simp)]
    exact heap_alloc_new w _
  have b1 : wx.heap[w.heap.size + 1]? = some (.cells #[.int .i64 0, .int .i64 0] 128 (0, 0)) := by
    rw [← hW0]
    have := heap_alloc_new (w.alloc (.cells X 83)) (.cells #[.int .i64 0, .int .i64 0] 128)
    simpa using this
  have hsz : wx.heap.size = w.heap.size + 2 := by rw [← hW0]; simp
  have HW := hide hW0
  have B0 := hide b0
  have B1 := hide b1
  have HG0 := hide G0
  clear hW0 b0 b1 G0
  clear hX hg
  go_enter Tryz.func93, Tryz.ntmps93
  go_wp2
  rw [unhide HW]
  clear HW
  generalize hE1 : C c 1 = c1 at *
  generalize hE2 : C c 2 = c2 at *
  have E1 := hide hE1
  have E2 := hide hE2
  clear hE1 hE2
  rw [Int.mul_comm a c1] at P1
  rw [Int.mul_comm b c2] at P2
  have hw1 := i64_in (c1 * a) (by omega)
  have hw2 := i64_in (c2 * b) (by omega)
  refine wp_region_steps (fun listed a' w' => ∃ v, a' = actB X c w.heap.size v ∧ InvA wx X c c1 c2 a b v listed w') (by kernel_rfl) (by kernel_rfl) ?start ?steps ?done

  case start =>
    exact ⟨fun _ => undef, rfl, grown_drew (World.grownBy.refl _ _), fun h => absurd h (not_done_start _ _), fun h => absurd h (not_done_start _ _), fun h => absurd h (not_done_start _ _), fun h => absurd h (not_done_start _ _), fun h => absurd h (not_done_start _ _), fun h => absurd h (not_done_start _ _), fun h => absurd h (not_done_start _ _), fun h => absurd h (not_done_start _ _), fun h => absurd h (not_done_start _ _), fun h => absurd h (not_done_start _ _)⟩
  case steps =>
    have xB : ∀ w1, wx.grownBy w1 none → w1.heap[w.heap.size]? = some (.cells X 83 (0, 0)) := fun w1 g => (g.block w.heap.size (by omega) (by simp)).trans (unhide B0)
    refine ⟨?_, ?_⟩
    · rintro listed a w1 hi hnd hd ⟨v, rfl, hJ⟩ K hK
      unfold actB
      rw [if_pos (by rfl)]
      refine wp_load_mid 83 _ rfl w.heap.size 0 rfl X.toList _ (fun j u hu => by rw [cell_of_row w1 w.heap.size (0 + j) X _ (0, 0) (xB w1 hJ.grown)]; simpa using hu) Tryz.underlying83 rfl (by simp only [Array.length_toList]; rw [hs]; kernel_rfl) ?_
      exact hK.out _ _ ⟨_, rfl, hJ.step hi (World.grownBy.refl _ none) (x := .agg X) rfl⟩
    refine ⟨?_, ?_⟩
    · rintro listed a w1 hi hnd hd ⟨v, rfl, hJ⟩ K hK
      unfold actB
      go_simp
      exact hK.out _ _ ⟨_, rfl, hJ.step hi (World.grownBy.refl _ none) (x := .int .i64 c) rfl⟩
    refine ⟨?_, ?_⟩
    · rintro listed a w1 hi hnd hd ⟨v, rfl, hJ⟩ K hK
      have hd' : depsF listed [{ on := 0, ground := .data }, { on := 1, ground := .data }] := hd
      simp only [depsF, and_true] at hd'
      have e7 := hJ.d0 (hd'.1 (by rfl))
      have e8 := hJ.d1 (hd'.2 (by rfl))
      unfold actB
      rw [e7, e8]
      go_simp
      refine (unhide F1 w1).mono ?_
      rintro e w2 ⟨rfl, g2⟩
      exact hK.out _ _ ⟨updA v 9 _, (by simp [actB, updA, e7, e8]), hJ.step hi g2 rfl⟩
    refine ⟨?_, ?_⟩
    · rintro listed a w1 hi hnd hd ⟨v, rfl, hJ⟩ K hK
      unfold actB
      rw [if_pos (by rfl)]
      refine wp_load_mid 83 _ rfl w.heap.size 0 rfl X.toList _ (fun j u hu => by rw [cell_of_row w1 w.heap.size (0 + j) X _ (0, 0) (xB w1 hJ.grown)]; simpa using hu) Tryz.underlying83 rfl (by simp only [Array.length_toList]; rw [hs]; kernel_rfl) ?_
      exact hK.out _ _ ⟨_, rfl, hJ.step hi (World.grownBy.refl _ none) (x := .agg X) rfl⟩
    refine ⟨?_, ?_⟩
    · rintro listed a w1 hi hnd hd ⟨v, rfl, hJ⟩ K hK
      have hd' : depsF listed [{ on := 3, ground := .data }, { on := 2, ground := .chain }] := hd
      simp only [depsF, and_true] at hd'
      have e10 := hJ.d3 (hd'.1 (by rfl))
      unfold actB
      rw [e10]
      go_simp
      refine (unhide F2 w1).mono ?_
      rintro e w2 ⟨rfl, g2⟩
      exact hK.out _ _ ⟨updA v 11 _, (by simp [actB, updA, e10]), hJ.step hi g2 rfl⟩
    refine ⟨?_, ?_⟩
    · rintro listed a w1 hi hnd hd ⟨v, rfl, hJ⟩ K hK
      unfold actB
      go_simp
      exact hK.out _ _ ⟨_, rfl, hJ.alloc hi (.inl rfl) hnd⟩
    refine ⟨?_, ?_⟩
    · rintro listed a w1 hi hnd hd ⟨v, rfl, hJ⟩ K hK
      unfold actB
      go_simp
      exact hK.out _ _ ⟨_, rfl, hJ.alloc hi (.inr rfl) hnd⟩
    refine ⟨?_, ?_⟩
    · rintro listed a w1 hi hnd hd ⟨v, rfl, hJ⟩ K hK
      have d5 := depsF_mem hd { on := 5, ground := .data } (by simp) rfl
      have e9 := hJ.d2 (depsF_mem hd { on := 2, ground := .data } (by simp) rfl)
      obtain ⟨g, e5, hge, x, y, hb, _⟩ := hJ.d5 d5
      have cf := areaCells hb
      unfold actB
      rw [e5, e9]
      go_simp
      exact hK.out _ _ ⟨v, (by simp [actB, e5, e9]), hJ.store5 hi e5 d5⟩
    refine ⟨?_, trivial⟩
    · rintro listed a w1 hi hnd hd ⟨v, rfl, hJ⟩ K hK
      have d6 := depsF_mem hd { on := 6, ground := .data } (by simp) rfl
      have e11 := hJ.d4 (depsF_mem hd { on := 4, ground := .data } (by simp) rfl)
      obtain ⟨g, e6, hge, x, y, hb, _⟩ := hJ.d6 d6
      have cf := areaCells hb
      unfold actB
      rw [e6, e11]
      go_simp
      exact hK.out _ _ ⟨v, (by simp [actB, e6, e11]), hJ.store6 hi e6 d6⟩
  case done =>
    rintro listed a w1 hall ⟨v, rfl, hJ⟩
    obtain ⟨g5, e5, hge5, x5, y5, hb5, l5⟩ := hJ.d5 (hall 5 (by decide))
    obtain ⟨g6, e6, hge6, x6, y6, hb6, l6⟩ := hJ.d6 (hall 6 (by decide))
    obtain ⟨rfl, rfl⟩ := l5 (hall 7 (by decide))
    obtain ⟨rfl, rfl⟩ := l6 (hall 8 (by decide))
    have hB := (hJ.grown.block w.heap.size (by omega) (by simp)).trans (unhide B0)
    have hR := (hJ.grown.block (w.heap.size + 1) (by omega) (by simp)).trans (unhide B1)
    have gJ := hJ.grown
    have hne : g5 ≠ g6 := fun e => hJ.ne (hall 5 (by decide)) (hall 6 (by decide)) (by rw [e5, e6, e])
    unfold actB
    rw [e5, e6]
    clear hall hJ l5 l6 e5 e6
    generalize v 7 = v7
    generalize v 8 = v8
    generalize v 9 = v9
    generalize v 10 = v10
    generalize v 11 = v11
    clear v

    obtain ⟨c50, c51, _, _⟩ := areaCells hb5
    obtain ⟨c60, c61, _, _⟩ := areaCells hb6
    obtain ⟨cr0, cr1, f0, f1⟩ := areaCells hR
    clear hb5 hb6 hB F1 F2
    go_wp2
    refine bodyPost_ret (v := .agg #[.int .i64 (x5 * x6), .int .i64 (y5 * y6)]) (by simp [results, Tryz.results93, go_sem, cr0, cr1]) rfl ⟨by rw [unhide E1, unhide E2], ?_⟩
    exact grown_setNew (grown_setNew (grown_trans (unhide HG0) gJ) _ _ _ (by omega)) _ _ _ (by omega)

end Go.Proofs.YtjkokbijnaodnaaGreat

namespace Go.Proofs.YtjkokbijnaodnaaGreat
open Go.RowKit

theorem fzOne : (#[.int .i64 0, .int .i64 0, .int .i64 0, .int .i64 0, .int .i64 0, .int .i64 0, .int .i64 0, .int .i64 0, .int .i64 0, .int .i64 0, .int .i64 0, .int .i64 0, .int .i64 0, .int .i64 0, .int .i64 0, .int .i64 0, .int .i64 0, .int .i64 0, .int .i64 0, .int .i64 0, .int .i64 0] : Array Value).all (·.oneCell') = true := by simp [Value.oneCell']

/-- The size of a component's plane, as both sides tell it. -/
def sizeG (b : Bool) (wd ht : Int) (n : Nat) (C : Nat → Nat → Int) (c : Int) : Int × Int :=
  if b && decide (0 ≤ c ∧ c ≤ (n : Int) - 1) then (upI (wd * C c.toNat 1) (mostA 1 C 1 n), upI (ht * C c.toNat 2) (mostA 1 C 2 n)) else (0, 0)
def blocksG (b : Bool) (wd ht : Int) (n : Nat) (C : Nat → Nat → Int) (c : Int) : Int × Int :=
  if b && decide (0 ≤ c ∧ c ≤ (n : Int) - 1) then (upI wd (8 * mostA 1 C 1 n) * C c.toNat 1, upI ht (8 * mostA 1 C 2 n) * C c.toNat 2) else (0, 0)

end Go.Proofs.YtjkokbijnaodnaaGreat

namespace Go.Proofs.YtjkokbijnaodnaaGreat
open Go.RowKit

set_option maxHeartbeats 1600000 in
theorem specUnits (p wd ht rs : Int) (ao : Option Addr) (n cap : Nat) (C : Nat → Nat → Int) (w : World) (hr : RdC w ao n C) (mh mv : Int) (hg : Geo wd ht n C mh mv) (u v : Int) (HU : Hid (upI wd (8 * mh) = u)) (HV : Hid (upI ht (8 * mv) = v)) :
    Calls Tryz.prog 74 #[.agg #[.int .i64 p, .int .i64 wd, .int .i64 ht, .int .i64 rs, .slice ao n cap]] w fun e w' => e = .returned (.tuple #[.int .i64 u, .int .i64 v]) ∧ w.grownBy w' none := by
  have G0 : Hid (w.grownBy (w.alloc (.cells #[.int .i64 p, .int .i64 wd, .int .i64 ht, .int .i64 rs, .slice ao n cap] 37)) none) := grown_alloc (World.grownBy.refl _ _) _
  have HB := hide (heap_alloc_new w (.cells #[.int .i64 p, .int .i64 wd, .int .i64 ht, .int .i64 rs, .slice ao n cap] 37))
  have hgs : w.heap.size < (w.alloc (.cells #[.int .i64 p, .int .i64 wd, .int .i64 ht, .int .i64 rs, .slice ao n cap] 37)).heap.size := by simp
  have HR := hide (hr.grown (unhide G0))
  clear hr
  have hn4 := hg.n4
  have hmh := hg.hb
  have hmv := hg.vb
  have hwd := hg.wd
  have hht := hg.ht
  have H1 := hide hg.h1
  have H2 := hide hg.v1
  have hw1 := i64_in (8 * mh) (by omega)
  have hw2 := i64_in (8 * mv) (by omega)
  clear hg
  go_enter Tryz.func74, Tryz.ntmps74
  go_wp2_with fail
  refine (specMost p wd ht rs ao n cap C _ (unhide HR) (by omega) mh mv (unhide H1) (unhide H2)).mono ?_
  generalize (w.alloc (.cells #[.int .i64 p, .int .i64 wd, .int .i64 ht, .int .i64 rs, .slice ao n cap] 37)) = wx at *
  rintro e w1 ⟨rfl, g1⟩
  obtain ⟨_, cf1, cf2, _, _⟩ := frameCells' ((g1.block w.heap.size hgs (by simp)).trans (unhide HB))
  go_wp2
  go_region_held3 (fun w' => w'.cell? ⟨w.heap.size, 1, none⟩ = some (.int .i64 wd) ∧ w'.cell? ⟨w.heap.size, 2, none⟩ = some (.int .i64 ht)) (exact ⟨cf1, cf2⟩) (first | (go_at_call_of 86 (Value.int .i64 wd); refine (specUp _ _ u (by omega) (by omega) HU _).mono ?_; rintro e w2 ⟨rfl, rfl⟩) | (go_at_call_of 86 (Value.int .i64 ht); refine (specUp _ _ v (by omega) (by omega) HV _).mono ?_; rintro e w2 ⟨rfl, rfl⟩))
  all_goals
    go_wp2
    refine bodyPost_ret (v := .tuple #[.int .i64 u, .int .i64 v]) (by simp [results, Tryz.results74, go_sem]) rfl ⟨rfl, grown_drew (grown_trans (unhide G0) g1)⟩

set_option maxHeartbeats 1600000 in
theorem specSize (p wd ht rs : Int) (ao : Option Addr) (n cap : Nat) (C : Nat → Nat → Int) (w : World) (hr : RdC w ao n C) (mh mv : Int) (hg : Geo wd ht n C mh mv) (c : Nat) (hc : c < n) (u v : Int) (HU : Hid (upI (wd * C c 1) mh = u)) (HV : Hid (upI (ht * C c 2) mv = v)) :
    Calls Tryz.prog 87 #[.agg #[.int .i64 p, .int .i64 wd, .int .i64 ht, .int .i64 rs, .slice ao n cap], .int .i64 c] w fun e w' => e = .returned (.tuple #[.int .i64 u, .int .i64 v]) ∧ w.grownBy w' none := by
  have G0 : Hid (w.grownBy (w.alloc (.cells #[.int .i64 p, .int .i64 wd, .int .i64 ht, .int .i64 rs, .slice ao n cap] 37)) none) := grown_alloc (World.grownBy.refl _ _) _
  have HB := hide (heap_alloc_new w (.cells #[.int .i64 p, .int .i64 wd, .int .i64 ht, .int .i64 rs, .slice ao n cap] 37))
  have hgs : w.heap.size < (w.alloc (.cells #[.int .i64 p, .int .i64 wd, .int .i64 ht, .int .i64 rs, .slice ao n cap] 37)).heap.size := by simp
  have HR := hide (hr.grown (unhide G0))
  clear hr
  have hn4 := hg.n4
  have hmh := hg.hb
  have hmv := hg.vb
  have hwd := hg.wd
  have hht := hg.ht
  have H1 := hide hg.h1
  have H2 := hide hg.v1
  have P1 := mul_share (a := wd) ⟨hwd.1, by omega⟩ (hg.ch c hc)
  have P2 := mul_share (a := ht) ⟨hht.1, by omega⟩ (hg.cv c hc)
  have hw1 := i64_in (wd * C c 1) (by omega)
  have hw2 := i64_in (ht * C c 2) (by omega)
  have hc0 : (0 : Int) ≤ (c : Int) := by omega
  have hc1 : (c : Int) < (n : Int) := by omega
  clear hg
  go_enter Tryz.func87, Tryz.ntmps87
  go_wp2_with fail
  refine (specMost p wd ht rs ao n cap C _ (unhide HR) (by omega) mh mv (unhide H1) (unhide H2)).mono ?_
  generalize (w.alloc (.cells #[.int .i64 p, .int .i64 wd, .int .i64 ht, .int .i64 rs, .slice ao n cap] 37)) = wx at *
  rintro e w1 ⟨rfl, g1⟩
  obtain ⟨_, cf1, cf2, _, cf4⟩ := frameCells' ((g1.block w.heap.size hgs (by simp)).trans (unhide HB))
  obtain ⟨bb, off, rfl, hcc⟩ := ((unhide HR).grown g1) c hc
  have x1 := hcc 1 (by omega)
  have x2 := hcc 2 (by omega)
  clear hcc
  go_wp2
  go_region_held3 (fun w' => w'.cell? ⟨w.heap.size, 1, none⟩ = some (.int .i64 wd) ∧ w'.cell? ⟨w.heap.size, 2, none⟩ = some (.int .i64 ht) ∧ w'.cell? ⟨w.heap.size, 4, none⟩ = some (.slice (some ⟨bb, off, none⟩) n cap) ∧ w'.cell? ⟨bb, off + c * 4 + 1, none⟩ = some (.int .i64 (C c 1)) ∧ w'.cell? ⟨bb, off + c * 4 + 2, none⟩ = some (.int .i64 (C c 2))) (exact ⟨cf1, cf2, cf4, x1, x2⟩) (first | (go_at_call_of 86 (Value.int .i64 (wd * C c 1)); refine (specUp _ _ u (by omega) (by omega) HU _).mono ?_; rintro e w2 ⟨rfl, rfl⟩) | (go_at_call_of 86 (Value.int .i64 (ht * C c 2)); refine (specUp _ _ v (by omega) (by omega) HV _).mono ?_; rintro e w2 ⟨rfl, rfl⟩))
  all_goals
    go_wp2
    refine bodyPost_ret (v := .tuple #[.int .i64 u, .int .i64 v]) (by simp [results, Tryz.results87, go_sem]) rfl ⟨rfl, grown_drew (grown_trans (unhide G0) g1)⟩

set_option maxHeartbeats 1600000 in
theorem specBlocks (p wd ht rs : Int) (ao : Option Addr) (n cap : Nat) (C : Nat → Nat → Int) (w : World) (hr : RdC w ao n C) (mh mv : Int) (hg : Geo wd ht n C mh mv) (c : Nat) (hc : c < n) (a b : Int) (HA : Hid (upI wd (8 * mh) = a)) (HB' : Hid (upI ht (8 * mv) = b)) :
    Calls Tryz.prog 59 #[.agg #[.int .i64 p, .int .i64 wd, .int .i64 ht, .int .i64 rs, .slice ao n cap], .int .i64 c] w fun e w' => e = .returned (.tuple #[.int .i64 (a * C c 1), .int .i64 (b * C c 2)]) ∧ w.grownBy w' none := by
  have G0 : Hid (w.grownBy (w.alloc (.cells #[.int .i64 p, .int .i64 wd, .int .i64 ht, .int .i64 rs, .slice ao n cap] 37)) none) := grown_alloc (World.grownBy.refl _ _) _
  have HB := hide (heap_alloc_new w (.cells #[.int .i64 p, .int .i64 wd, .int .i64 ht, .int .i64 rs, .slice ao n cap] 37))
  have hgs : w.heap.size < (w.alloc (.cells #[.int .i64 p, .int .i64 wd, .int .i64 ht, .int .i64 rs, .slice ao n cap] 37)).heap.size := by simp
  have HR := hide (hr.grown (unhide G0))
  clear hr
  have hn4 := hg.n4
  have HG := hide hg
  have ha : 1 ≤ a ∧ a ≤ 256 := by
    have := upI_pos (d := 8 * mh) hg.wd.1 (by have := hg.hb; omega)
    have := hg.wd
    rw [unhide HA] at *; omega
  have hb : 1 ≤ b ∧ b ≤ 256 := by
    have := upI_pos (d := 8 * mv) hg.ht.1 (by have := hg.vb; omega)
    have := hg.ht
    rw [unhide HB'] at *; omega
  have P1 := mul_share (a := a) ⟨ha.1, by omega⟩ (hg.ch c hc)
  have P2 := mul_share (a := b) ⟨hb.1, by omega⟩ (hg.cv c hc)
  have hw1 := i64_in (a * C c 1) (by omega)
  have hw2 := i64_in (b * C c 2) (by omega)
  have hc0 : (0 : Int) ≤ (c : Int) := by omega
  have hc1 : (c : Int) < (n : Int) := by omega
  clear hg
  go_enter Tryz.func59, Tryz.ntmps59
  go_wp2_with fail
  refine (specUnits p wd ht rs ao n cap C _ (unhide HR) mh mv (unhide HG) a b HA HB').mono ?_
  generalize (w.alloc (.cells #[.int .i64 p, .int .i64 wd, .int .i64 ht, .int .i64 rs, .slice ao n cap] 37)) = wx at *
  rintro e w1 ⟨rfl, g1⟩
  obtain ⟨_, _, _, _, cf4⟩ := frameCells' ((g1.block w.heap.size hgs (by simp)).trans (unhide HB))
  obtain ⟨bb, off, rfl, hcc⟩ := ((unhide HR).grown g1) c hc
  have x1 := hcc 1 (by omega)
  have x2 := hcc 2 (by omega)
  clear hcc
  go_wp2
  go_region_held3 (fun w' => w'.cell? ⟨w.heap.size, 4, none⟩ = some (.slice (some ⟨bb, off, none⟩) n cap) ∧ w'.cell? ⟨bb, off + c * 4 + 1, none⟩ = some (.int .i64 (C c 1)) ∧ w'.cell? ⟨bb, off + c * 4 + 2, none⟩ = some (.int .i64 (C c 2))) (exact ⟨cf4, x1, x2⟩) (fail)
  all_goals
    go_wp2
    refine bodyPost_ret (v := .tuple #[.int .i64 (a * C c 1), .int .i64 (b * C c 2)]) (by simp [results, Tryz.results59, go_sem]) rfl ⟨rfl, grown_drew (grown_trans (unhide G0) g1)⟩

end Go.Proofs.YtjkokbijnaodnaaGreat

namespace Go.Proofs.YtjkokbijnaodnaaGreat
open Go.RowKit

theorem specLevel (ao : Option Addr) (n cap : Nat) (zs : List Int) (w : World) (hr : Rd .i64 w ao n zs) (b : Bool) (hb : Hid (levB (-16383) 16383 zs = b)) :
    Calls Tryz.prog 60 #[.slice ao n cap] w fun e w' => e = .returned (.bool b) ∧ w.grownBy w' none := by
  have HR := hide hr
  clear hr
  go_enter Tryz.func60, Tryz.ntmps60
  go_wp2_with fail
  refine (specLev ao n cap zs _ _ _ (unhide HR) b hb).mono ?_
  rintro e w1 ⟨rfl, g1⟩
  have HG := hide g1
  clear g1
  go_wp2
  go_ret
  exact ⟨rfl, unhide HG⟩

set_option maxHeartbeats 1600000 in
theorem specNeed (p wd ht rs : Int) (ao : Option Addr) (n cap : Nat) (C : Nat → Nat → Int) (w : World) (hr : RdC w ao n C) (hg : Geo wd ht n C (mostA 1 C 1 n) (mostA 1 C 2 n)) (c : Nat) (hc : c < n) :
    Calls Tryz.prog 75 #[.agg #[.int .i64 p, .int .i64 wd, .int .i64 ht, .int .i64 rs, .slice ao n cap], .int .i64 c] w fun e w' => e = .returned (.tuple #[.int .i64 (nwG wd n C c : Int), .int .i64 (nhG ht n C c : Int)]) ∧ w.grownBy w' none := by
  have hd := dims_of hg c hc
  have G0 : w.grownBy (w.alloc (.cells #[.int .i64 p, .int .i64 wd, .int .i64 ht, .int .i64 rs, .slice ao n cap] 37)) none := grown_alloc (World.grownBy.refl _ _) _
  have HT := hide (specSize p wd ht rs ao n cap C _ (hr.grown G0) _ _ hg c hc _ _ rfl rfl)
  have hsw := hd.sw
  have hsh := hd.sh
  have HNW : Hid (upI (upI (wd * C c 1) (mostA 1 C 1 n)) 8 = (nwG wd n C c : Int)) := hd.nw
  have HNH : Hid (upI (upI (ht * C c 2) (mostA 1 C 2 n)) 8 = (nhG ht n C c : Int)) := hd.nh
  have HG0 := hide G0
  clear hr hg hd G0
  generalize upI (wd * C c 1) (mostA 1 C 1 n) = sw at *
  generalize upI (ht * C c 2) (mostA 1 C 2 n) = sh at *
  generalize (nwG wd n C c : Int) = nw at *
  generalize (nhG ht n C c : Int) = nh at *
  go_enter Tryz.func75, Tryz.ntmps75
  go_wp2_with fail
  refine (unhide HT).mono ?_
  rintro e w1 ⟨rfl, g1⟩
  have HG1 := hide (grown_trans (unhide HG0) g1)
  clear g1 HT
  go_wp2_with fail
  refine (specUp sw 8 nw (by omega) (by omega) HNW _).mono ?_
  rintro e w2 ⟨rfl, rfl⟩
  go_wp2_with fail
  refine (specUp sh 8 nh (by omega) (by omega) HNH _).mono ?_
  rintro e w3 ⟨rfl, rfl⟩
  go_wp2
  go_ret2
  exact ⟨rfl, unhide HG1⟩

set_option maxHeartbeats 1600000 in
theorem specHidden (p wd ht rs : Int) (ao : Option Addr) (n cap : Nat) (C : Nat → Nat → Int) (w : World) (hr : RdC w ao n C) (hg : Geo wd ht n C (mostA 1 C 1 n) (mostA 1 C 2 n)) (c : Nat) (hc : c < n) (ro cl : Int) (b : Bool) (HB : Hid (hiddenI wd ht n C c ro cl = b)) :
    Calls Tryz.prog 61 #[.agg #[.int .i64 p, .int .i64 wd, .int .i64 ht, .int .i64 rs, .slice ao n cap], .agg #[.int .i64 c, .int .i64 ro, .int .i64 cl]] w fun e w' => e = .returned (.bool b) ∧ w.grownBy w' none := by
  have G0 : w.grownBy ((w.alloc (.cells #[.int .i64 p, .int .i64 wd, .int .i64 ht, .int .i64 rs, .slice ao n cap] 37)).alloc (.cells #[.int .i64 c, .int .i64 ro, .int .i64 cl] 96)) none := grown_alloc (grown_alloc (World.grownBy.refl _ _) _) _
  have HT := hide (specNeed p wd ht rs ao n cap C _ (hr.grown G0) hg c hc)
  have HBX : Hid (((w.alloc (.cells #[.int .i64 p, .int .i64 wd, .int .i64 ht, .int .i64 rs, .slice ao n cap] 37)).alloc (.cells #[.int .i64 c, .int .i64 ro, .int .i64 cl] 96)).heap[w.heap.size + 1]? = some (.cells #[.int .i64 c, .int .i64 ro, .int .i64 cl] 96 (0, 0))) := by
    have := heap_alloc_new (w.alloc (.cells #[.int .i64 p, .int .i64 wd, .int .i64 ht, .int .i64 rs, .slice ao n cap] 37)) (.cells #[.int .i64 c, .int .i64 ro, .int .i64 cl] 96)
    unfold Hid
    simpa using this
  have HG0 := hide G0
  have HBE : Hid ((decide ((nhG ht n C c : Int) ≤ ro) || decide ((nwG wd n C c : Int) ≤ cl)) = b) := HB
  clear hr hg G0 HB
  generalize (nwG wd n C c : Int) = nw at *
  generalize (nhG ht n C c : Int) = nh at *
  go_enter Tryz.func61, Tryz.ntmps61
  go_wp2_with fail
  refine (unhide HT).mono ?_
  rintro e w1 ⟨rfl, g1⟩
  have hb1 := grown_atT g1 (unhide HBX) (by simp)
  have c1 : w1.cell? ⟨w.heap.size + 1, 1, none⟩ = some (.int .i64 ro) := by rw [cell_of_row w1 _ 1 _ _ (0, 0) hb1]; rfl
  have c2 : w1.cell? ⟨w.heap.size + 1, 2, none⟩ = some (.int .i64 cl) := by rw [cell_of_row w1 _ 2 _ _ (0, 0) hb1]; rfl
  have HG1 := hide (grown_trans (unhide HG0) g1)
  clear g1 HT hb1 HBX HG0
  by_cases h1 : nh ≤ ro
  · have d1 : decide (nh ≤ ro) = true := decide_eq_true h1
    have e : b = true := by rw [← unhide HBE, d1]; rfl
    subst e
    clear HBE
    go_wp2
    go_ret
    exact ⟨rfl, unhide HG1⟩
  · have d1 : decide (nh ≤ ro) = false := decide_eq_false h1
    obtain ⟨b2, hb2⟩ : ∃ b2, decide (nw ≤ cl) = b2 := ⟨_, rfl⟩
    have e : b = b2 := by rw [← unhide HBE, d1, hb2]; rfl
    subst e
    clear HBE
    go_wp2
    go_ret
    exact ⟨rfl, unhide HG1⟩

end Go.Proofs.YtjkokbijnaodnaaGreat
