/-
  What is read of a frame's bytes, and the walks of the program's reading of them.
-/
import Derived.Test.YtoeehfjbnbbijaaFrameWrite2
import Derived.Test.YtoeehfjbnbbijaaHeldTail
import Derived.Deep.RegionHeld3
namespace Go.Proofs.Ytoeehfjbnbbijaa
open Go.RowKit

/-- The components that stand in bytes. -/
def compOf (zs : List Int) : Nat → Nat → Int := fun i j => if j = 0 then zs.getD (5 + 3 * i) 0 else if j = 1 then zs.getD (5 + 3 * i + 1) 0 / 16 else if j = 2 then zs.getD (5 + 3 * i + 1) 0 % 16 else zs.getD (5 + 3 * i + 2) 0
def readOk (zs : List Int) : Bool := decide (5 ≤ zs.length ∧ (zs.length : Int) = 5 + 3 * zs.getD 4 0) && frameB (zs.getD 0 0) (zs.getD 1 0 + 1) (zs.getD 2 0 + 1) (zs.getD 3 0) (zs.getD 4 0).toNat (compOf zs)
def readF (zs : List Int) : Bool × Int × Int × Int × Int × Nat := if readOk zs = true then (true, zs.getD 0 0, zs.getD 1 0 + 1, zs.getD 2 0 + 1, zs.getD 3 0, (zs.getD 4 0).toNat) else (false, 0, 0, 0, 0, 0)

set_option maxRecDepth 100000 in
set_option maxHeartbeats 1600000 in
theorem readComp (b off k cap : Nat) (x y z : Int) (w : World) (hk : 3 ≤ k) (h0 : w.cell? ⟨b, off, none⟩ = some (.int .u8 x)) (h1 : w.cell? ⟨b, off + 1, none⟩ = some (.int .u8 y)) (h2 : w.cell? ⟨b, off + 2, none⟩ = some (.int .u8 z))
    (hx : 0 ≤ x ∧ x ≤ 255) (hy : 0 ≤ y ∧ y ≤ 255) (hz : 0 ≤ z ∧ z ≤ 255) :
    Calls Try.prog 72 #[.slice (some ⟨b, off, none⟩) k cap] w fun e w' => e = .returned (.agg #[.int .i64 x, .int .i64 (y / 16), .int .i64 (y % 16), .int .i64 z]) ∧ w.grownBy w' none := by
  have i0 : (0 : Int) < (k : Int) := by omega
  have i0' : 0 < k := by omega
  have hxw := i64_in x (by omega)
  have hzw := i64_in z (by omega)
  have htd : y.tdiv 16 = y / 16 := Int.tdiv_eq_ediv_of_nonneg hy.1
  have htm : y.tmod 16 = y % 16 := Int.tmod_eq_emod_of_nonneg hy.1
  have hwd := i64_in (y / 16) (by omega)
  have i1 : (1 : Int) < (k : Int) := by omega
  have i2 : (2 : Int) < (k : Int) := by omega
  have hne := World.new_ne w ⟨b, off, none⟩ h0
  have g0 := (grown_alloc (World.grownBy.refl w none) (.cells #[.int .i64 0, .int .i64 0, .int .i64 0, .int .i64 0] 77)).cell h0 (by simp)
  have g1 := (grown_alloc (World.grownBy.refl w none) (.cells #[.int .i64 0, .int .i64 0, .int .i64 0, .int .i64 0] 77)).cell h1 (by simp)
  have g2 := (grown_alloc (World.grownBy.refl w none) (.cells #[.int .i64 0, .int .i64 0, .int .i64 0, .int .i64 0] 77)).cell h2 (by simp)
  go_enter Try.func72, Try.ntmps72
  go_wp2
  go_region_held3 (fun w' => w'.cell? ⟨b, off, none⟩ = some (.int .u8 x) ∧ w'.cell? ⟨b, off + 2, none⟩ = some (.int .u8 z)) (go_keep) (fail)
  go_wp2
  refine bodyPost_ret (v := .agg #[.int .i64 x, .int .i64 (y / 16), .int .i64 (y % 16), .int .i64 z]) (by simp [results, Try.results72, go_sem]) rfl ⟨rfl, ?_⟩
  exact grown_drew (grown_alloc (World.grownBy.refl _ _) _)

set_option maxRecDepth 100000 in
set_option maxHeartbeats 3200000 in
theorem readFixed_short (ao : Option Addr) (n cap : Nat) (w : World) (hn : n < 5) :
    Calls Try.prog 49 #[.slice ao n cap] w fun e w' => e = .returned (.agg #[.int .i64 0, .int .i64 0, .int .i64 0, .int .i64 0, .int .i64 0, .int .i64 0, .int .i64 0, .int .i64 0, .int .i64 0, .int .i64 0, .int .i64 0, .int .i64 0, .int .i64 0, .int .i64 0, .int .i64 0, .int .i64 0, .int .i64 0, .int .i64 0, .int .i64 0, .int .i64 0, .int .i64 0]) ∧ w.grownBy w' none := by
  have hlt : (n : Int) < 5 := by omega
  obtain ⟨Z, hZ⟩ : ∃ Z, (#[.int .i64 0, .int .i64 0, .int .i64 0, .int .i64 0, .int .i64 0, .int .i64 0, .int .i64 0, .int .i64 0, .int .i64 0, .int .i64 0, .int .i64 0, .int .i64 0, .int .i64 0, .int .i64 0, .int .i64 0, .int .i64 0, .int .i64 0, .int .i64 0, .int .i64 0, .int .i64 0, .int .i64 0] : Array Value) = Z := ⟨_, rfl⟩
  have hsz : Z.size = 21 := by rw [← hZ]; rfl
  have HZ1 : Hid (Z.all (·.oneCell') = true) := by unfold Hid; rw [← hZ]; exact fz_one
  have HB0 : Hid ((w.alloc (.cells #[.int .i64 0, .int .i64 0, .int .i64 0, .int .i64 0, .int .i64 0, .int .i64 0, .int .i64 0, .int .i64 0, .int .i64 0, .int .i64 0, .int .i64 0, .int .i64 0, .int .i64 0, .int .i64 0, .int .i64 0, .int .i64 0, .int .i64 0, .int .i64 0, .int .i64 0, .int .i64 0, .int .i64 0] 80)).heap[w.heap.size]? = some (.cells Z 80 (0, 0))) := by rw [← hZ]; exact heap_alloc_new _ _
  have HZ := hide hZ
  have G0 : Hid (w.grownBy (w.alloc (.cells #[.int .i64 0, .int .i64 0, .int .i64 0, .int .i64 0, .int .i64 0, .int .i64 0, .int .i64 0, .int .i64 0, .int .i64 0, .int .i64 0, .int .i64 0, .int .i64 0, .int .i64 0, .int .i64 0, .int .i64 0, .int .i64 0, .int .i64 0, .int .i64 0, .int .i64 0, .int .i64 0, .int .i64 0] 80)) none) := grown_alloc (World.grownBy.refl _ _) _
  rw [hZ]
  clear hZ
  go_enter Try.func49, Try.ntmps49
  go_wp2_with (refine wpList_store_row rfl 80 _ _ rfl w.heap.size rfl Z (congrArg _ (unhide HZ)) Z 80 (unhide HB0) rfl (by rw [hsz]; kernel_rfl) (unhide HZ1) ?_; intro w3 hB3 g3)
  refine bodyPost_ret (v := .agg Z) ?_ rfl ⟨rfl, ?_⟩
  · rw [results_cell1 rfl]
    exact loadFx hsz hB3
  · exact grown_new (unhide G0) g3 (fun g e => by simp at e; omega)

theorem wp_store_row {P : Program} {op : Oper} {a : Act} {w : World} {K : Act → World → Prop} {Q : Exit → Act → World → Prop} (ty : TypeId) (x y : Operand) (ho : op.op = .store ty x y)
    (b : Nat) (hx : a.eval x = .pointer (some ⟨b, 0, none⟩)) (X : Array Value) (hy : a.eval y = .agg X) (Y : Array Value) (t : TypeId) (hb : w.heap[b]? = some (.cells Y t (0, 0))) (hYX : Y.size = X.size)
    (hi : (P.info? ty).map (·.size) = some X.size) (h1 : X.all (·.oneCell') = true)
    (h : ∀ w', w'.heap[b]? = some (.cells X t (0, 0)) → w.grownBy w' (some b) → K (a.put op.dst undef) w') : op.wp P a w K Q := by
  unfold Oper.wp execOp
  simp only [ho, hx, hy, Instr.storeAt, Instr.sureAddr, Sem.run_bind, Sem.run_pure, Result.andThen_ok, run_storeVar_row w b t ty Y X hb hi hYX h1]
  exact h _ (setRow_heap w b Y X t _ hb) (grown_setRow w b X)

/-- A frame with no components yet. -/
theorem fx_new (p wd ht rs n : Int) : Fx #[.int .i64 p, .int .i64 wd, .int .i64 ht, .int .i64 rs, .int .i64 n, .int .i64 0, .int .i64 0, .int .i64 0, .int .i64 0, .int .i64 0, .int .i64 0, .int .i64 0, .int .i64 0, .int .i64 0, .int .i64 0, .int .i64 0, .int .i64 0, .int .i64 0, .int .i64 0, .int .i64 0, .int .i64 0] p wd ht rs n (fun _ _ => 0) := by
  refine ⟨rfl, rfl, rfl, rfl, rfl, rfl, fun i j hi hj => ?_⟩
  have h1 : i = 0 ∨ i = 1 ∨ i = 2 ∨ i = 3 := by omega
  have h2 : j = 0 ∨ j = 1 ∨ j = 2 ∨ j = 3 := by omega
  rcases h1 with rfl | rfl | rfl | rfl <;> rcases h2 with rfl | rfl | rfl | rfl <;> rfl

theorem wpList_store_part {P : Program} {ops : Array Oper} {rest : List Oper} {op : Oper} {a : Act} {w : World} {Q : Exit → Act → World → Prop} (hw : Region.wanted op (yielded ops a.tmps) = true) (ty : TypeId) (x y : Operand) (ho : op.op = .store ty x y)
    (b o : Nat) (hx : a.eval x = .pointer (some ⟨b, o, none⟩)) (cells : Array Value) (hy : a.eval y = .agg cells) (X : Array Value) (t : TypeId) (hb : w.heap[b]? = some (.cells X t (0, 0))) (hfit : o + cells.size ≤ X.size)
    (hi : (P.info? ty).map (·.size) = some cells.size) (h1 : cells.all (·.oneCell') = true)
    (h : ∀ w', Hid (w'.heap[b]? = some (.cells (X.toList.take o ++ cells.toList ++ X.toList.drop (o + cells.toList.length)).toArray t (0, 0))) → w.grownBy w' (some b) → wpList P ops Q rest (a.put op.dst undef) w') : wpList P ops Q (op :: rest) a w :=
  BigFrame.wpList_want hw fun K hK => by
    have hst := run_storeCells_at P b o t cells.toList 0 X w hb (by simpa using hfit) (fun v hv => (Array.all_eq_true_iff_forall_mem.1 h1) v (by simpa using hv))
    rw [Nat.add_zero] at hst
    have hrun : (storeVar ty ⟨b, o, none⟩ (.agg cells)).run P w = .ok () (w.setRow b (X.toList.take o ++ cells.toList ++ X.toList.drop (o + cells.toList.length)).toArray) := by
      cases hq : P.info? ty with
      | none => simp [hq] at hi
      | some i =>
        have hs : cells.size = i.size := by simp [hq] at hi; omega
        have hst' : (storeCells ⟨b, o, none⟩ cells.toList 0).run P w = .ok () (w.setRow b (X.toList.take o ++ cells.toList ++ X.toList.drop (o + cells.toList.length)).toArray) := hst
        simp only [storeVar, sizeOf, typeInfo, Value.cells, Sem.run_bind, Sem.run_pure, hs]
        simp [hq, hs] at hst' ⊢
        exact hst'
    unfold Oper.wp execOp
    simp only [ho, hx, hy, Instr.storeAt, Instr.sureAddr, Sem.run_bind, Sem.run_pure, Result.andThen_ok, hrun]
    exact hK _ _ (h _ (setRow_heap w b X _ t _ hb) (grown_setRow w b _))

theorem all_four (a b c d : Int) : (#[.int .i64 a, .int .i64 b, .int .i64 c, .int .i64 d] : Array Value).all (·.oneCell') = true := by
  rw [Array.all_eq_true_iff_forall_mem]
  intro v hv
  simp at hv
  rcases hv with rfl | rfl | rfl | rfl <;> rfl

theorem Fx.congr {X : Array Value} {p wd ht rs n : Int} {D E : Nat → Nat → Int} (h : Fx X p wd ht rs n D) (he : ∀ i j, D i j = E i j) : Fx X p wd ht rs n E := by
  have e : D = E := by funext i j; exact he i j
  rw [← e]; exact h

/-- One component put. -/
theorem fx_put {X : Array Value} {p wd ht rs n : Int} {D : Nat → Nat → Int} (h : Fx X p wd ht rs n D) (k : Nat) (hk : k < 4) (c0 c1 c2 c3 : Int) :
    Fx (X.toList.take (5 + k * 4) ++ (#[.int .i64 c0, .int .i64 c1, .int .i64 c2, .int .i64 c3] : Array Value).toList ++ X.toList.drop (5 + k * 4 + (#[.int .i64 c0, .int .i64 c1, .int .i64 c2, .int .i64 c3] : Array Value).toList.length)).toArray p wd ht rs n (fun i j => if i = k then (if j = 0 then c0 else if j = 1 then c1 else if j = 2 then c2 else c3) else D i j) := by
  have hs := h.size
  have hl : (X.toList.take (5 + k * 4)).length = 5 + k * 4 := by simp; omega
  have hlc : (#[.int .i64 c0, .int .i64 c1, .int .i64 c2, .int .i64 c3] : Array Value).toList.length = 4 := rfl
  rw [hlc]
  have low : ∀ q, q < 5 + k * 4 → (X.toList.take (5 + k * 4) ++ (#[.int .i64 c0, .int .i64 c1, .int .i64 c2, .int .i64 c3] : Array Value).toList ++ X.toList.drop (5 + k * 4 + 4)).toArray[q]? = X[q]? := by
    intro q hq
    rw [List.getElem?_toArray, List.append_assoc, List.getElem?_append_left (by omega), List.getElem?_take, if_pos hq]
    simp
  refine ⟨by simp; omega, (low 0 (by omega)).trans h.c0, (low 1 (by omega)).trans h.c1, (low 2 (by omega)).trans h.c2, (low 3 (by omega)).trans h.c3, (low 4 (by omega)).trans h.c4, fun i j hi hj => ?_⟩
  by_cases hik : i < k
  · rw [low _ (by omega), if_neg (by omega)]
    exact h.comp i j hi hj
  · rw [List.getElem?_toArray]
    by_cases e : i = k
    · subst e
      rw [if_pos rfl, List.getElem?_append_left (by rw [List.length_append, hl, hlc]; omega), List.getElem?_append_right (by omega), hl, show 5 + i * 4 + j - (5 + i * 4) = j by omega]
      have hj4 : j = 0 ∨ j = 1 ∨ j = 2 ∨ j = 3 := by omega
      rcases hj4 with rfl | rfl | rfl | rfl <;> rfl
    · rw [if_neg e, List.getElem?_append_right (by rw [List.length_append, hl, hlc]; omega), List.length_append, hl, hlc, List.getElem?_drop, show 5 + k * 4 + 4 + (5 + i * 4 + j - (5 + k * 4 + 4)) = 5 + i * 4 + j by omega]
      have := h.comp i j hi hj
      simpa using this

set_option maxRecDepth 100000 in
set_option maxRecDepth 100000 in
set_option maxHeartbeats 6400000 in
theorem readFixed_long (b off n cap : Nat) (zs : List Int) (w : World) (hr : Rd .u8 w (some ⟨b, off, none⟩) n zs) (hn : 5 ≤ n) (hn4 : n ≤ 4194304) (hcap : n ≤ cap) (hby : ∀ i, 0 ≤ zs.getD i 0 ∧ zs.getD i 0 ≤ 255) (m : Nat) (hm : zs.getD 4 0 = (m : Int)) (ok : Bool)
    (HOK : Hid ((decide ((n : Int) = 5 + 3 * (m : Int)) && frameB (zs.getD 0 0) (zs.getD 1 0 + 1) (zs.getD 2 0 + 1) (zs.getD 3 0) m (compOf zs)) = ok)) :
    Calls Try.prog 49 #[.slice (some ⟨b, off, none⟩) n cap] w fun e w' => ∃ R, e = .returned (.agg R) ∧ (ok = false → R = #[.int .i64 0, .int .i64 0, .int .i64 0, .int .i64 0, .int .i64 0, .int .i64 0, .int .i64 0, .int .i64 0, .int .i64 0, .int .i64 0, .int .i64 0, .int .i64 0, .int .i64 0, .int .i64 0, .int .i64 0, .int .i64 0, .int .i64 0, .int .i64 0, .int .i64 0, .int .i64 0, .int .i64 0]) ∧ (ok = true → ∃ D, Fx R (zs.getD 0 0) (zs.getD 1 0 + 1) (zs.getD 2 0 + 1) (zs.getD 3 0) m D ∧ ∀ i, i < m → D i = compOf zs i) ∧ w.grownBy w' none := by
  have hlt : ¬ ((n : Int) < 5) := by omega
  have cc : ∀ i, i < n → w.cell? ⟨b, off + i, none⟩ = some (.int .u8 (zs.getD i 0)) := fun i hi => by
    obtain ⟨b', off', e, hc⟩ := hr.2 i hi
    simp only [Option.some.injEq, Addr.mk.injEq] at e
    obtain ⟨rfl, rfl, _⟩ := e
    exact hc
  have h0 := cc 0 (by omega)
  have h1 := cc 1 (by omega)
  have h2 := cc 2 (by omega)
  have h3 := cc 3 (by omega)
  have h4 := cc 4 (by omega)
  rw [Nat.add_zero] at h0
  have b0 := hby 0
  have b1 := hby 1
  have b2 := hby 2
  have b3 := hby 3
  have b4 := hby 4
  rw [hm] at h4 b4
  have HBY := hide hby
  have HCC := hide cc
  have HCO : Hid (∀ i, compOf zs i = fun j => if j = 0 then zs.getD (5 + 3 * i) 0 else if j = 1 then zs.getD (5 + 3 * i + 1) 0 / 16 else if j = 2 then zs.getD (5 + 3 * i + 1) 0 % 16 else zs.getD (5 + 3 * i + 2) 0) := fun i => rfl
  have G0 : Hid (w.grownBy (w.alloc (.cells #[.int .i64 0, .int .i64 0, .int .i64 0, .int .i64 0, .int .i64 0, .int .i64 0, .int .i64 0, .int .i64 0, .int .i64 0, .int .i64 0, .int .i64 0, .int .i64 0, .int .i64 0, .int .i64 0, .int .i64 0, .int .i64 0, .int .i64 0, .int .i64 0, .int .i64 0, .int .i64 0, .int .i64 0] 80)) none) := grown_alloc (World.grownBy.refl _ _) _
  have HB0 := hide (heap_alloc_new w (.cells #[.int .i64 0, .int .i64 0, .int .i64 0, .int .i64 0, .int .i64 0, .int .i64 0, .int .i64 0, .int .i64 0, .int .i64 0, .int .i64 0, .int .i64 0, .int .i64 0, .int .i64 0, .int .i64 0, .int .i64 0, .int .i64 0, .int .i64 0, .int .i64 0, .int .i64 0, .int .i64 0, .int .i64 0] 80))
  have hgs : w.heap.size < (w.alloc (.cells #[.int .i64 0, .int .i64 0, .int .i64 0, .int .i64 0, .int .i64 0, .int .i64 0, .int .i64 0, .int .i64 0, .int .i64 0, .int .i64 0, .int .i64 0, .int .i64 0, .int .i64 0, .int .i64 0, .int .i64 0, .int .i64 0, .int .i64 0, .int .i64 0, .int .i64 0, .int .i64 0, .int .i64 0] 80)).heap.size := by simp
  have hgsz : (w.alloc (.cells #[.int .i64 0, .int .i64 0, .int .i64 0, .int .i64 0, .int .i64 0, .int .i64 0, .int .i64 0, .int .i64 0, .int .i64 0, .int .i64 0, .int .i64 0, .int .i64 0, .int .i64 0, .int .i64 0, .int .i64 0, .int .i64 0, .int .i64 0, .int .i64 0, .int .i64 0, .int .i64 0, .int .i64 0] 80)).heap.size = w.heap.size + 1 := by simp
  have HGSZ := hide hgsz
  clear hr hby cc hm hgsz
  generalize zs.getD 0 0 = x0 at *
  generalize zs.getD 1 0 = x1 at *
  generalize zs.getD 2 0 = x2 at *
  generalize zs.getD 3 0 = x3 at *
  have v0 := i64_in x0 (by omega)
  have v1 := i64_in x1 (by omega)
  have v2 := i64_in x2 (by omega)
  have v3 := i64_in x3 (by omega)
  have v4 := i64_in (m : Int) (by omega)
  have u1 := i64_in (x1 + 1) (by omega)
  have u2 := i64_in (x2 + 1) (by omega)
  have i0 : 0 < n := by omega
  have i1 : (1 : Int) < (n : Int) := by omega
  have i2 : (2 : Int) < (n : Int) := by omega
  have i3 : (3 : Int) < (n : Int) := by omega
  have i4 : (4 : Int) < (n : Int) := by omega
  go_enter Try.func49, Try.ntmps49
  go_wp2
  generalize (w.alloc (.cells #[.int .i64 0, .int .i64 0, .int .i64 0, .int .i64 0, .int .i64 0, .int .i64 0, .int .i64 0, .int .i64 0, .int .i64 0, .int .i64 0, .int .i64 0, .int .i64 0, .int .i64 0, .int .i64 0, .int .i64 0, .int .i64 0, .int .i64 0, .int .i64 0, .int .i64 0, .int .i64 0, .int .i64 0] 80)) = wx at *
  have k0 := (unhide G0).cell h0 (by simp)
  have k1 := (unhide G0).cell h1 (by simp)
  have k2 := (unhide G0).cell h2 (by simp)
  have k3 := (unhide G0).cell h3 (by simp)
  have k4 := (unhide G0).cell h4 (by simp)
  refine wp_region_noPanic ?_
  refine wp_region_tail (fun w' => w'.cell? ⟨b, off, none⟩ = some (.int .u8 x0) ∧ w'.cell? ⟨b, off + 1, none⟩ = some (.int .u8 x1) ∧ w'.cell? ⟨b, off + 2, none⟩ = some (.int .u8 x2) ∧ w'.cell? ⟨b, off + 3, none⟩ = some (.int .u8 x3) ∧ w'.cell? ⟨b, off + 4, none⟩ = some (.int .u8 m)) [true, true, true, true, true, true, true, true, true, true, true, true, true, true, true, true, true, true, true, true, true, true, true, false, false] (by kernel_rfl) (fun _ _ _ _ _ h => h) rfl (by kernel_rfl) ⟨k0, k1, k2, k3, k4⟩ ?_
  clear h0 h1 h2 h3 h4
  iterate 23
    refine heldF_take (v := ?_) (Or.inl ⟨by rfl, ?_⟩) ?_
    rotate_left 1
    · intro w' hSw
      try dsimp only at hSw
      go_simp
      try with_reducible rfl
    simp only [Act.put, List.setIfInBounds_toArray, List.set_cons_zero, List.set_cons_succ]
  refine heldF_skip (heldF_skip (heldF_nil ?_))
  iterate 23 refine tailF_skip ?_
  have HF0 := hide (fx_new x0 (x1 + 1) (x2 + 1) x3 m)
  have HB1 := hide (heap_alloc_new wx.drew (.cells #[.int .i64 0, .int .i64 0, .int .i64 0, .int .i64 0, .int .i64 0, .int .i64 0, .int .i64 0, .int .i64 0, .int .i64 0, .int .i64 0, .int .i64 0, .int .i64 0, .int .i64 0, .int .i64 0, .int .i64 0, .int .i64 0, .int .i64 0, .int .i64 0, .int .i64 0, .int .i64 0, .int .i64 0] 80))
  have G1 : wx.grownBy (wx.drew.alloc (.cells #[.int .i64 0, .int .i64 0, .int .i64 0, .int .i64 0, .int .i64 0, .int .i64 0, .int .i64 0, .int .i64 0, .int .i64 0, .int .i64 0, .int .i64 0, .int .i64 0, .int .i64 0, .int .i64 0, .int .i64 0, .int .i64 0, .int .i64 0, .int .i64 0, .int .i64 0, .int .i64 0, .int .i64 0] 80)) none := grown_alloc (grown_drew (World.grownBy.refl _ _)) _
  refine tailF_step (fun K hK => ?_)
  go_simp
  refine hK.out _ _ ⟨G1.cell k0 (by simp), G1.cell k1 (by simp), G1.cell k2 (by simp), G1.cell k3 (by simp), G1.cell k4 (by simp)⟩ ?_
  clear hK K
  refine tailF_step (fun K hK => ?_)
  rw [if_pos (by rfl)]
  refine wp_store_row 80 _ _ rfl wx.heap.size rfl _ rfl #[.int .i64 0, .int .i64 0, .int .i64 0, .int .i64 0, .int .i64 0, .int .i64 0, .int .i64 0, .int .i64 0, .int .i64 0, .int .i64 0, .int .i64 0, .int .i64 0, .int .i64 0, .int .i64 0, .int .i64 0, .int .i64 0, .int .i64 0, .int .i64 0, .int .i64 0, .int .i64 0, .int .i64 0] 80 (unhide HB1) rfl (by kernel_rfl) (unhide HF0).one ?_
  intro w3 hB3 g3
  have g3' : wx.grownBy w3 none := grown_new G1 g3 (fun g e => by simp at e; omega)
  refine hK.out _ _ ⟨g3'.cell k0 (by simp), g3'.cell k1 (by simp), g3'.cell k2 (by simp), g3'.cell k3 (by simp), g3'.cell k4 (by simp)⟩ ?_
  refine tailF_nil (NoPanic.normal ?_)
  clear hK K g3 G1 HB1 k0 k1 k2 k3 k4 v0 v1 v2 v3 v4 u1 u2
  simp only [Act.put]
  generalize (#[.int .i64 x0, .int .i64 (x1 + 1), .int .i64 (x2 + 1), .int .i64 x3, .int .i64 m, .int .i64 0, .int .i64 0, .int .i64 0, .int .i64 0, .int .i64 0, .int .i64 0, .int .i64 0, .int .i64 0, .int .i64 0, .int .i64 0, .int .i64 0, .int .i64 0, .int .i64 0, .int .i64 0, .int .i64 0, .int .i64 0] : Array Value) = X0 at *
  have hs0 := (unhide HF0).size
  have cb := fx_heads (unhide HF0) hB3
  have HBR := hide ((g3'.block w.heap.size hgs (by simp)).trans (unhide HB0))
  have HB3 := hide hB3
  have hsz3 : w.heap.size + 1 < w3.heap.size := by have h1 := (Array.getElem?_eq_some_iff.1 hB3).1; have h2 := unhide HGSZ; omega
  have hwxz : w.heap.size < wx.heap.size := hgs
  have hne : w.heap.size ≠ wx.heap.size := by omega
  clear hB3
  by_cases hm4 : m ≤ 4
  · have hd4 : decide ((4 : Int) < (m : Int)) = false := decide_eq_false (by omega)
    go_wp2_with (refine wpList_load_row rfl 80 _ rfl wx.heap.size rfl X0 80 (unhide HB3) _ Try.underlying80 rfl (by rw [hs0]; kernel_rfl) ?_)
    refine (sizeFx X0 _ _ _ _ _ _ (unhide HF0) b4 _).mono ?_
    rintro e w4 ⟨rfl, g4⟩
    have G4 := grown_trans g3' g4
    have HBR4 := hide ((g4.block w.heap.size (by omega) (by simp)).trans (unhide HBR))
    have HB4 := hide ((g4.block wx.heap.size (Array.getElem?_eq_some_iff.1 (unhide HB3)).1 (by simp)).trans (unhide HB3))
    clear cb g4 g3'
    by_cases hlen : (n : Int) = 5 + 3 * (m : Int)
    · have hdl : ((n : Int) != 5 + 3 * (m : Int)) = false := by simp [hlen]
      have hnm : n = 5 + 3 * m := by omega
      have HLEN := hide hlen
      have HNM := hide hnm
      have cb := fx_heads (unhide HF0) (unhide HB4)
      clear hlen hnm
      go_wp2
      go_loopw [45] (fun i wr => ∃ (k : Nat) (X : Array Value), k ≤ m ∧ i = .int .i64 k ∧ wr.heap[wx.heap.size]? = some (.cells X 80 (0, 0)) ∧ Fx X x0 (x1 + 1) (x2 + 1) x3 m (fun i j => if i < k then compOf zs i j else 0) ∧ wx.grownBy wr none) (fun i _ => m - (intOf i).toNat)
      case atStart => exact ⟨0, X0, Nat.zero_le _, rfl, unhide HB4, by simpa using unhide HF0, G4⟩
      case round =>
        obtain ⟨k, X, hk, rfl, hBk, hFk, hgk⟩ := hrel
        clear cb
        by_cases hlt2 : k < m
        · have hkn : 5 + 3 * k + 3 ≤ n := by have := unhide HNM; omega
          have hcc : ¬ cap = 5 + 3 * k := by omega
          have GW := grown_trans (unhide G0) hgk
          have d0 := GW.cell (unhide HCC (5 + 3 * k) (by omega)) (by simp)
          have d1 := GW.cell (unhide HCC (5 + 3 * k + 1) (by omega)) (by simp)
          have d2 := GW.cell (unhide HCC (5 + 3 * k + 2) (by omega)) (by simp)
          rw [← Nat.add_assoc] at d1 d2
          have e0 := unhide HBY (5 + 3 * k)
          have e1 := unhide HBY (5 + 3 * k + 1)
          have e2 := unhide HBY (5 + 3 * k + 2)
          have HCK := hide (unhide HCO k)
          have D0 := hide d0
          have D1 := hide d1
          have D2 := hide d2
          have HFK := hide hFk
          have HBK := hide hBk
          clear GW d0 d1 d2 hFk hBk
          generalize zs.getD (5 + 3 * k) 0 = y0 at *
          generalize zs.getD (5 + 3 * k + 1) 0 = y1 at *
          generalize zs.getD (5 + 3 * k + 2) 0 = y2 at *
          go_wp2_with fail
          refine (readComp b (off + (5 + 3 * k)) (n - (5 + 3 * k)) (cap - (5 + 3 * k)) y0 y1 y2 wr (by omega) (unhide D0) (unhide D1) (unhide D2) e0 e1 e2).mono ?_
          rintro e w5 ⟨rfl, g5⟩
          have hB5 := (g5.block wx.heap.size (Array.getElem?_eq_some_iff.1 (unhide HBK)).1 (by simp)).trans (unhide HBK)
          have G5 := grown_trans hgk g5
          clear g5 hgk
          have hsX := (unhide HFK).size
          have hk4 : (k : Int) < 4 := by omega
          go_wp2_with (refine wpList_store_part rfl 77 _ _ rfl wx.heap.size (5 + k * 4) rfl #[.int .i64 y0, .int .i64 (y1 / 16), .int .i64 (y1 % 16), .int .i64 y2] rfl X 80 hB5 (by rw [hsX]; show 5 + k * 4 + 4 ≤ 21; omega) (by kernel_rfl) (all_four _ _ _ _) ?_; intro w6 hB6 g6)
          have HF6 := hide (fx_put (unhide HFK) k (by omega) y0 (y1 / 16) (y1 % 16) y2)
          have HF7 := hide ((unhide HF6).congr (E := fun i j => if i < k + 1 then compOf zs i j else (0 : Int)) (fun i j => by
            by_cases e : i = k
            · subst e
              have e1 : (if i < i + 1 then compOf zs i j else (0 : Int)) = compOf zs i j := if_pos (by omega)
              rw [e1, unhide HCK, if_pos rfl]
            · rw [if_neg e]
              by_cases e2 : i < k
              · simp only [if_pos e2, if_pos (show i < k + 1 by omega)]
              · simp only [if_neg e2, if_neg (show ¬ i < k + 1 by omega)]))
          have G6 : wx.grownBy w6 none := grown_new G5 g6 (fun g e => by simp at e; omega)
          clear g6 G5 hB5 HF6
          go_wp2
          go_roundw
          case rel => exact ⟨k + 1, _, by omega, by go_num, unhide hB6, unhide HF7, G6⟩
          case measure => simp [intOf]; omega
        · have hkm : k = m := by omega
          subst hkm
          have HFK := hide hFk
          have hsX := hFk.size
          have HBRK := hide ((hgk.block w.heap.size hgs (by simp)).trans (unhide HB0))
          clear hFk
          have HD : Hid (∀ i, i < k → (fun i j => if i < k then compOf zs i j else (0 : Int)) i = compOf zs i) := fun i hi => by funext j; simp only [if_pos hi]
          have HFB : Hid (frameB x0 (x1 + 1) (x2 + 1) x3 k (fun i j => if i < k then compOf zs i j else (0 : Int)) = ok) := by
            unfold Hid
            rw [← unhide HOK, decide_eq_true (unhide HLEN), Bool.true_and, frameB, frameB, compsB_congr (fun _ => unhide HD)]
          generalize (fun i j => if i < k then compOf zs i j else (0 : Int)) = D at *
          obtain ⟨R, HRR⟩ : ∃ R : Array Value, Hid ((if frameB x0 (x1 + 1) (x2 + 1) x3 k D = true then X else #[.int .i64 0, .int .i64 0, .int .i64 0, .int .i64 0, .int .i64 0, .int .i64 0, .int .i64 0, .int .i64 0, .int .i64 0, .int .i64 0, .int .i64 0, .int .i64 0, .int .i64 0, .int .i64 0, .int .i64 0, .int .i64 0, .int .i64 0, .int .i64 0, .int .i64 0, .int .i64 0, .int .i64 0]) = R) := ⟨_, rfl⟩
          have HRS : Hid (R.size = 21) := by unfold Hid; rw [← unhide HRR]; split; exact hsX; rfl
          have HRO : Hid (R.all (·.oneCell') = true) := by unfold Hid; rw [← unhide HRR]; split; exact (unhide HFK).one; exact fz_one
          go_wp2_with (refine wpList_load_row rfl 80 _ rfl wx.heap.size rfl X 80 hBk _ Try.underlying80 rfl (by rw [hsX]; kernel_rfl) ?_)
          refine (orNone X x0 (x1 + 1) (x2 + 1) x3 k D (unhide HFK) R HRR _).mono ?_
          rintro e w5 ⟨rfl, g5⟩
          have hBr5 := (g5.block w.heap.size (by have := hgk.size; omega) (by simp)).trans (unhide HBRK)
          have G5 := grown_trans (grown_trans (unhide G0) hgk) g5
          clear hgk g5
          go_wp2_with (refine wpList_store_row rfl 80 _ _ rfl w.heap.size rfl R rfl #[.int .i64 0, .int .i64 0, .int .i64 0, .int .i64 0, .int .i64 0, .int .i64 0, .int .i64 0, .int .i64 0, .int .i64 0, .int .i64 0, .int .i64 0, .int .i64 0, .int .i64 0, .int .i64 0, .int .i64 0, .int .i64 0, .int .i64 0, .int .i64 0, .int .i64 0, .int .i64 0, .int .i64 0] 80 hBr5 (unhide HRS).symm (by rw [unhide HRS]; kernel_rfl) (unhide HRO) ?_; intro w6 hB6 g6)
          refine bodyPost_ret (v := .agg R) ?_ rfl ⟨R, rfl, fun hb => ?_, fun hb => ?_, ?_⟩
          · rw [results_cell1 rfl]
            exact loadFx (unhide HRS) hB6
          · rw [← unhide HRR, unhide HFB, hb]; rfl
          · refine ⟨D, ?_, unhide HD⟩
            have e : R = X := by rw [← unhide HRR, unhide HFB, hb]; rfl
            rw [e]; exact unhide HFK
          · exact grown_new G5 g6 (fun g e => by simp at e; omega)
    · have hdl : ((n : Int) != 5 + 3 * (m : Int)) = true := by simp [hlen]
      have HF : Hid (ok = false) := by unfold Hid; rw [← unhide HOK, decide_eq_false hlen]; rfl
      have hBr := unhide HBR4
      clear hlen
      go_wp2_with (refine wpList_store_row rfl 80 _ _ rfl w.heap.size rfl #[.int .i64 0, .int .i64 0, .int .i64 0, .int .i64 0, .int .i64 0, .int .i64 0, .int .i64 0, .int .i64 0, .int .i64 0, .int .i64 0, .int .i64 0, .int .i64 0, .int .i64 0, .int .i64 0, .int .i64 0, .int .i64 0, .int .i64 0, .int .i64 0, .int .i64 0, .int .i64 0, .int .i64 0] rfl #[.int .i64 0, .int .i64 0, .int .i64 0, .int .i64 0, .int .i64 0, .int .i64 0, .int .i64 0, .int .i64 0, .int .i64 0, .int .i64 0, .int .i64 0, .int .i64 0, .int .i64 0, .int .i64 0, .int .i64 0, .int .i64 0, .int .i64 0, .int .i64 0, .int .i64 0, .int .i64 0, .int .i64 0] 80 hBr rfl (by kernel_rfl) fz_one ?_; intro w6 hB6 g6)
      refine bodyPost_ret (v := .agg #[.int .i64 0, .int .i64 0, .int .i64 0, .int .i64 0, .int .i64 0, .int .i64 0, .int .i64 0, .int .i64 0, .int .i64 0, .int .i64 0, .int .i64 0, .int .i64 0, .int .i64 0, .int .i64 0, .int .i64 0, .int .i64 0, .int .i64 0, .int .i64 0, .int .i64 0, .int .i64 0, .int .i64 0]) ?_ rfl ⟨_, rfl, fun _ => rfl, fun hb => ?_, ?_⟩
      · rw [results_cell1 rfl]
        exact loadFx rfl hB6
      · rw [unhide HF] at hb; cases hb
      · exact grown_new (grown_trans (unhide G0) G4) g6 (fun g e => by simp at e; omega)
  · have hd4 : decide ((4 : Int) < (m : Int)) = true := decide_eq_true (by omega)
    have HF : Hid (ok = false) := by
      unfold Hid
      rw [← unhide HOK, frameB, compsB, decide_eq_false (p := 1 ≤ (m : Int) ∧ (m : Int) ≤ 4) (by omega)]
      simp
    have hBr := unhide HBR
    go_wp2_with (refine wpList_store_row rfl 80 _ _ rfl w.heap.size rfl #[.int .i64 0, .int .i64 0, .int .i64 0, .int .i64 0, .int .i64 0, .int .i64 0, .int .i64 0, .int .i64 0, .int .i64 0, .int .i64 0, .int .i64 0, .int .i64 0, .int .i64 0, .int .i64 0, .int .i64 0, .int .i64 0, .int .i64 0, .int .i64 0, .int .i64 0, .int .i64 0, .int .i64 0] rfl #[.int .i64 0, .int .i64 0, .int .i64 0, .int .i64 0, .int .i64 0, .int .i64 0, .int .i64 0, .int .i64 0, .int .i64 0, .int .i64 0, .int .i64 0, .int .i64 0, .int .i64 0, .int .i64 0, .int .i64 0, .int .i64 0, .int .i64 0, .int .i64 0, .int .i64 0, .int .i64 0, .int .i64 0] 80 hBr rfl (by kernel_rfl) fz_one ?_; intro w6 hB6 g6)
    refine bodyPost_ret (v := .agg #[.int .i64 0, .int .i64 0, .int .i64 0, .int .i64 0, .int .i64 0, .int .i64 0, .int .i64 0, .int .i64 0, .int .i64 0, .int .i64 0, .int .i64 0, .int .i64 0, .int .i64 0, .int .i64 0, .int .i64 0, .int .i64 0, .int .i64 0, .int .i64 0, .int .i64 0, .int .i64 0, .int .i64 0]) ?_ rfl ⟨_, rfl, fun _ => rfl, fun hb => ?_, ?_⟩
    · rw [results_cell1 rfl]
      exact loadFx rfl hB6
    · rw [unhide HF] at hb; cases hb
    · exact grown_new (grown_trans (unhide G0) g3') g6 (fun g e => by simp at e; omega)

end Go.Proofs.Ytoeehfjbnbbijaa
