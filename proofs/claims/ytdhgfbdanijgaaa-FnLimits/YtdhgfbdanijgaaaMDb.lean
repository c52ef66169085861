/-
  FrameImpl3, GeoPure, GeoImpl, RangeOwn, Spots, SpotNum, HeldTail, RangeStop, RowOps.
-/
import Derived.Laws.CopyOwn
import Derived.Laws.ResultCell
import Derived.Deep.RegionHeld3
import Derived.RangeFuncNested
import Derived.RangeFuncBound
import Derived.RangeFuncCalls
import Derived.RangeFuncLeaves
import Derived.Shelf.Abstract
import Derived.WalkKit
import Derived.OwnWalkIn
import Derived.TacticsInMore
import Derived.LoopNIn
import Derived.LoopIn
import Derived.Shelf.RegionOpen
import Derived.OrdersHeld
import Derived.Deep.RegionHeld
import Derived.OrdersIn
import Derived.Deep.WholeRow
import Derived.Deep.MidRow
import Derived.Test.YtdhgfbdanijgaaaMDa

namespace Go.Proofs.Ytdhgfbdanijgaaa
open Go.RowKit

theorem grown_setRow (w : World) (g : Nat) (X : Array Value) : w.grownBy (w.setRow g X) (some g) :=
  ⟨rfl, rfl, rfl, by simp [World.setRow], fun k _ hk => setRow_other w g k X (fun e => hk (by simp [e]))⟩

theorem wpList_store_row {P : Program} {ops : Array Oper} {rest : List Oper} {op : Oper} {a : Act} {w : World} {Q : Exit → Act → World → Prop} (hw : Region.wanted op (yielded ops a.tmps) = true) (ty : TypeId) (x y : Operand) (ho : op.op = .store ty x y)
    (b : Nat) (hx : a.eval x = .pointer (some ⟨b, 0, none⟩)) (X : Array Value) (hy : a.eval y = .agg X) (Y : Array Value) (t : TypeId) (hb : w.heap[b]? = some (.cells Y t (0, 0))) (hYX : Y.size = X.size)
    (hi : (P.info? ty).map (·.size) = some X.size) (h1 : X.all (·.oneCell') = true)
    (h : ∀ w', w'.heap[b]? = some (.cells X t (0, 0)) → w.grownBy w' (some b) → wpList P ops Q rest (a.put op.dst undef) w') : wpList P ops Q (op :: rest) a w :=
  BigFrame.wpList_want hw fun K hK => by
    unfold Oper.wp execOp
    simp only [ho, hx, hy, Instr.storeAt, Instr.sureAddr, Sem.run_bind, Sem.run_pure, Result.andThen_ok, run_storeVar_row w b t ty Y X hb hi hYX h1]
    exact hK _ _ (h _ (setRow_heap w b Y X t _ hb) (grown_setRow w b X))

/-- Copying elements of so many cells each. -/
theorem run_copyK {P : Program} (w : World) (dT sT ty elem : TypeId) (sz : Nat) (g off dLen dCap : Nat) (sp : Option Addr) (sLen sCap : Nat) (cur : Array Value) (t : TypeId) (cs : List Value)
    (hu : P.underlying dT = some (.slice elem)) (hs : (P.info? elem).map (·.size) = some sz) (hg : w.heap[g]? = some (.cells cur t (0, 0))) (hn : cs.length = Nat.min sLen dLen * sz)
    (hpos : 0 < cs.length → ∃ ad, sp = some ad ∧ ∀ j v, cs[j]? = some v → w.cell? (ad.add j) = some v) (hfit : off + cs.length ≤ cur.size) (h1 : ∀ v ∈ cs, v.oneCell' = true) :
    (Builtin.copy_ #[dT, sT] ty #[.slice (some ⟨g, off, none⟩) dLen dCap, .slice sp sLen sCap]).run P w = .ok (goInt (Nat.min sLen dLen)) (w.setRow g (cur.toList.take off ++ cs ++ cur.toList.drop (off + cs.length)).toArray) := by
  have hst := run_storeCells_at P g off t cs 0 cur w hg (by simpa using hfit) h1
  cases hq : P.info? elem with
  | none => simp [hq] at hs
  | some i =>
    have hi : i.size = sz := by simpa [hq] using hs
    by_cases h0 : cs.length = 0
    · obtain rfl : cs = [] := List.eq_nil_of_length_eq_zero h0
      have hz : Nat.min sLen dLen * sz = 0 := by simpa using hn.symm
      have hl : ∀ (x : Addr), (loadCells x 0).run P w = .ok #[] w := fun x => by simpa using run_loadCells_list (P := P) w x [] (by simp)
      have hst' : (storeCells ⟨g, off, none⟩ [] 0).run P w = .ok () (w.setRow g cur) := by simpa using hst
      cases sp <;> simp [Builtin.copy_, run_underlying hu, Builtin.lenOf, Builtin.firstCells, sizeOf, typeInfo, hq, hi, hz, hl, hst']
    · obtain ⟨ad, rfl, hsrc⟩ := hpos (by omega)
      have hl := run_loadCells_list (P := P) w ad cs hsrc
      simp [Builtin.copy_, run_underlying hu, Builtin.lenOf, Builtin.firstCells, sizeOf, typeInfo, hq, hi, ← hn, hl, hst]

theorem step_copyK {P : Program} {ops : Array Oper} {o : Oper} {a : Act} {w : World} {K : Act → World → Prop} {Q : Exit → Act → World → Prop} {E : Prop} (hgd : o.guard = none) (d s : Operand) (dT sT : TypeId)
    (ho : o.op = .call { callee := .builtin .copy, args := #[d, s], argTypes := #[dT, sT] }) (elem : TypeId) (hu : P.underlying dT = some (.slice elem)) (sz : Nat) (hsz : (P.info? elem).map (·.size) = some sz)
    (g off dLen dCap : Nat) (sp : Option Addr) (sLen sCap : Nat) (hd : a.eval d = .slice (some ⟨g, off, none⟩) dLen dCap) (hs : a.eval s = .slice sp sLen sCap)
    (cur : Array Value) (t : TypeId) (hg : w.heap[g]? = some (.cells cur t (0, 0))) (cs : List Value) (hn : cs.length = Nat.min sLen dLen * sz)
    (hpos : 0 < cs.length → ∃ ad, sp = some ad ∧ ∀ j v, cs[j]? = some v → w.cell? (ad.add j) = some v) (hfit : off + cs.length ≤ cur.size) (h1 : ∀ v ∈ cs, v.oneCell' = true)
    (h : ∀ w', Hid (w'.heap[g]? = some (.cells (cur.toList.take off ++ cs ++ cur.toList.drop (off + cs.length)).toArray t (0, 0))) → w.grownBy w' (some g) → K (a.put o.dst (goInt (Nat.min sLen dLen))) w') :
    if Region.wanted o (yielded ops a.tmps) = true then Oper.wp P o a w K Q else E := by
  have hw : Region.wanted o (yielded ops a.tmps) = true := by simp [Region.wanted, hgd]
  rw [if_pos hw]
  have hrun := run_copyK (P := P) w dT sT o.type elem sz g off dLen dCap sp sLen sCap cur t cs hu hsz hg hn hpos hfit h1
  unfold Oper.wp
  simp only [execOp, ho, resolve, invoke, builtin, Sem.run_bind, Sem.run_pure, Result.andThen_ok, List.map_toArray, List.map_cons, List.map_nil, hd, hs, hrun]
  exact h _ (setRow_heap w g _ _ t _ hg) (grown_setRow w g _)

theorem Fx.one {X : Array Value} {p wd ht rs n : Int} {C : Nat → Nat → Int} (hX : Fx X p wd ht rs n C) : X.all (·.oneCell') = true := by
  rw [Array.all_eq_true]
  intro i hi
  have hs := hX.size
  have key : ∀ v, X[i]? = some v → v.oneCell' = true → (X[i]).oneCell' = true := by
    intro v hv h
    rw [Array.getElem?_eq_getElem hi] at hv
    simp at hv
    rw [hv]; exact h
  by_cases h5 : i < 5
  · have : i = 0 ∨ i = 1 ∨ i = 2 ∨ i = 3 ∨ i = 4 := by omega
    rcases this with rfl | rfl | rfl | rfl | rfl
    · exact key _ hX.c0 rfl
    · exact key _ hX.c1 rfl
    · exact key _ hX.c2 rfl
    · exact key _ hX.c3 rfl
    · exact key _ hX.c4 rfl
  · have e : i = 5 + (i - 5) / 4 * 4 + (i - 5) % 4 := by omega
    have hc := hX.comp ((i - 5) / 4) ((i - 5) % 4) (by omega) (by omega)
    rw [← e] at hc
    exact key _ hc rfl

theorem loadFx {w : World} {g : Nat} {X : Array Value} (hs : X.size = 21) (hb : w.heap[g]? = some (.cells X 51 (0, 0))) : (loadVar 51 ⟨g, 0, none⟩).run Try.prog w = .ok (.agg X) w :=
  run_loadVar_row w g 51 51 X (0, 0) _ hb Try.underlying51 rfl (by rw [hs]; kernel_rfl)

theorem results_cell1 {fn : Func} {p : Tmp} {ty : TypeId} (h : fn.results = #[.cell p ty]) (tmps : Array Value) (P : Program) (w : World) :
    (results fn tmps).run P w = ((asAddr (tmps.getD p undef)).run P w).andThen fun a w₁ => (loadVar ty a).run P w₁ := by
  simp only [results, h]
  simp [Sem.run_bind, Result.andThen]

set_option maxRecDepth 100000 in
set_option maxHeartbeats 1600000 in
theorem orNone (X : Array Value) (p wd ht rs : Int) (n : Nat) (C : Nat → Nat → Int) (hX : Fx X p wd ht rs n C) (R : Array Value) (HR : Hid ((if frameB p wd ht rs n C = true then X else #[.int .i64 0, .int .i64 0, .int .i64 0, .int .i64 0, .int .i64 0, .int .i64 0, .int .i64 0, .int .i64 0, .int .i64 0, .int .i64 0, .int .i64 0, .int .i64 0, .int .i64 0, .int .i64 0, .int .i64 0, .int .i64 0, .int .i64 0, .int .i64 0, .int .i64 0, .int .i64 0, .int .i64 0]) = R)) (w : World) :
    Calls Try.prog 23 #[.agg X] w fun e w' => e = .returned (.agg R) ∧ w.grownBy w' none := by
  have HX := hide hX
  have hs := hX.size
  obtain ⟨t1, HT1⟩ : ∃ t1, Hid (headB p wd ht rs = t1) := ⟨_, rfl⟩
  obtain ⟨t2, HT2⟩ : ∃ t2, Hid (compsB n C = t2) := ⟨_, rfl⟩
  have HH : Hid (frameB p wd ht rs n C = (t1 && t2)) := by unfold Hid; rw [frameB, unhide HT1, unhide HT2]
  obtain ⟨Z, hZ⟩ : ∃ Z, (#[.int .i64 0, .int .i64 0, .int .i64 0, .int .i64 0, .int .i64 0, .int .i64 0, .int .i64 0, .int .i64 0, .int .i64 0, .int .i64 0, .int .i64 0, .int .i64 0, .int .i64 0, .int .i64 0, .int .i64 0, .int .i64 0, .int .i64 0, .int .i64 0, .int .i64 0, .int .i64 0, .int .i64 0] : Array Value) = Z := ⟨_, rfl⟩
  have hsz : Z.size = 21 := by rw [← hZ]; rfl
  have HZ1 : Hid (Z.all (·.oneCell') = true) := by unfold Hid; rw [← hZ]; decide +kernel
  have HZ := hide hZ
  rw [hZ] at HR
  have hB0 : ((w.alloc (.cells X 51)).alloc (.cells #[.int .i64 0, .int .i64 0, .int .i64 0, .int .i64 0, .int .i64 0, .int .i64 0, .int .i64 0, .int .i64 0, .int .i64 0, .int .i64 0, .int .i64 0, .int .i64 0, .int .i64 0, .int .i64 0, .int .i64 0, .int .i64 0, .int .i64 0, .int .i64 0, .int .i64 0, .int .i64 0, .int .i64 0] 51)).heap[w.heap.size]? = some (.cells X 51 (0, 0)) := by rw [Below.heap_alloc _ _ _ (by simp)]; exact heap_alloc_new _ _
  have hB1 : ((w.alloc (.cells X 51)).alloc (.cells #[.int .i64 0, .int .i64 0, .int .i64 0, .int .i64 0, .int .i64 0, .int .i64 0, .int .i64 0, .int .i64 0, .int .i64 0, .int .i64 0, .int .i64 0, .int .i64 0, .int .i64 0, .int .i64 0, .int .i64 0, .int .i64 0, .int .i64 0, .int .i64 0, .int .i64 0, .int .i64 0, .int .i64 0] 51)).heap[w.heap.size + 1]? = some (.cells #[.int .i64 0, .int .i64 0, .int .i64 0, .int .i64 0, .int .i64 0, .int .i64 0, .int .i64 0, .int .i64 0, .int .i64 0, .int .i64 0, .int .i64 0, .int .i64 0, .int .i64 0, .int .i64 0, .int .i64 0, .int .i64 0, .int .i64 0, .int .i64 0, .int .i64 0, .int .i64 0, .int .i64 0] 51 (0, 0)) := by have := heap_alloc_new (w.alloc (.cells X 51)) (.cells #[.int .i64 0, .int .i64 0, .int .i64 0, .int .i64 0, .int .i64 0, .int .i64 0, .int .i64 0, .int .i64 0, .int .i64 0, .int .i64 0, .int .i64 0, .int .i64 0, .int .i64 0, .int .i64 0, .int .i64 0, .int .i64 0, .int .i64 0, .int .i64 0, .int .i64 0, .int .i64 0, .int .i64 0] 51); simpa using this
  have hgs : ((w.alloc (.cells X 51)).alloc (.cells #[.int .i64 0, .int .i64 0, .int .i64 0, .int .i64 0, .int .i64 0, .int .i64 0, .int .i64 0, .int .i64 0, .int .i64 0, .int .i64 0, .int .i64 0, .int .i64 0, .int .i64 0, .int .i64 0, .int .i64 0, .int .i64 0, .int .i64 0, .int .i64 0, .int .i64 0, .int .i64 0, .int .i64 0] 51)).heap.size = w.heap.size + 2 := by simp
  have G0 : w.grownBy ((w.alloc (.cells X 51)).alloc (.cells #[.int .i64 0, .int .i64 0, .int .i64 0, .int .i64 0, .int .i64 0, .int .i64 0, .int .i64 0, .int .i64 0, .int .i64 0, .int .i64 0, .int .i64 0, .int .i64 0, .int .i64 0, .int .i64 0, .int .i64 0, .int .i64 0, .int .i64 0, .int .i64 0, .int .i64 0, .int .i64 0, .int .i64 0] 51)) none := grown_alloc (grown_alloc (World.grownBy.refl _ _) _) _
  clear hX hZ
  have HB0 := hide hB0
  have HB1 := hide hB1
  have HGS := hide hgs
  clear hB0 hB1 hgs
  go_enter Try.func23, Try.ntmps23
  go_wp2_with (refine wpList_load_row rfl 51 _ rfl w.heap.size rfl X 51 (unhide HB0) _ Try.underlying51 rfl (by rw [hs]; kernel_rfl) ?_)
  generalize ((w.alloc (.cells X 51)).alloc (.cells #[.int .i64 0, .int .i64 0, .int .i64 0, .int .i64 0, .int .i64 0, .int .i64 0, .int .i64 0, .int .i64 0, .int .i64 0, .int .i64 0, .int .i64 0, .int .i64 0, .int .i64 0, .int .i64 0, .int .i64 0, .int .i64 0, .int .i64 0, .int .i64 0, .int .i64 0, .int .i64 0, .int .i64 0] 51)) = wx at *
  refine (headOk X p wd ht rs n C (unhide HX) t1 HT1 _).mono ?_
  rintro e w2 ⟨rfl, g2⟩
  have hB0 := (g2.block w.heap.size (by have := unhide HGS; omega) (by simp)).trans (unhide HB0)
  have hB1 := (g2.block (w.heap.size + 1) (by have := unhide HGS; omega) (by simp)).trans (unhide HB1)
  rw [unhide HZ] at hB1
  have G2 := grown_trans G0 g2
  cases t1
  · have HE : Hid (R = Z) := by unfold Hid; rw [← unhide HR, unhide HH]; rfl
    go_wp2_with (refine wpList_store_row rfl 51 _ _ rfl (w.heap.size + 1) rfl Z (congrArg _ (unhide HZ)) Z 51 hB1 rfl (by rw [hsz]; kernel_rfl) (unhide HZ1) ?_; intro w3 hB3 g3)
    refine bodyPost_ret (v := .agg Z) ?_ rfl ⟨by rw [unhide HE], ?_⟩
    · rw [results_cell1 rfl]
      exact loadFx hsz hB3
    · exact grown_new G2 g3 (fun g e => by simp at e; omega)
  · go_wp2_with (refine wpList_load_row rfl 51 _ rfl w.heap.size rfl X 51 hB0 _ Try.underlying51 rfl (by rw [hs]; kernel_rfl) ?_)
    refine (compsOk X p wd ht rs n C (unhide HX) t2 HT2 _).mono ?_
    rintro e w4 ⟨rfl, g4⟩
    have hB0' := (g4.block w.heap.size (by have := unhide HGS; have := g2.size; omega) (by simp)).trans hB0
    have hB1' := (g4.block (w.heap.size + 1) (by have := unhide HGS; have := g2.size; omega) (by simp)).trans hB1
    have G4 := grown_trans G2 g4
    clear hB0 hB1
    cases t2
    · have HE : Hid (R = Z) := by unfold Hid; rw [← unhide HR, unhide HH]; rfl
      go_wp2_with (refine wpList_store_row rfl 51 _ _ rfl (w.heap.size + 1) rfl Z (congrArg _ (unhide HZ)) Z 51 hB1' rfl (by rw [hsz]; kernel_rfl) (unhide HZ1) ?_; intro w3 hB3 g3)
      refine bodyPost_ret (v := .agg Z) ?_ rfl ⟨by rw [unhide HE], ?_⟩
      · rw [results_cell1 rfl]
        exact loadFx hsz hB3
      · exact grown_new G4 g3 (fun g e => by simp at e; omega)
    · have HE : Hid (R = X) := by unfold Hid; rw [← unhide HR, unhide HH]; rfl
      go_wp2_with (first | (refine wpList_load_row rfl 51 _ rfl w.heap.size rfl X 51 hB0' _ Try.underlying51 rfl (by rw [hs]; kernel_rfl) ?_) | (refine wpList_store_row rfl 51 _ _ rfl (w.heap.size + 1) rfl X rfl Z 51 hB1' (by rw [hs, hsz]) (by rw [hs]; kernel_rfl) (unhide HX).one ?_; intro w3 hB3 g3))
      refine bodyPost_ret (v := .agg X) ?_ rfl ⟨by rw [unhide HE], ?_⟩
      · rw [results_cell1 rfl]
        exact loadFx hs hB3
      · exact grown_new G4 g3 (fun g e => by simp at e; omega)

/-- What is read through a slice of components: four numbers each. -/
def RdC (w : World) (ao : Option Addr) (n : Nat) (C : Nat → Nat → Int) : Prop :=
  ∀ i, i < n → ∃ b off, ao = some ⟨b, off, none⟩ ∧ ∀ j, j < 4 → w.cell? ⟨b, off + i * 4 + j, none⟩ = some (.int .i64 (C i j))
theorem RdC.grown {w w' : World} {ao : Option Addr} {n : Nat} {C : Nat → Nat → Int} (h : RdC w ao n C) (hg : w.grownBy w' none) : RdC w' ao n C :=
  fun i hi => by obtain ⟨b, off, e, hc⟩ := h i hi; exact ⟨b, off, e, fun j hj => hg.cell (hc j hj) (by simp)⟩

def compCells (C : Nat → Nat → Int) : Nat → Nat → Value := fun i j => .int .i64 (C i j)

theorem rdC_src {w : World} {ao : Option Addr} {n m : Nat} {C : Nat → Nat → Int} (h : RdC w ao n C) (hm : m ≤ n) : 0 < (rowsK m 4 (compCells C)).length → ∃ ad, ao = some ad ∧ ∀ j v, (rowsK m 4 (compCells C))[j]? = some v → w.cell? (ad.add j) = some v := by
  intro hp
  rw [rowsK_len] at hp
  obtain ⟨b, off, rfl, _⟩ := h 0 (by omega)
  refine ⟨_, rfl, fun j v hv => ?_⟩
  have hj : j < m * 4 := by have := (List.getElem?_eq_some_iff.1 hv).1; rwa [rowsK_len] at this
  obtain ⟨b', off', e, hc⟩ := h (j / 4) (by omega)
  simp only [Option.some.injEq, Addr.mk.injEq] at e
  obtain ⟨rfl, rfl, _⟩ := e
  have hd : j = j / 4 * 4 + j % 4 := by omega
  have hg := rowsK_get m 4 (compCells C) (j / 4) (j % 4) (by omega) (by omega)
  rw [← hd] at hg
  rw [hg] at hv
  simp at hv
  subst hv
  rw [Addr.add_lit]
  have := hc (j % 4) (by omega)
  rw [Nat.add_assoc, ← hd] at this
  exact this

theorem rowsK_one {m k : Nat} {f : Nat → Nat → Value} (h : ∀ i j, (f i j).oneCell' = true) : ∀ v ∈ rowsK m k f, v.oneCell' = true := by
  intro v hv
  obtain ⟨c, _, rfl⟩ := List.mem_map.1 hv
  exact h _ _

/-- The frame's cells behind the copy. -/
theorem fx_copied {cur : Array Value} {p wd ht rs n : Int} {D : Nat → Nat → Int} (h : Fx cur p wd ht rs n D) (m : Nat) (C : Nat → Nat → Int) (hm : m ≤ 4) :
    Fx (cur.toList.take 5 ++ rowsK m 4 (compCells C) ++ cur.toList.drop (5 + (rowsK m 4 (compCells C)).length)).toArray p wd ht rs n (fun i j => if i < m then C i j else D i j) := by
  have hs := h.size
  have hl : (cur.toList.take 5).length = 5 := by simp; omega
  have low : ∀ k, k < 5 → (cur.toList.take 5 ++ rowsK m 4 (compCells C) ++ cur.toList.drop (5 + (rowsK m 4 (compCells C)).length)).toArray[k]? = cur[k]? := by
    intro k hk
    rw [List.getElem?_toArray, List.append_assoc, List.getElem?_append_left (by omega), List.getElem?_take, if_pos hk]
    simp
  refine ⟨by simp [rowsK_len]; omega, (low 0 (by omega)).trans h.c0, (low 1 (by omega)).trans h.c1, (low 2 (by omega)).trans h.c2, (low 3 (by omega)).trans h.c3, (low 4 (by omega)).trans h.c4, fun i j hi hj => ?_⟩
  rw [List.getElem?_toArray]
  by_cases him : i < m
  · rw [List.getElem?_append_left (by rw [List.length_append, hl, rowsK_len]; omega), List.getElem?_append_right (by omega), hl, show 5 + i * 4 + j - 5 = i * 4 + j by omega, rowsK_get m 4 _ i j him hj, if_pos him]
    rfl
  · rw [List.getElem?_append_right (by rw [List.length_append, hl, rowsK_len]; omega), List.length_append, hl, rowsK_len, List.getElem?_drop, if_neg him, show 5 + m * 4 + (5 + i * 4 + j - (5 + m * 4)) = 5 + i * 4 + j by omega]
    have := h.comp i j hi hj
    simpa using this

set_option maxRecDepth 100000 in
set_option maxHeartbeats 1600000 in
theorem fixFrame (p wd ht rs : Int) (ao : Option Addr) (n cap : Nat) (C : Nat → Nat → Int) (w : World) (hr : RdC w ao n C) (hn : n ≤ 4194304) (b : Bool) (HFB : Hid (frameB p wd ht rs n C = b)) :
    Calls Try.prog 16 #[.agg #[.int .i64 p, .int .i64 wd, .int .i64 ht, .int .i64 rs, .slice ao n cap]] w fun e w' => ∃ X, e = .returned (.agg X) ∧ (b = false → X = #[.int .i64 0, .int .i64 0, .int .i64 0, .int .i64 0, .int .i64 0, .int .i64 0, .int .i64 0, .int .i64 0, .int .i64 0, .int .i64 0, .int .i64 0, .int .i64 0, .int .i64 0, .int .i64 0, .int .i64 0, .int .i64 0, .int .i64 0, .int .i64 0, .int .i64 0, .int .i64 0, .int .i64 0]) ∧ (b = true → ∃ D, Fx X p wd ht rs n D ∧ ∀ i, i < n → D i = C i) ∧ w.grownBy w' none := by
  have HR := hide hr
  clear hr
  obtain ⟨X0, hX0⟩ : ∃ X0 : Array Value, #[.int .i64 p, .int .i64 wd, .int .i64 ht, .int .i64 rs, .int .i64 n, .int .i64 0, .int .i64 0, .int .i64 0, .int .i64 0, .int .i64 0, .int .i64 0, .int .i64 0, .int .i64 0, .int .i64 0, .int .i64 0, .int .i64 0, .int .i64 0, .int .i64 0, .int .i64 0, .int .i64 0, .int .i64 0] = X0 := ⟨_, rfl⟩
  have HF0 : Hid (Fx X0 p wd ht rs n (fun _ _ => 0)) := by
    rw [← hX0]
    refine ⟨rfl, rfl, rfl, rfl, rfl, rfl, fun i j hi hj => ?_⟩
    have h1 : i = 0 ∨ i = 1 ∨ i = 2 ∨ i = 3 := by omega
    have h2 : j = 0 ∨ j = 1 ∨ j = 2 ∨ j = 3 := by omega
    rcases h1 with rfl | rfl | rfl | rfl <;> rcases h2 with rfl | rfl | rfl | rfl <;> rfl
  have HX0 := hide hX0
  have HI0 : Hid ((Try.prog.info? 51).map (·.size) = some X0.size) := by unfold Hid; rw [(unhide HF0).size]; kernel_rfl
  have HB2 : Hid ((((w.alloc (.cells #[.int .i64 p, .int .i64 wd, .int .i64 ht, .int .i64 rs, .slice ao n cap] 38)).alloc (.cells #[.int .i64 0, .int .i64 0, .int .i64 0, .int .i64 0, .int .i64 0, .int .i64 0, .int .i64 0, .int .i64 0, .int .i64 0, .int .i64 0, .int .i64 0, .int .i64 0, .int .i64 0, .int .i64 0, .int .i64 0, .int .i64 0, .int .i64 0, .int .i64 0, .int .i64 0, .int .i64 0, .int .i64 0] 51)).alloc (.cells #[.int .i64 0, .int .i64 0, .int .i64 0, .int .i64 0, .int .i64 0, .int .i64 0, .int .i64 0, .int .i64 0, .int .i64 0, .int .i64 0, .int .i64 0, .int .i64 0, .int .i64 0, .int .i64 0, .int .i64 0, .int .i64 0, .int .i64 0, .int .i64 0, .int .i64 0, .int .i64 0, .int .i64 0] 51)).heap[w.heap.size + 1 + 1]? = some (.cells #[.int .i64 0, .int .i64 0, .int .i64 0, .int .i64 0, .int .i64 0, .int .i64 0, .int .i64 0, .int .i64 0, .int .i64 0, .int .i64 0, .int .i64 0, .int .i64 0, .int .i64 0, .int .i64 0, .int .i64 0, .int .i64 0, .int .i64 0, .int .i64 0, .int .i64 0, .int .i64 0, .int .i64 0] 51 (0, 0))) := by
    have := heap_alloc_new ((w.alloc (.cells #[.int .i64 p, .int .i64 wd, .int .i64 ht, .int .i64 rs, .slice ao n cap] 38)).alloc (.cells #[.int .i64 0, .int .i64 0, .int .i64 0, .int .i64 0, .int .i64 0, .int .i64 0, .int .i64 0, .int .i64 0, .int .i64 0, .int .i64 0, .int .i64 0, .int .i64 0, .int .i64 0, .int .i64 0, .int .i64 0, .int .i64 0, .int .i64 0, .int .i64 0, .int .i64 0, .int .i64 0, .int .i64 0] 51)) (.cells #[.int .i64 0, .int .i64 0, .int .i64 0, .int .i64 0, .int .i64 0, .int .i64 0, .int .i64 0, .int .i64 0, .int .i64 0, .int .i64 0, .int .i64 0, .int .i64 0, .int .i64 0, .int .i64 0, .int .i64 0, .int .i64 0, .int .i64 0, .int .i64 0, .int .i64 0, .int .i64 0, .int .i64 0] 51)
    unfold Hid
    simpa using this
  have HB1 : Hid ((((w.alloc (.cells #[.int .i64 p, .int .i64 wd, .int .i64 ht, .int .i64 rs, .slice ao n cap] 38)).alloc (.cells #[.int .i64 0, .int .i64 0, .int .i64 0, .int .i64 0, .int .i64 0, .int .i64 0, .int .i64 0, .int .i64 0, .int .i64 0, .int .i64 0, .int .i64 0, .int .i64 0, .int .i64 0, .int .i64 0, .int .i64 0, .int .i64 0, .int .i64 0, .int .i64 0, .int .i64 0, .int .i64 0, .int .i64 0] 51)).alloc (.cells #[.int .i64 0, .int .i64 0, .int .i64 0, .int .i64 0, .int .i64 0, .int .i64 0, .int .i64 0, .int .i64 0, .int .i64 0, .int .i64 0, .int .i64 0, .int .i64 0, .int .i64 0, .int .i64 0, .int .i64 0, .int .i64 0, .int .i64 0, .int .i64 0, .int .i64 0, .int .i64 0, .int .i64 0] 51)).heap[w.heap.size + 1]? = some (.cells #[.int .i64 0, .int .i64 0, .int .i64 0, .int .i64 0, .int .i64 0, .int .i64 0, .int .i64 0, .int .i64 0, .int .i64 0, .int .i64 0, .int .i64 0, .int .i64 0, .int .i64 0, .int .i64 0, .int .i64 0, .int .i64 0, .int .i64 0, .int .i64 0, .int .i64 0, .int .i64 0, .int .i64 0] 51 (0, 0))) := by
    have := heap_alloc_new (w.alloc (.cells #[.int .i64 p, .int .i64 wd, .int .i64 ht, .int .i64 rs, .slice ao n cap] 38)) (.cells #[.int .i64 0, .int .i64 0, .int .i64 0, .int .i64 0, .int .i64 0, .int .i64 0, .int .i64 0, .int .i64 0, .int .i64 0, .int .i64 0, .int .i64 0, .int .i64 0, .int .i64 0, .int .i64 0, .int .i64 0, .int .i64 0, .int .i64 0, .int .i64 0, .int .i64 0, .int .i64 0, .int .i64 0] 51)
    unfold Hid
    rw [Below.heap_alloc _ _ _ (by simp)]
    simpa using this
  have HB0 : Hid ((((w.alloc (.cells #[.int .i64 p, .int .i64 wd, .int .i64 ht, .int .i64 rs, .slice ao n cap] 38)).alloc (.cells #[.int .i64 0, .int .i64 0, .int .i64 0, .int .i64 0, .int .i64 0, .int .i64 0, .int .i64 0, .int .i64 0, .int .i64 0, .int .i64 0, .int .i64 0, .int .i64 0, .int .i64 0, .int .i64 0, .int .i64 0, .int .i64 0, .int .i64 0, .int .i64 0, .int .i64 0, .int .i64 0, .int .i64 0] 51)).alloc (.cells #[.int .i64 0, .int .i64 0, .int .i64 0, .int .i64 0, .int .i64 0, .int .i64 0, .int .i64 0, .int .i64 0, .int .i64 0, .int .i64 0, .int .i64 0, .int .i64 0, .int .i64 0, .int .i64 0, .int .i64 0, .int .i64 0, .int .i64 0, .int .i64 0, .int .i64 0, .int .i64 0, .int .i64 0] 51)).heap[w.heap.size]? = some (.cells #[.int .i64 p, .int .i64 wd, .int .i64 ht, .int .i64 rs, .slice ao n cap] 38 (0, 0))) := by
    have := heap_alloc_new w (.cells #[.int .i64 p, .int .i64 wd, .int .i64 ht, .int .i64 rs, .slice ao n cap] 38)
    unfold Hid
    rw [Below.heap_alloc _ _ _ (by simp; omega), Below.heap_alloc _ _ _ (by simp)]
    exact this
  have HGS : Hid ((((w.alloc (.cells #[.int .i64 p, .int .i64 wd, .int .i64 ht, .int .i64 rs, .slice ao n cap] 38)).alloc (.cells #[.int .i64 0, .int .i64 0, .int .i64 0, .int .i64 0, .int .i64 0, .int .i64 0, .int .i64 0, .int .i64 0, .int .i64 0, .int .i64 0, .int .i64 0, .int .i64 0, .int .i64 0, .int .i64 0, .int .i64 0, .int .i64 0, .int .i64 0, .int .i64 0, .int .i64 0, .int .i64 0, .int .i64 0] 51)).alloc (.cells #[.int .i64 0, .int .i64 0, .int .i64 0, .int .i64 0, .int .i64 0, .int .i64 0, .int .i64 0, .int .i64 0, .int .i64 0, .int .i64 0, .int .i64 0, .int .i64 0, .int .i64 0, .int .i64 0, .int .i64 0, .int .i64 0, .int .i64 0, .int .i64 0, .int .i64 0, .int .i64 0, .int .i64 0] 51)).heap.size = w.heap.size + 3) := by unfold Hid; simp
  have G0 : Hid (w.grownBy (((w.alloc (.cells #[.int .i64 p, .int .i64 wd, .int .i64 ht, .int .i64 rs, .slice ao n cap] 38)).alloc (.cells #[.int .i64 0, .int .i64 0, .int .i64 0, .int .i64 0, .int .i64 0, .int .i64 0, .int .i64 0, .int .i64 0, .int .i64 0, .int .i64 0, .int .i64 0, .int .i64 0, .int .i64 0, .int .i64 0, .int .i64 0, .int .i64 0, .int .i64 0, .int .i64 0, .int .i64 0, .int .i64 0, .int .i64 0] 51)).alloc (.cells #[.int .i64 0, .int .i64 0, .int .i64 0, .int .i64 0, .int .i64 0, .int .i64 0, .int .i64 0, .int .i64 0, .int .i64 0, .int .i64 0, .int .i64 0, .int .i64 0, .int .i64 0, .int .i64 0, .int .i64 0, .int .i64 0, .int .i64 0, .int .i64 0, .int .i64 0, .int .i64 0, .int .i64 0] 51)) none) := grown_alloc (grown_alloc (grown_alloc (World.grownBy.refl _ _) _) _) _
  clear hX0
  go_enter Try.func16, Try.ntmps16
  go_wp2_with (refine wpList_store_row rfl 51 _ _ rfl (w.heap.size + 1 + 1) rfl X0 (congrArg _ (unhide HX0)) #[.int .i64 0, .int .i64 0, .int .i64 0, .int .i64 0, .int .i64 0, .int .i64 0, .int .i64 0, .int .i64 0, .int .i64 0, .int .i64 0, .int .i64 0, .int .i64 0, .int .i64 0, .int .i64 0, .int .i64 0, .int .i64 0, .int .i64 0, .int .i64 0, .int .i64 0, .int .i64 0, .int .i64 0] 51 (unhide HB2) (unhide HF0).size.symm (unhide HI0) (unhide HF0).one ?_; intro w3 hB3 g3)
  have hGS := unhide HGS
  have hBf := (g3.block w.heap.size (by omega) (by simp; omega)).trans (unhide HB0)
  have hBr := (g3.block (w.heap.size + 1) (by omega) (by simp)).trans (unhide HB1)
  have G3 : w.grownBy w3 none := grown_new (unhide G0) g3 (fun g e => by simp at e; omega)
  have c4 : w3.cell? ⟨w.heap.size, 4, none⟩ = some (.slice ao n cap) := by rw [cell_of_row w3 _ 4 _ _ (0, 0) hBf]; rfl
  have HBR := hide hBr
  have HGR := hide G3
  have HB3 := hide hB3
  have hs3 : w.heap.size + 3 ≤ w3.heap.size := by have := g3.size; omega
  clear hBf hBr hB3 g3 G3 HB0 HB1 HB2 HGS G0 hGS
  have HRC := hide ((unhide HR).grown (unhide HGR))
  have hmin : Nat.min n 4 ≤ 4 := Nat.min_le_right _ _
  have hmin2 : Nat.min n 4 ≤ n := Nat.min_le_left _ _
  have HRL : Hid ((rowsK (Nat.min n 4) 4 (compCells C)).length = Nat.min n 4 * 4) := rowsK_len _ _ _
  have HFIT : Hid (5 + (rowsK (Nat.min n 4) 4 (compCells C)).length ≤ X0.size) := by unfold Hid; rw [unhide HRL, (unhide HF0).size]; omega
  have HONE : Hid (∀ v ∈ rowsK (Nat.min n 4) 4 (compCells C), v.oneCell' = true) := rowsK_one (fun _ _ => rfl)
  have HSRC := hide (rdC_src (unhide HRC) hmin2)
  go_region_law (refine step_copyK rfl (.tmp 17) (.tmp 19) 36 36 rfl 35 Try.underlying36 4 (by kernel_rfl) (w.heap.size + 1 + 1) 5 4 4 ao n cap rfl rfl X0 51 (unhide HB3) (rowsK (Nat.min n 4) 4 (compCells C)) (unhide HRL) (unhide HSRC) (unhide HFIT) (unhide HONE) ?_; intro w4 hB4 g4)
  have HF1 := hide (fx_copied (unhide HF0) (Nat.min n 4) C hmin)
  have hBr := (g4.block (w.heap.size + 1) (show w.heap.size + 1 < w3.heap.size by omega) (by simp)).trans (unhide HBR)
  have G4 : w.grownBy w4 none := grown_new (grown_drew (unhide HGR)) g4 (fun g e => by simp at e; omega)
  have hs4 : w.heap.size + 3 ≤ w4.heap.size := by have h : w3.heap.size ≤ w4.heap.size := g4.size; omega
  clear g4 HSRC HONE HFIT HRL c4 HB3 HBR HRC HGR
  obtain ⟨X1, hX1⟩ : ∃ X1 : Array Value, (X0.toList.take 5 ++ rowsK (Nat.min n 4) 4 (compCells C) ++ X0.toList.drop (5 + (rowsK (Nat.min n 4) 4 (compCells C)).length)).toArray = X1 := ⟨_, rfl⟩
  rw [hX1] at HF1 hB4
  clear hX1
  have hB4' := unhide hB4
  have hs1 := (unhide HF1).size
  have HCG : Hid (n ≤ 4 → ∀ i, i < n → (fun i j => if i < Nat.min n 4 then C i j else (fun _ _ => 0 : Nat → Nat → Int) i j) i = C i) := by
    intro h4 i hi
    have e : Nat.min n 4 = n := Nat.min_eq_left h4
    funext j
    rw [e]
    simp only [if_pos hi]
  have HFB1 : Hid (frameB p wd ht rs n (fun i j => if i < Nat.min n 4 then C i j else (fun _ _ => 0 : Nat → Nat → Int) i j) = b) := by
    unfold Hid
    rw [← unhide HFB, frameB, frameB, compsB_congr (unhide HCG)]
  have HN4 : Hid (b = true → n ≤ 4) := by
    intro hb
    rw [← unhide HFB, frameB, Bool.and_eq_true, compsB, Bool.and_eq_true] at hb
    have := of_decide_eq_true hb.2.1
    omega
  generalize (fun i j => if i < Nat.min n 4 then C i j else (fun _ _ => 0 : Nat → Nat → Int) i j) = D at *
  clear hB4
  obtain ⟨R, HRR⟩ : ∃ R : Array Value, Hid ((if frameB p wd ht rs n D = true then X1 else #[.int .i64 0, .int .i64 0, .int .i64 0, .int .i64 0, .int .i64 0, .int .i64 0, .int .i64 0, .int .i64 0, .int .i64 0, .int .i64 0, .int .i64 0, .int .i64 0, .int .i64 0, .int .i64 0, .int .i64 0, .int .i64 0, .int .i64 0, .int .i64 0, .int .i64 0, .int .i64 0, .int .i64 0]) = R) := ⟨_, rfl⟩
  have HRS : Hid (R.size = 21) := by unfold Hid; rw [← unhide HRR]; split; exact hs1; rfl
  have HRO : Hid (R.all (·.oneCell') = true) := by unfold Hid; rw [← unhide HRR]; split; exact (unhide HF1).one; decide +kernel
  go_wp2_with (refine wpList_load_row rfl 51 _ rfl (w.heap.size + 1 + 1) rfl X1 51 hB4' _ Try.underlying51 rfl (by rw [hs1]; kernel_rfl) ?_)
  refine (orNone X1 p wd ht rs n D (unhide HF1) R HRR _).mono ?_
  rintro e w5 ⟨rfl, g5⟩
  have hBr5 := (g5.block (w.heap.size + 1) (by omega) (by simp)).trans hBr
  have G5 := grown_trans G4 g5
  clear hBr hB4'
  go_wp2_with (refine wpList_store_row rfl 51 _ _ rfl (w.heap.size + 1) rfl R rfl #[.int .i64 0, .int .i64 0, .int .i64 0, .int .i64 0, .int .i64 0, .int .i64 0, .int .i64 0, .int .i64 0, .int .i64 0, .int .i64 0, .int .i64 0, .int .i64 0, .int .i64 0, .int .i64 0, .int .i64 0, .int .i64 0, .int .i64 0, .int .i64 0, .int .i64 0, .int .i64 0, .int .i64 0] 51 hBr5 (unhide HRS).symm (by rw [unhide HRS]; kernel_rfl) (unhide HRO) ?_; intro w6 hB6 g6)
  refine bodyPost_ret (v := .agg R) ?_ rfl ⟨R, rfl, fun hb => ?_, fun hb => ?_, ?_⟩
  · rw [results_cell1 rfl]
    exact loadFx (unhide HRS) hB6
  · rw [← unhide HRR, unhide HFB1, hb]; rfl
  · refine ⟨D, ?_, unhide HCG (unhide HN4 hb)⟩
    have e : R = X1 := by rw [← unhide HRR, unhide HFB1, hb]; rfl
    rw [e]; exact unhide HF1
  · exact grown_new G5 g6 (fun g e => by simp at e; omega)

set_option maxRecDepth 100000 in
set_option maxHeartbeats 1600000 in
theorem implFrameOk (p wd ht rs : Int) (ao : Option Addr) (n cap : Nat) (C : Nat → Nat → Int) (w : World) (hr : RdC w ao n C) (hn : n ≤ 4194304) (b : Bool) (HFB : Hid (frameB p wd ht rs n C = b)) :
    Calls Try.prog 8 #[.agg #[.int .i64 p, .int .i64 wd, .int .i64 ht, .int .i64 rs, .slice ao n cap]] w fun e w' => e = .returned (.bool b) ∧ w.grownBy w' none := by
  have HR := hide hr
  clear hr
  go_enter Try.func8, Try.ntmps8
  go_wp2_with fail
  refine (fixFrame p wd ht rs ao n cap C _ ((unhide HR).grown (grown_alloc (World.grownBy.refl _ _) _)) hn b HFB).mono ?_
  rintro e w1 ⟨X, rfl, h1, h2, g1⟩
  have G1 := grown_trans (grown_alloc (World.grownBy.refl w none) _) g1
  have H1 := hide h1
  have H2 := hide h2
  clear h1 h2 g1
  cases b
  · rw [unhide H1 rfl]
    go_wp2_with fail
    refine (isNone_yes _).mono ?_
    rintro e w2 ⟨rfl, g2⟩
    go_wp2
    go_ret
    exact ⟨rfl, grown_trans G1 g2⟩
  · obtain ⟨D, hF, _⟩ := unhide H2 rfl
    have hp : (p == 0) = false := by
      have h := unhide HFB
      rw [frameB, Bool.and_eq_true] at h
      rcases (headB_facts h.1).1 with rfl | rfl <;> rfl
    go_wp2_with fail
    refine (isNone_no X p wd ht rs n D hF hp _).mono ?_
    rintro e w2 ⟨rfl, g2⟩
    go_wp2
    go_ret
    exact ⟨rfl, grown_trans G1 g2⟩

end Go.Proofs.Ytdhgfbdanijgaaa

namespace Go.Proofs.Ytdhgfbdanijgaaa

/-- The greatest of the numbers j of the first k components, at least a. -/
def mostA (a : Int) (C : Nat → Nat → Int) (j : Nat) : Nat → Int
  | 0 => a
  | k + 1 => max (mostA a C j k) (C k j)
/-- n by d, rounded up. -/
def upI (n d : Int) : Int := (n + d - 1).tdiv d

theorem upI_pos {n d : Int} (hn : 1 ≤ n) (hd : 1 ≤ d) : 1 ≤ upI n d ∧ upI n d ≤ n := by
  unfold upI
  rw [Int.tdiv_eq_ediv_of_nonneg (by omega)]
  constructor
  · exact (Int.le_ediv_iff_mul_le (by omega)).2 (by omega)
  · refine Int.le_of_lt_add_one ((Int.ediv_lt_iff_lt_mul (by omega)).2 ?_)
    have h1 : 0 ≤ (n - 1) * (d - 1) := Int.mul_nonneg (by omega) (by omega)
    have e : (n + 1) * d = (n - 1) * (d - 1) + n + 2 * d - 1 := by
      rw [Int.add_mul, Int.sub_mul, Int.mul_sub, Int.mul_sub]; omega
    omega

theorem upI_eight {n : Int} (h0 : 1 ≤ n) (h1 : n ≤ 8192) : 1 ≤ upI n 8 ∧ upI n 8 ≤ 1024 := by
  unfold upI
  rw [Int.tdiv_eq_ediv_of_nonneg (by omega)]
  omega

theorem mostA_congr {a : Int} {C D : Nat → Nat → Int} {j : Nat} : ∀ k, (∀ i, i < k → C i = D i) → mostA a C j k = mostA a D j k
  | 0, _ => rfl
  | k + 1, h => by simp only [mostA]; rw [mostA_congr k (fun i hi => h i (by omega)), h k (by omega)]
theorem mostA_le {a : Int} {C : Nat → Nat → Int} {j : Nat} {m : Int} (ha : a ≤ m) : ∀ k, (∀ i, i < k → C i j ≤ m) → mostA a C j k ≤ m
  | 0, _ => ha
  | k + 1, h => by simp only [mostA]; have := mostA_le ha k (fun i hi => h i (by omega)); have := h k (by omega); omega
theorem mostA_ge {a : Int} {C : Nat → Nat → Int} {j : Nat} : ∀ k, a ≤ mostA a C j k
  | 0 => Int.le_refl _
  | k + 1 => by simp only [mostA]; have := mostA_ge (a := a) (C := C) (j := j) k; omega
theorem mostA_at {a : Int} {C : Nat → Nat → Int} {j : Nat} : ∀ k i, i < k → C i j ≤ mostA a C j k
  | k + 1, i, h => by
    simp only [mostA]
    by_cases e : i = k
    · subst e; omega
    · have := mostA_at (a := a) (C := C) (j := j) k i (by omega); omega
/-- From 0 or from 1 on: the same where a component has at least 1. -/
theorem mostA_one {C : Nat → Nat → Int} {j : Nat} : ∀ k, 1 ≤ k → (∀ i, i < k → 1 ≤ C i j) → mostA 0 C j k = mostA 1 C j k
  | 1, _, h => by simp only [mostA]; have := h 0 (by omega); omega
  | k + 2, _, h => by
    have ih := mostA_one (k + 1) (by omega) (fun i hi => h i (by omega))
    show max (mostA 0 C j (k + 1)) (C (k + 1) j) = max (mostA 1 C j (k + 1)) (C (k + 1) j)
    rw [ih]

theorem okTo_comp {C : Nat → Nat → Int} : ∀ {n : Nat}, okTo C n = true → ∀ i, i < n → compB (C i) = true
  | n + 1, h, i, hi => by
    simp only [okTo, Bool.and_eq_true] at h
    by_cases e : i = n
    · subst e; exact h.2.1
    · exact okTo_comp h.1 i (by omega)

/-- What is so of a frame that is ok. -/
structure Geo (wd ht : Int) (n : Nat) (C : Nat → Nat → Int) (mh mv : Int) : Prop where
  n1 : 1 ≤ n
  n4 : n ≤ 4
  wd : 1 ≤ wd ∧ wd ≤ 256
  ht : 1 ≤ ht ∧ ht ≤ 256
  ch : ∀ i, i < n → 1 ≤ C i 1 ∧ C i 1 ≤ 4
  cv : ∀ i, i < n → 1 ≤ C i 2 ∧ C i 2 ≤ 4
  h0 : mostA 0 C 1 n = mh
  h1 : mostA 1 C 1 n = mh
  v0 : mostA 0 C 2 n = mv
  v1 : mostA 1 C 2 n = mv
  hb : 1 ≤ mh ∧ mh ≤ 4
  vb : 1 ≤ mv ∧ mv ≤ 4

theorem geo_of {p wd ht rs : Int} {n : Nat} {C : Nat → Nat → Int} (h : frameB p wd ht rs n C = true) : Geo wd ht n C (mostA 1 C 1 n) (mostA 1 C 2 n) := by
  simp only [frameB, Bool.and_eq_true] at h
  obtain ⟨hh, hc⟩ := h
  obtain ⟨_, hw, hht, _, _⟩ := headB_facts hh
  simp only [compsB, Bool.and_eq_true, decide_eq_true_eq] at hc
  obtain ⟨hn, hok, _⟩ := hc
  have ch : ∀ i, i < n → 1 ≤ C i 1 ∧ C i 1 ≤ 4 := fun i hi => (compB_bounds (okTo_comp hok i hi)).2.1
  have cv : ∀ i, i < n → 1 ≤ C i 2 ∧ C i 2 ≤ 4 := fun i hi => (compB_bounds (okTo_comp hok i hi)).2.2.1
  exact ⟨by omega, by omega, hw, hht, ch, cv, mostA_one n (by omega) (fun i hi => (ch i hi).1), rfl, mostA_one n (by omega) (fun i hi => (cv i hi).1), rfl,
    ⟨mostA_ge n, mostA_le (by omega) n (fun i hi => (ch i hi).2)⟩, ⟨mostA_ge n, mostA_le (by omega) n (fun i hi => (cv i hi).2)⟩⟩
theorem Geo.congr {wd ht : Int} {n : Nat} {C D : Nat → Nat → Int} {mh mv : Int} (h : Geo wd ht n C mh mv) (e : ∀ i, i < n → D i = C i) : Geo wd ht n D mh mv :=
  ⟨h.n1, h.n4, h.wd, h.ht, fun i hi => by rw [e i hi]; exact h.ch i hi, fun i hi => by rw [e i hi]; exact h.cv i hi, (mostA_congr n e).trans h.h0, (mostA_congr n e).trans h.h1, (mostA_congr n e).trans h.v0, (mostA_congr n e).trans h.v1, h.hb, h.vb⟩

/-- A side times a share of it. -/
theorem mul_share {a b : Int} (ha : 1 ≤ a ∧ a ≤ 1024) (hb : 1 ≤ b ∧ b ≤ 4) : 1 ≤ a * b ∧ a * b ≤ 4096 := by
  obtain ⟨b0, b1⟩ := hb
  have : b = 1 ∨ b = 2 ∨ b = 3 ∨ b = 4 := by omega
  rcases this with rfl | rfl | rfl | rfl <;> omega

end Go.Proofs.Ytdhgfbdanijgaaa

namespace Go.Proofs.Ytdhgfbdanijgaaa
open Go.RowKit

theorem divUp (n d u : Int) (hn : 1 ≤ n ∧ n ≤ 1000000) (hd : 1 ≤ d ∧ d ≤ 1000000) (hu : Hid (upI n d = u)) (w : World) :
    Calls Try.prog 50 #[.int .i64 n, .int .i64 d] w fun e w' => e = .returned (.int .i64 u) ∧ w = w' := by
  have hd0 : (d == 0) = false := by simp; omega
  have hm1 : (d == -1) = false := by simp; omega
  have he : Hid ((n + d - 1) / d = u) := by rw [← unhide hu, upI, Int.tdiv_eq_ediv_of_nonneg (by omega)]; rfl
  go_enter Try.func50, Try.ntmps50
  go_wp2
  go_ret
  exact ⟨by simp [unhide he], rfl⟩

theorem areaCount (a b : Int) (ha : 0 ≤ a ∧ a ≤ 1024) (hb : 0 ≤ b ∧ b ≤ 1024) (w : World) :
    Calls Try.prog 33 #[.agg #[.int .i64 a, .int .i64 b]] w fun e w' => e = .returned (.int .i64 (a * b)) ∧ w.grownBy w' none := by
  have h0 : 0 ≤ a * b := Int.mul_nonneg ha.1 hb.1
  have h1 : a * b ≤ 1024 * 1024 := Int.mul_le_mul ha.2 hb.2 hb.1 (by omega)
  have hw := i64_in (a * b) (by omega)
  go_enter Try.func33, Try.ntmps33
  go_wp2
  go_ret
  exact ⟨rfl, grown_alloc (World.grownBy.refl _ _) _⟩

theorem shares (X : Array Value) (p wd ht rs n : Int) (C : Nat → Nat → Int) (hX : Fx X p wd ht rs n C) (c : Nat) (hc : c < 4) (w : World) :
    Calls Try.prog 42 #[.agg X, .int .i64 c] w fun e w' => e = .returned (.agg #[.int .i64 (C c 1), .int .i64 (C c 2)]) ∧ w.grownBy w' none := by
  have hs := hX.size
  have hc0 : (0 : Int) ≤ (c : Int) := by omega
  have hc4 : (c : Int) < 4 := by omega
  have HB : ∀ o, ((w.alloc (.cells X 51)).alloc o).heap[w.heap.size]? = some (.cells X 51 (0, 0)) := by
    intro o; rw [Below.heap_alloc _ _ _ (by simp)]; exact heap_alloc_new w _
  have K : Hid (∀ o, ((w.alloc (.cells X 51)).alloc o).cell? ⟨w.heap.size, 5 + c * 4 + 1, none⟩ = some (.int .i64 (C c 1)) ∧ ((w.alloc (.cells X 51)).alloc o).cell? ⟨w.heap.size, 5 + c * 4 + 2, none⟩ = some (.int .i64 (C c 2))) := fun o => ⟨fx_cell hX (HB o) c 1 (by omega) (by omega), fx_cell hX (HB o) c 2 (by omega) (by omega)⟩
  have h1 := (unhide K (.cells #[.int .i64 0, .int .i64 0] 73)).1
  have h2 := (unhide K (.cells #[.int .i64 0, .int .i64 0] 73)).2
  clear hX HB
  go_enter Try.func42, Try.ntmps42
  go_wp2
  go_region_held3 (fun w' => w'.cell? ⟨w.heap.size, 5 + c * 4 + 1, none⟩ = some (.int .i64 (C c 1)) ∧ w'.cell? ⟨w.heap.size, 5 + c * 4 + 2, none⟩ = some (.int .i64 (C c 2))) (first | exact ⟨h1, h2⟩ | exact unhide K _) (fail)
  go_wp2
  refine bodyPost_ret (v := .agg #[.int .i64 (C c 1), .int .i64 (C c 2)]) (by simp [results, Try.results42, go_sem]) rfl ⟨rfl, ?_⟩
  exact grown_drew (grown_alloc (grown_alloc (World.grownBy.refl _ _) _) _)

theorem areaCells {w : World} {g : Nat} {a b : Value} {t : TypeId} (hb : w.heap[g]? = some (.cells #[a, b] t (0, 0))) :
    w.cell? ⟨g, 0, none⟩ = some a ∧ w.cell? ⟨g, 1, none⟩ = some b ∧ w.frozen? ⟨g, 0, none⟩ = false ∧ w.frozen? ⟨g, 1, none⟩ = false :=
  ⟨by rw [cell_of_row w _ 0 _ _ (0, 0) hb]; rfl, by rw [cell_of_row w _ 1 _ _ (0, 0) hb]; rfl, frozen_of_row w g 0 _ _ hb, frozen_of_row w g 1 _ _ hb⟩
theorem grown_setNew {w w' : World} (h : w.grownBy w' none) (b j : Nat) (u : Value) (hb : w.heap.size ≤ b) : w.grownBy (w'.setCell ⟨b, j, none⟩ u) none := grown_new h (grown_set w' b j u) (fun g e => by simp at e; omega)
theorem loadArea {w : World} {g : Nat} {a b : Int} (hb : w.heap[g]? = some (.cells #[.int .i64 a, .int .i64 b] 73 (0, 0))) : (loadVar 73 ⟨g, 0, none⟩).run Try.prog w = .ok (.agg #[.int .i64 a, .int .i64 b]) w :=
  run_loadVar_row w g 73 73 _ (0, 0) _ hb Try.underlying73 rfl (by kernel_rfl)

set_option maxHeartbeats 1600000 in
theorem most (X : Array Value) (p wd ht rs : Int) (n : Nat) (C : Nat → Nat → Int) (hX : Fx X p wd ht rs n C) (hn : n ≤ 4) (mh mv : Int) (HH : Hid (mostA 0 C 1 n = mh)) (HV : Hid (mostA 0 C 2 n = mv)) (w : World) :
    Calls Try.prog 49 #[.agg X] w fun e w' => e = .returned (.agg #[.int .i64 mh, .int .i64 mv]) ∧ w.grownBy w' none := by
  have HX := hide hX
  have hs := hX.size
  have h4 := hX.c4
  have h4' : X[4] = .int .i64 n := by rw [Array.getElem?_eq_getElem (by omega)] at h4; simpa using h4
  obtain ⟨W0, hW0⟩ : ∃ W0, (((w.alloc (.cells X 51)).alloc (.cells #[.int .i64 0, .int .i64 0] 73)).alloc (.cells #[.int .i64 0, .int .i64 0] 73)) = W0 := ⟨_, rfl⟩
  have G0 : w.grownBy W0 none := by rw [← hW0]; exact grown_alloc (grown_alloc (grown_alloc (World.grownBy.refl _ _) _) _) _
  have b0 : W0.heap[w.heap.size]? = some (.cells X 51 (0, 0)) := by
    rw [← hW0, Below.heap_alloc _ _ _ (by simp; omega), Below.heap_alloc _ _ _ (by simp)]
    exact heap_alloc_new w _
  have b1 : W0.heap[w.heap.size + 1]? = some (.cells #[.int .i64 0, .int .i64 0] 73 (0, 0)) := by
    rw [← hW0, Below.heap_alloc _ _ _ (by simp)]
    have := heap_alloc_new (w.alloc (.cells X 51)) (.cells #[.int .i64 0, .int .i64 0] 73)
    simpa using this
  have b2 : W0.heap[w.heap.size + 1 + 1]? = some (.cells #[.int .i64 0, .int .i64 0] 73 (0, 0)) := by
    rw [← hW0]
    have := heap_alloc_new ((w.alloc (.cells X 51)).alloc (.cells #[.int .i64 0, .int .i64 0] 73)) (.cells #[.int .i64 0, .int .i64 0] 73)
    simpa using this
  have hsz : W0.heap.size = w.heap.size + 3 := by rw [← hW0]; simp
  have HW := hide hW0
  have B0 := hide b0
  have B1 := hide b1
  have B2 := hide b2
  have HG0 := hide G0
  clear hX hW0 b0 b1 b2 G0 h4
  go_enter Try.func49, Try.ntmps49
  go_wp2
  rw [unhide HW]
  clear HW
  go_loopw [9] (fun i wr => ∃ k : Nat, k ≤ n ∧ i = .int .i64 k ∧ wr.heap[w.heap.size + 1 + 1]? = some (.cells #[.int .i64 (mostA 0 C 1 k), .int .i64 (mostA 0 C 2 k)] 73 (0, 0)) ∧ W0.grownBy wr (some (w.heap.size + 1 + 1))) (fun i _ => n - (intOf i).toNat)
  case atStart => exact ⟨0, Nat.zero_le _, rfl, unhide B2, World.grownBy.refl _ _⟩
  case round =>
    obtain ⟨k, hk, rfl, hM, hgk⟩ := hrel
    have hB := (hgk.block w.heap.size (by omega) (by simp; omega)).trans (unhide B0)
    have hR := (hgk.block (w.heap.size + 1) (by omega) (by simp)).trans (unhide B1)
    have hsk := hgk.size
    by_cases hlt : k < n
    · have S1 : Hid (mostA 0 C 1 (k + 1) = max (mostA 0 C 1 k) (C k 1)) := rfl
      have S2 : Hid (mostA 0 C 2 (k + 1) = max (mostA 0 C 2 k) (C k 2)) := rfl
      generalize mostA 0 C 1 k = m1 at *
      generalize mostA 0 C 2 k = m2 at *
      go_wp2_with (refine wpList_load_row rfl 51 _ rfl w.heap.size rfl X 51 hB _ Try.underlying51 rfl (by rw [hs]; kernel_rfl) ?_)
      refine (shares X p wd ht rs n C (unhide HX) k (by omega) _).mono ?_
      rintro e w2 ⟨rfl, g2⟩
      have hM2 := (g2.block (w.heap.size + 1 + 1) (by omega) (by simp)).trans hM
      have s2 := g2.size
      have gA : w2.grownBy (w2.alloc (.cells #[.int .i64 (C k 1), .int .i64 (C k 2)] 73)) none := grown_alloc (World.grownBy.refl _ _) _
      have hM3 := (gA.block (w.heap.size + 1 + 1) (by omega) (by simp)).trans hM2
      have cm0 : (w2.alloc (.cells #[.int .i64 (C k 1), .int .i64 (C k 2)] 73)).cell? ⟨w.heap.size + 1 + 1, 0, none⟩ = some (.int .i64 m1) := by rw [cell_of_row _ _ 0 _ _ (0, 0) hM3]; rfl
      have cm1 : (w2.alloc (.cells #[.int .i64 (C k 1), .int .i64 (C k 2)] 73)).cell? ⟨w.heap.size + 1 + 1, 1, none⟩ = some (.int .i64 m2) := by rw [cell_of_row _ _ 1 _ _ (0, 0) hM3]; rfl
      have GA := hide (grown_trans g2 gA)
      have HM3 := hide hM3
      clear hM2 hM3 gA hM
      generalize C k 1 = c1 at *
      generalize C k 2 = c2 at *
      have fz0 := frozen_of_row _ _ 0 _ _ (unhide HM3)
      have fz1 := frozen_of_row _ _ 1 _ _ (unhide HM3)
      have ST : Hid (∀ u v : Int, (((w2.alloc (.cells #[.int .i64 c1, .int .i64 c2] 73)).setCell ⟨w.heap.size + 1 + 1, 0, none⟩ (.int .i64 u)).setCell ⟨w.heap.size + 1 + 1, 1, none⟩ (.int .i64 v)).heap[w.heap.size + 1 + 1]? = some (.cells #[.int .i64 u, .int .i64 v] 73 (0, 0)) ∧
          W0.grownBy (((w2.alloc (.cells #[.int .i64 c1, .int .i64 c2] 73)).setCell ⟨w.heap.size + 1 + 1, 0, none⟩ (.int .i64 u)).setCell ⟨w.heap.size + 1 + 1, 1, none⟩ (.int .i64 v)) (some (w.heap.size + 1 + 1))) := fun u v =>
        ⟨heap_setCell_same _ _ 1 _ _ _ (heap_setCell_same _ _ 0 _ _ _ (unhide HM3)), grown_trans (grown_trans (grown_trans hgk (grown_any (unhide GA))) (grown_set _ _ _ _)) (grown_set _ _ _ _)⟩
      by_cases q1 : m1 < c1 <;> by_cases q2 : m2 < c2
      all_goals
        go_wp2
        go_roundw
        case rel => exact ⟨k + 1, by omega, by go_num, by rw [unhide S1, unhide S2, ← show _ = max m1 c1 from by first | exact (Int.max_eq_right (by omega)).symm | exact (Int.max_eq_left (by omega)).symm, ← show _ = max m2 c2 from by first | exact (Int.max_eq_right (by omega)).symm | exact (Int.max_eq_left (by omega)).symm]; exact (unhide ST _ _).1, (unhide ST _ _).2⟩
        case measure => simp [intOf]; omega
    · have hkn : k = n := by omega
      subst hkn
      rw [unhide HH, unhide HV] at hM
      have cm := areaCells hM
      have cr := areaCells hR
      go_wp2
      refine bodyPost_ret (v := .agg #[.int .i64 mh, .int .i64 mv]) (by simp [results, Try.results49, go_sem, cr]) rfl ⟨rfl, ?_⟩
      exact grown_setNew (grown_setNew (grown_new (unhide HG0) hgk (fun g e => by simp at e; omega)) _ _ _ (by omega)) _ _ _ (by omega)

end Go.Proofs.Ytdhgfbdanijgaaa

namespace Go.Proofs.Ytdhgfbdanijgaaa
open Go.RowKit Go.Shelf

/-- All blocks lie as they lay, but those of O. -/
structure But (O : Nat → Prop) (W W' : World) : Prop where
  os : W'.os = W.os
  tape : W'.tape = W.tape
  output : W'.output = W.output
  size : W.heap.size ≤ W'.heap.size
  block : ∀ k, k < W.heap.size → ¬ O k → W'.heap[k]? = W.heap[k]?
theorem But.refl (O : Nat → Prop) (W : World) : But O W W := ⟨rfl, rfl, rfl, Nat.le_refl _, fun _ _ _ => rfl⟩
theorem But.trans {O : Nat → Prop} {A B C : World} (h : But O A B) (g : But O B C) : But O A C :=
  ⟨g.os.trans h.os, g.tape.trans h.tape, g.output.trans h.output, Nat.le_trans h.size g.size, fun k hk ho => (g.block k (Nat.lt_of_lt_of_le hk h.size) ho).trans (h.block k hk ho)⟩
theorem But.of_grown {O : Nat → Prop} {W W' : World} {row : Option Nat} (h : W.grownBy W' row) (hr : ∀ g, row = some g → O g) : But O W W' :=
  ⟨h.os, h.tape, h.output, h.size, fun k hk ho => h.block k hk (fun e => ho (hr k e.symm))⟩
theorem But.mono {O O' : Nat → Prop} {W W' : World} (h : But O W W') (ho : ∀ k, O k → O' k) : But O' W W' := ⟨h.os, h.tape, h.output, h.size, fun k hk hn => h.block k hk (fun e => hn (ho k e))⟩
theorem But.putObj {O : Nat → Prop} (W : World) (l : Nat) (o : Obj) (hl : O l) : But O W (W.putObj l o) := But.of_grown (grownBy_putObj' W l o) (fun g e => by cases e; exact hl)

/-- What speaks of the blocks of O alone. -/
def LocalJ {α : Type} (O : Nat → Prop) (J : List α → World → Prop) : Prop := ∀ pre W W', J pre W → (∀ k, O k → W'.heap[k]? = W.heap[k]?) → J pre W'

/-- What an iterator gives a loop whose body always goes on and writes into the blocks of O alone: all of S, in its order. -/
def Gives {α : Type} (P : Program) (g : Nat) (lb : Array Value) (encs : α → Array Value) (S : List α) (O : Nat → Prop) (w : World) : Prop :=
  ∀ (n l : Nat) (J : List α → World → Prop) (W : World), But O w W → (∀ k, O k → k < W.heap.size) → l < W.heap.size → ¬ O l → w.heap.size ≤ l → LocalJ (fun k => O k ∨ k = l) J →
    (∀ pre x W1 m, J pre W1 → But (fun k => O k ∨ k = l) W W1 → pre ++ [x] <+: S → YieldAt Fence.wide m P l (encs x) W1 fun e W' => e = .returned (.bool true) ∧ J (pre ++ [x]) W' ∧ But (fun k => O k ∨ k = l) W1 W') → J [] W →
    CallsIn Fence.wide n P g (#[.func (.yield l) #[] #[]] ++ lb) W fun e W' => (∃ v, e = .returned v) ∧ J S W' ∧ But (fun k => O k ∨ k = l) W W'

/-- How the body of a round is left. -/
def goesOn (R : World → Prop) : Exit → Act → World → Prop
  | .normal, _, W' => R W'
  | _, _, _ => False

theorem rangeFunc_gives {α : Type} {n : Nat} {P : Program} {g : Operand} {ps : Array Tmp} {assign body : Code} {Q : Exit → Act → World → Prop} {a : Act} {w : World}
    {gf : Nat} {lb : Array Value} (hg : a.eval g = .func (.func gf) #[] lb) (eg : ∀ args w, (callFunc gf args).run P w = .ok (.enter gf args) w)
    {encs : α → Array Value} {S : List α} {O : Nat → Prop} (hO : ∀ k, O k → k < w.heap.size) (hG : Gives P gf lb encs S O w) (hps : ∀ x, (encs x).size = ps.size)
    (I : List α → World → Prop) (hI : LocalJ O I) (h0 : I [] w) (a₁ : α → Act)
    (hassign : ∀ (l m : Nat) (x : α) (W : World) (K : Act → World → Prop), K (a₁ x) W →
      assign.wpIn (Fence.wide.inRound l) m P (Exit.then K (fun _ _ _ => False)) { tmps := (ps.zip (encs x)).foldl (fun t (p, v) => t.setIfInBounds p v) a.tmps, defers := [] } W)
    (hbody : ∀ (l m : Nat) (pre : List α) (x : α) (W : World), I pre W → But O w W → pre ++ [x] <+: S → body.wpIn (Fence.wide.inRound l) m P (goesOn fun W' => I (pre ++ [x]) W' ∧ But O W W') (a₁ x) W)
    (hdone : ∀ (D : Nat) (W : World), w.heap.size ≤ D → I S W → But O w W → W.heap[D]? = some (.deferred (some [])) → Q .normal { a with defers := { target := .collected D, args := #[] } :: a.defers } W) :
    (Code.rangeFunc g ps assign body).wpIn Fence.wide n P Q a w := by
  refine wpIn_rangeFunc ?_
  intro fn hfn
  obtain ⟨R, hR⟩ : ∃ R : LoopState → Loop, R = fun st => { state := st, pending := none, fn, tmps := a.tmps, params := ps, assign, body, defers := w.heap.size } := ⟨_, rfl⟩
  obtain ⟨l, hl⟩ : ∃ l, w.heap.size + 1 = l := ⟨_, rfl⟩
  obtain ⟨W1, hW1⟩ : ∃ W1, (w.alloc (.deferred (some []))).alloc (.loop (R .ready)) = W1 := ⟨_, rfl⟩
  have hs1 : W1.heap.size = w.heap.size + 2 := by rw [← hW1]; simp
  have hOl : ¬ O l := fun e => by have := hO l e; omega
  have hOD : ¬ O w.heap.size := fun e => by have := hO _ e; omega
  have hL1 : W1.heap[l]? = some (.loop (R .ready)) := by
    rw [← hW1, ← hl]; have := World.alloc_heap_new (w.alloc (.deferred (some []))) (.loop (R .ready)); rwa [World.size_alloc] at this
  have hD1 : W1.heap[w.heap.size]? = some (.deferred (some [])) := by
    rw [← hW1]; exact (Below.heap_alloc _ _ _ (by simp)).trans (World.alloc_heap_new w _)
  have b1 : ∀ O', But O' w W1 := fun O' => by
    rw [← hW1]; exact But.of_grown (grown_alloc (grown_alloc (World.grownBy.refl w none) _) _) (fun g e => by cases e)
  have hI1 : I [] W1 := hI _ _ _ h0 (fun k hk => (b1 (fun _ => False)).block k (hO k hk) (fun e => e))
  refine ⟨l, [{ target := .collected w.heap.size, args := #[] }], W1, { target := .fn (.func gf) lb, args := #[.func (.yield l) #[] #[]] }, W1, gf, #[.func (.yield l) #[] #[]] ++ lb, W1, ?_, ?_, fun _ _ => trivial, ?_, (fun h => by simp [Fence.wide] at h), ?_⟩
  · rw [← hW1, ← hl, hR]; exact run_enterLoop_outer _ _ _ _ _
  · simp only [resolve, hg]
    simp [go_sem]
  · simp [invoke, go_sem, eg]
  · have loc : LocalJ (fun k => O k ∨ k = l) (fun pre W => I pre W ∧ W.heap[l]? = some (.loop (R .ready))) := fun pre W W' h hk => ⟨hI _ _ _ h.1 (fun k ok => hk k (.inl ok)), (hk l (.inr rfl)).trans h.2⟩
    refine (hG (n - 1) l _ W1 (b1 O) (fun k hk => by have := hO k hk; omega) (by omega) hOl (by omega) loc ?_ ⟨hI1, hL1⟩).mono ?_
    · rintro pre x W m ⟨hi, hlW⟩ bW hlen
      have hlt : l < W.heap.size := (Array.getElem?_eq_some_iff.1 hlW).1
      have hy := run_yield (P := P) (args := encs x) hlW (by rw [hR]; exact hps x)
      rw [hR] at hy
      refine ⟨fn, _, assign, body, hy, roundIn_of_wpIn hfn (hassign l m x W _ ⟨_, run_beginRound hlW (by rw [hR]), ?_⟩)⟩
      clear hy
      obtain ⟨W2, hW2⟩ : ∃ W2, W.putObj l (.loop { R .ready with state := .busy }) = W2 := ⟨_, rfl⟩
      rw [hW2]
      have hl2 : W2.heap[l]? = some (.loop { R .ready with state := .busy }) := by rw [← hW2]; exact World.putObj_heap_same hlt
      have b2 : But (fun k => O k ∨ k = l) W W2 := by rw [← hW2]; exact But.putObj W l _ (.inr rfl)
      have hi2 : I pre W2 := hI _ _ _ hi (fun k hk => by rw [← hW2]; exact World.putObj_heap_other (fun e => hOl (by rw [← e]; exact hk)))
      have bw2 : But O w W2 := by
        have h := bW.trans b2
        exact ⟨h.os.trans (b1 O).os, h.tape.trans (b1 O).tape, h.output.trans (b1 O).output, Nat.le_trans (b1 O).size h.size, fun k hk ho => (h.block k (by omega) (fun e => by rcases e with e | e; exact ho e; omega)).trans ((b1 O).block k hk ho)⟩
      refine wpIn_mono (hbody l m pre x W2 hi2 bw2 hlen) ?_
      rintro e a3 W3 hp
      cases e with
      | normal =>
        obtain ⟨hi3, b3⟩ := hp
        have hl3 : W3.heap[l]? = some (.loop { R .ready with state := .busy }) := (b3.block l (Array.getElem?_eq_some_iff.1 hl2).1 hOl).trans hl2
        have hlt3 : l < W3.heap.size := (Array.getElem?_eq_some_iff.1 hl3).1
        have he := run_endRound (P := P) none hl3
        have hi4 : I (pre ++ [x]) (W3.putObj l (.loop (R .ready))) := hI _ _ _ hi3 (fun k hk => World.putObj_heap_other (fun e => hOl (by rw [← e]; exact hk)))
        have hl4 : (W3.putObj l (.loop (R .ready))).heap[l]? = some (.loop (R .ready)) := World.putObj_heap_same hlt3
        refine ⟨_, _, ?_, rfl, ⟨hi4, hl4⟩, (b2.trans (b3.mono (fun k hk => .inl hk))).trans (But.putObj W3 l _ (.inr rfl))⟩
        rw [hR] at he ⊢
        exact he
      | ret => exact hp.elim
      | exit id => exact hp.elim
      | goto t => exact hp.elim
      | panic ch => exact hp.elim
      | outgrown => exact hp.elim
    · rintro e W5 ⟨⟨v, rfl⟩, ⟨hi5, hl5⟩, b5⟩
      have hD5 : W5.heap[w.heap.size]? = some (.deferred (some [])) := (b5.block w.heap.size (by omega) (fun e => by rcases e with e | e; exact hOD e; omega)).trans hD1
      have he := run_endLoop (P := P) hl5 (by rw [hR]; simp)
      refine ⟨none, _, by rw [hR] at he; exact he, hdone w.heap.size _ (Nat.le_refl _) (hI _ _ _ hi5 (fun k hk => World.putObj_heap_other (fun e => hOl (by rw [← e]; exact hk)))) ?_ ((World.putObj_heap_other (by omega)).trans hD5)⟩
      have b6 : ∀ o, But (fun k => O k ∨ k = l) W1 (W5.putObj l o) := fun o => b5.trans (But.putObj W5 l o (.inr rfl))
      exact ⟨(b6 _).os.trans (b1 O).os, (b6 _).tape.trans (b1 O).tape, (b6 _).output.trans (b1 O).output, Nat.le_trans (b1 O).size (b6 _).size, fun k hk ho => ((b6 _).block k (by omega) (fun e => by rcases e with e | e; exact ho e; omega)).trans ((b1 O).block k hk ho)⟩

/-- The same inside a round of another loop. -/
theorem rangeFunc_gives_in {α : Type} {n : Nat} {P : Program} {g : Operand} {ps : Array Tmp} {assign body : Code} {Q : Exit → Act → World → Prop} {a : Act} {w : World} {l₀ : Nat} {r₀ : Loop} (hl₀ : w.heap[l₀]? = some (.loop r₀))
    {gf : Nat} {lb : Array Value} (hg : a.eval g = .func (.func gf) #[] lb) (eg : ∀ args w, (callFunc gf args).run P w = .ok (.enter gf args) w)
    {encs : α → Array Value} {S : List α} {O : Nat → Prop} (hO : ∀ k, O k → k < w.heap.size) (hG : Gives P gf lb encs S O w) (hps : ∀ x, (encs x).size = ps.size)
    (I : List α → World → Prop) (hI : LocalJ O I) (h0 : I [] w) (a₁ : α → Act)
    (hassign : ∀ (l m : Nat) (x : α) (W : World) (K : Act → World → Prop), K (a₁ x) W →
      assign.wpIn ((Fence.wide.inRound l₀).inRound l) m P (Exit.then K (fun _ _ _ => False)) { tmps := (ps.zip (encs x)).foldl (fun t (p, v) => t.setIfInBounds p v) a.tmps, defers := [] } W)
    (hbody : ∀ (l m : Nat) (pre : List α) (x : α) (W : World), I pre W → But O w W → pre ++ [x] <+: S → body.wpIn ((Fence.wide.inRound l₀).inRound l) m P (goesOn fun W' => I (pre ++ [x]) W' ∧ But O W W') (a₁ x) W)
    (hdone : ∀ (W : World), I S W → But O w W → Q .normal a W) :
    (Code.rangeFunc g ps assign body).wpIn (Fence.wide.inRound l₀) n P Q a w := by
  refine wpIn_rangeFunc ?_
  intro fn hfn
  obtain ⟨R, hR⟩ : ∃ R : LoopState → Loop, R = fun st => { state := st, pending := none, fn, tmps := a.tmps, params := ps, assign, body, defers := r₀.defers } := ⟨_, rfl⟩
  obtain ⟨l, hl⟩ : ∃ l, w.heap.size = l := ⟨_, rfl⟩
  obtain ⟨W1, hW1⟩ : ∃ W1, w.alloc (.loop (R .ready)) = W1 := ⟨_, rfl⟩
  have hs1 : W1.heap.size = w.heap.size + 1 := by rw [← hW1]; simp
  have hOl : ¬ O l := fun e => by have := hO l e; omega
  have hL1 : W1.heap[l]? = some (.loop (R .ready)) := by rw [← hW1, ← hl]; exact World.alloc_heap_new w _
  have b1 : ∀ O', But O' w W1 := fun O' => by
    rw [← hW1]; exact But.of_grown (grown_alloc (World.grownBy.refl w none) _) (fun g e => by cases e)
  have hI1 : I [] W1 := hI _ _ _ h0 (fun k hk => (b1 (fun _ => False)).block k (hO k hk) (fun e => e))
  refine ⟨l, [], W1, { target := .fn (.func gf) lb, args := #[.func (.yield l) #[] #[]] }, W1, gf, #[.func (.yield l) #[] #[]] ++ lb, W1, ?_, ?_, fun _ _ => trivial, ?_, (fun h => by simp [Fence.wide, Fence.inRound] at h), ?_⟩
  · rw [← hW1, ← hl, hR]; exact run_enterLoop_inner hl₀ _ _ _ _ _
  · simp only [resolve, hg]
    simp [go_sem]
  · simp [invoke, go_sem, eg]
  · have loc : LocalJ (fun k => O k ∨ k = l) (fun pre W => I pre W ∧ W.heap[l]? = some (.loop (R .ready))) := fun pre W W' h hk => ⟨hI _ _ _ h.1 (fun k ok => hk k (.inl ok)), (hk l (.inr rfl)).trans h.2⟩
    refine (CallsIn.inRound l₀ (hG (n - 1) l _ W1 (b1 O) (fun k hk => by have := hO k hk; omega) (by omega) hOl (by omega) loc ?_ ⟨hI1, hL1⟩)).mono ?_
    · rintro pre x W m ⟨hi, hlW⟩ bW hlen
      have hlt : l < W.heap.size := (Array.getElem?_eq_some_iff.1 hlW).1
      have hy := run_yield (P := P) (args := encs x) hlW (by rw [hR]; exact hps x)
      rw [hR] at hy
      refine ⟨fn, _, assign, body, hy, roundIn_of_wpIn (F := Fence.wide.inRound l₀) hfn (hassign l m x W _ ⟨_, run_beginRound hlW (by rw [hR]), ?_⟩)⟩
      clear hy
      obtain ⟨W2, hW2⟩ : ∃ W2, W.putObj l (.loop { R .ready with state := .busy }) = W2 := ⟨_, rfl⟩
      rw [hW2]
      have hl2 : W2.heap[l]? = some (.loop { R .ready with state := .busy }) := by rw [← hW2]; exact World.putObj_heap_same hlt
      have b2 : But (fun k => O k ∨ k = l) W W2 := by rw [← hW2]; exact But.putObj W l _ (.inr rfl)
      have hi2 : I pre W2 := hI _ _ _ hi (fun k hk => by rw [← hW2]; exact World.putObj_heap_other (fun e => hOl (by rw [← e]; exact hk)))
      have bw2 : But O w W2 := by
        have h := bW.trans b2
        exact ⟨h.os.trans (b1 O).os, h.tape.trans (b1 O).tape, h.output.trans (b1 O).output, Nat.le_trans (b1 O).size h.size, fun k hk ho => (h.block k (by omega) (fun e => by rcases e with e | e; exact ho e; omega)).trans ((b1 O).block k hk ho)⟩
      refine wpIn_mono (hbody l m pre x W2 hi2 bw2 hlen) ?_
      rintro e a3 W3 hp
      cases e with
      | normal =>
        obtain ⟨hi3, b3⟩ := hp
        have hl3 : W3.heap[l]? = some (.loop { R .ready with state := .busy }) := (b3.block l (Array.getElem?_eq_some_iff.1 hl2).1 hOl).trans hl2
        have hlt3 : l < W3.heap.size := (Array.getElem?_eq_some_iff.1 hl3).1
        have he := run_endRound (P := P) none hl3
        have hi4 : I (pre ++ [x]) (W3.putObj l (.loop (R .ready))) := hI _ _ _ hi3 (fun k hk => World.putObj_heap_other (fun e => hOl (by rw [← e]; exact hk)))
        have hl4 : (W3.putObj l (.loop (R .ready))).heap[l]? = some (.loop (R .ready)) := World.putObj_heap_same hlt3
        refine ⟨_, _, ?_, rfl, ⟨hi4, hl4⟩, (b2.trans (b3.mono (fun k hk => .inl hk))).trans (But.putObj W3 l _ (.inr rfl))⟩
        rw [hR] at he ⊢
        exact he
      | ret => exact hp.elim
      | exit id => exact hp.elim
      | goto t => exact hp.elim
      | panic ch => exact hp.elim
      | outgrown => exact hp.elim
    · rintro e W5 ⟨⟨v, rfl⟩, ⟨hi5, hl5⟩, b5⟩
      have he := run_endLoop (P := P) hl5 (by rw [hR]; simp)
      have b6 : ∀ o, But (fun k => O k ∨ k = l) W1 (W5.putObj l o) := fun o => b5.trans (But.putObj W5 l o (.inr rfl))
      exact ⟨none, _, by rw [hR] at he; exact he, hdone _ (hI _ _ _ hi5 (fun k hk => World.putObj_heap_other (fun e => hOl (by rw [← e]; exact hk))))
        ⟨(b6 _).os.trans (b1 O).os, (b6 _).tape.trans (b1 O).tape, (b6 _).output.trans (b1 O).output, Nat.le_trans (b1 O).size (b6 _).size, fun k hk ho => ((b6 _).block k (by omega) (fun e => by rcases e with e | e; exact ho e; omega)).trans ((b1 O).block k hk ho)⟩⟩

end Go.Proofs.Ytdhgfbdanijgaaa

namespace Go.Proofs.Ytdhgfbdanijgaaa
open Go.RowKit Go.Shelf

attribute [local go_sem] Oper.semAt_some

/-- The first k columns of a row. -/
def sCol (r : Nat) : Nat → List (Nat × Nat)
  | 0 => []
  | k + 1 => sCol r k ++ [(r, k)]
/-- The first r rows of W columns. -/
def sTo (W : Nat) : Nat → List (Nat × Nat)
  | 0 => []
  | r + 1 => sTo W r ++ sCol r W
theorem sCol_len (r : Nat) : ∀ k, (sCol r k).length = k
  | 0 => rfl
  | k + 1 => by simp [sCol, sCol_len r k]
theorem sTo_len (W : Nat) : ∀ r, (sTo W r).length = r * W
  | 0 => by simp [sTo]
  | r + 1 => by simp [sTo, sTo_len W r, sCol_len, Nat.succ_mul]
theorem sCol_pre (r : Nat) {k m : Nat} (h : k ≤ m) : sCol r k <+: sCol r m := by
  induction m with
  | zero => obtain rfl : k = 0 := by omega
            exact List.prefix_refl _
  | succ m ih =>
    by_cases e : k = m + 1
    · subst e; exact List.prefix_refl _
    · exact (ih (by omega)).trans (List.prefix_append _ _)
theorem sTo_pre (W : Nat) {k m : Nat} (h : k ≤ m) : sTo W k <+: sTo W m := by
  induction m with
  | zero => obtain rfl : k = 0 := by omega
            exact List.prefix_refl _
  | succ m ih =>
    by_cases e : k = m + 1
    · subst e; exact List.prefix_refl _
    · exact (ih (by omega)).trans (List.prefix_append _ _)
/-- Where a row is not at its end, what has come and one more is a beginning of all. -/
theorem spot_pre {W H r k : Nat} (hr : r < H) (hk : k < W) : sTo W r ++ sCol r k ++ [(r, k)] <+: sTo W H := by
  have h1 : sTo W r ++ sCol r (k + 1) <+: sTo W (r + 1) := (List.prefix_append_right_inj _).2 (sCol_pre r (by omega))
  rw [List.append_assoc]
  exact h1.trans (sTo_pre W (by omega))

theorem sCol_mem {r k : Nat} {x : Nat × Nat} : x ∈ sCol r k → x.1 = r ∧ x.2 < k := by
  induction k with
  | zero => intro h; simp [sCol] at h
  | succ k ih =>
    intro h
    simp only [sCol, List.mem_append, List.mem_singleton] at h
    rcases h with h | h
    · have := ih h; omega
    · subst h; simp
theorem sTo_mem {W r : Nat} {x : Nat × Nat} : x ∈ sTo W r → x.1 < r ∧ x.2 < W := by
  induction r with
  | zero => intro h; simp [sTo] at h
  | succ r ih =>
    intro h
    simp only [sTo, List.mem_append] at h
    rcases h with h | h
    · have := ih h; omega
    · have := sCol_mem h; omega

set_option maxRecDepth 100000 in
set_option maxHeartbeats 1600000 in
theorem spots1_in (F : Fence) (n : Nat) (hf : F.fn 44) (hro : F.round = none) (hn : 1 ≤ n) (l Bn wd ht : Nat) (hwd : wd ≤ 4096) (hht : ht ≤ 4096) (J Jx : List (Nat × Nat) → World → Prop)
    (hY : ∀ pre (x : Nat × Nat) W, J pre W → pre ++ [x] <+: sTo wd ht → YieldAt F (n - 1) Try.prog l #[.int .i64 (x.1 : Int), .int .i64 (x.2 : Int)] W fun e W' =>
      (e = .returned (.bool true) ∧ J (pre ++ [x]) W' ∧ W'.heap[Bn]? = W.heap[Bn]?) ∨ (e = .returned (.bool false) ∧ Jx (pre ++ [x]) W'))
    (W : World) (hBn : W.heap[Bn]? = some (.cells #[.int .i64 (wd : Int), .int .i64 (ht : Int)] 73 (0, 0))) (h0 : J [] W) :
    CallsIn F n Try.prog 44 #[.func (.yield l) #[] #[], .pointer (some ⟨Bn, 0, none⟩)] W fun e W' => (∃ v, e = .returned v) ∧
      ((∃ ys, ys = sTo wd ht ∧ J ys W') ∨ (∃ pre, pre <+: sTo wd ht ∧ Jx pre W')) := by
  refine callsIn_of_wp Try.func44 rfl hf ?_ hro
  simp only [Try.ntmps44, List.size_toArray, List.length_cons, List.length_nil, Nat.reduceAdd, Nat.reduceSub, Array.replicate_succ, Array.replicate_zero, List.push_toArray, List.append_toArray, List.nil_append, List.cons_append]
  have cb := areaCells hBn
  gi_wp2
  gi_loopw [7] (fun i wr => ∃ r : Nat, r ≤ ht ∧ i = .int .i64 r ∧ J (sTo wd r) wr ∧ wr.heap[Bn]? = some (.cells #[.int .i64 (wd : Int), .int .i64 (ht : Int)] 73 (0, 0))) (fun i _ => ht - (intOf i).toNat)
  case atStart => exact ⟨0, Nat.zero_le _, rfl, h0, hBn⟩
  case round =>
    obtain ⟨r, hr, rfl, hJr, hbr⟩ := hrel
    by_cases hlt : r < ht
    · have cr := areaCells hbr
      gi_wp2
      gi_loopw [12] (fun i wr => ∃ k : Nat, k ≤ wd ∧ i = .int .i64 k ∧ J (sTo wd r ++ sCol r k) wr ∧ wr.heap[Bn]? = some (.cells #[.int .i64 (wd : Int), .int .i64 (ht : Int)] 73 (0, 0))) (fun i _ => wd - (intOf i).toNat)
      case atStart => exact ⟨0, Nat.zero_le _, rfl, by rw [sCol, List.append_nil]; exact hJr, hbr⟩
      case round =>
        obtain ⟨k, hk, rfl, hJk, hbk⟩ := hrel
        by_cases hltk : k < wd
        · have hlen := spot_pre (W := wd) (H := ht) hlt hltk
          obtain ⟨fn, tmps, assign, body, hy, hR⟩ := hY (sTo wd r ++ sCol r k) (r, k) wr hJk hlen
          dsimp only at hy
          gi_wp2
          refine hR.mono ?_
          rintro e W3 (⟨rfl, hJ3, hk3⟩ | ⟨rfl, hJx3⟩)
          · have hb3 : W3.heap[Bn]? = some (.cells #[.int .i64 (wd : Int), .int .i64 (ht : Int)] 73 (0, 0)) := hk3.trans hbk
            gi_wp2
            go_roundw
            case rel => exact ⟨k + 1, by omega, by go_num, by rw [sCol, ← List.append_assoc]; exact hJ3, hb3⟩
            case measure => simp [intOf]; omega
          · gi_wp2
            refine bodyPost_ret (results_none rfl _ _ _) rfl ?_
            exact ⟨⟨_, rfl⟩, .inr ⟨_, spot_pre hlt hltk, hJx3⟩⟩
        · obtain rfl : k = wd := by omega
          gi_wp2
          go_roundw
          case rel => exact ⟨r + 1, by omega, by go_num, by rw [sTo]; exact hJk, hbk⟩
          case measure => simp [intOf]; omega
    · obtain rfl : r = ht := by omega
      gi_wp2
      go_end0
      exact ⟨⟨_, rfl⟩, .inl ⟨_, rfl, hJr⟩⟩

/-- The spots of an area, given to a loop whose body always goes on. -/
theorem spots_gives (Bn wd ht : Nat) (hwd : wd ≤ 4096) (hht : ht ≤ 4096) (O : Nat → Prop) (w : World) (hBn : w.heap[Bn]? = some (.cells #[.int .i64 (wd : Int), .int .i64 (ht : Int)] 73 (0, 0))) (hOB : ¬ O Bn) :
    Gives Try.prog 44 #[.pointer (some ⟨Bn, 0, none⟩)] (fun x : Nat × Nat => #[.int .i64 (x.1 : Int), .int .i64 (x.2 : Int)]) (sTo wd ht) O w := by
  intro n l J W hW _ hl hOl hwl hJ hY h0
  have hlt : Bn < w.heap.size := (Array.getElem?_eq_some_iff.1 hBn).1
  have hBW : W.heap[Bn]? = some (.cells #[.int .i64 (wd : Int), .int .i64 (ht : Int)] 73 (0, 0)) := (hW.block Bn hlt hOB).trans hBn
  have hltW : Bn < W.heap.size := (Array.getElem?_eq_some_iff.1 hBW).1
  have hn1 : ∀ m, CallsIn Fence.wide m Try.prog 44 (#[.func (.yield l) #[] #[]] ++ #[.pointer (some ⟨Bn, 0, none⟩)]) W (fun e W' => (∃ v, e = .returned v) ∧ J (sTo wd ht) W' ∧ But (fun k => O k ∨ k = l) W W') → CallsIn Fence.wide n Try.prog 44 (#[.func (.yield l) #[] #[]] ++ #[.pointer (some ⟨Bn, 0, none⟩)]) W (fun e W' => (∃ v, e = .returned v) ∧ J (sTo wd ht) W' ∧ But (fun k => O k ∨ k = l) W W') := fun m h => callsIn_wide.2 (callsIn_wide.1 h)
  refine hn1 1 ?_
  refine (spots1_in Fence.wide 1 trivial rfl (Nat.le_refl _) l Bn wd ht hwd hht (fun pre W1 => J pre W1 ∧ But (fun k => O k ∨ k = l) W W1) (fun _ _ => False) ?_ W hBW ⟨h0, But.refl _ _⟩).mono ?_
  · rintro pre x W1 ⟨hj, hb⟩ hlen
    obtain ⟨fn, tmps, assign, body, hy, hR⟩ := hY pre x W1 (1 - 1) hj hb hlen
    refine ⟨fn, tmps, assign, body, hy, hR.mono ?_⟩
    rintro e W' ⟨rfl, hj', hb'⟩
    exact .inl ⟨rfl, ⟨hj', hb.trans hb'⟩, hb'.block Bn (Nat.lt_of_lt_of_le hltW hb.size) (fun e => by rcases e with e | e; exact hOB e; omega)⟩
  · rintro e W' ⟨hv, (⟨ys, rfl, hj, hb⟩ | ⟨pre, _, hf⟩)⟩
    · exact ⟨hv, hj, hb⟩
    · exact hf.elim

/-- What makes the function. -/
theorem spots_in (F : Fence) (n : Nat) (hf : F.fn 34) (hro : F.round = none) (a b : Int) (w : World) :
    CallsIn F n Try.prog 34 #[.agg #[.int .i64 a, .int .i64 b]] w fun e w' => e = .returned (.func (.func 44) #[] #[.pointer (some ⟨w.heap.size, 0, none⟩)]) ∧ w' = w.alloc (.cells #[.int .i64 a, .int .i64 b] 73) := by
  refine callsIn_of_wp Try.func34 rfl hf ?_ hro
  simp only [Try.ntmps34, List.size_toArray, List.length_cons, List.length_nil, Nat.reduceAdd, Nat.reduceSub, Array.replicate_succ, Array.replicate_zero, List.push_toArray, List.append_toArray, List.nil_append, List.cons_append]
  gi_wp2
  go_ret
  exact ⟨rfl, rfl⟩

end Go.Proofs.Ytdhgfbdanijgaaa

namespace Go.Proofs.Ytdhgfbdanijgaaa
open Go.RowKit Go.Shelf

theorem sCol_at (r : Nat) : ∀ (k j : Nat), j < k → (sCol r k)[j]? = some (r, j)
  | 0, j, h => by omega
  | k + 1, j, h => by
    rw [sCol]
    by_cases e : j < k
    · rw [List.getElem?_append_left (by rw [sCol_len]; exact e)]
      exact sCol_at r k j e
    · obtain rfl : j = k := by omega
      rw [List.getElem?_append_right (by rw [sCol_len]; exact Nat.le_refl _), sCol_len, Nat.sub_self]
      rfl
theorem sTo_at (W : Nat) : ∀ (H i : Nat) (x : Nat × Nat), (sTo W H)[i]? = some x → x.1 * W + x.2 = i ∧ x.1 < H ∧ x.2 < W
  | 0, i, x, h => by simp [sTo] at h
  | r + 1, i, x, h => by
    rw [sTo] at h
    by_cases e : i < r * W
    · rw [List.getElem?_append_left (by rw [sTo_len]; exact e)] at h
      obtain ⟨h1, h2, h3⟩ := sTo_at W r i x h
      exact ⟨h1, by omega, h3⟩
    · rw [List.getElem?_append_right (by rw [sTo_len]; omega), sTo_len] at h
      have hj : i - r * W < W := by
        have := (List.getElem?_eq_some_iff.1 h).1
        rwa [sCol_len] at this
      rw [sCol_at r W _ hj] at h
      have e2 : (r, i - r * W) = x := Option.some.inj h
      subst e2
      exact ⟨by show r * W + (i - r * W) = i; omega, by show r < r + 1; omega, hj⟩
theorem spot_num {W H : Nat} {pre : List (Nat × Nat)} {x : Nat × Nat} (h : pre ++ [x] <+: sTo W H) : x.1 * W + x.2 = pre.length ∧ x.1 < H ∧ x.2 < W := by
  obtain ⟨rest, e⟩ := h
  refine sTo_at W H pre.length x ?_
  rw [← e, List.append_assoc, List.getElem?_append_right (Nat.le_refl _), Nat.sub_self]
  rfl
theorem spot_less {W H : Nat} {pre : List (Nat × Nat)} {x : Nat × Nat} (h : pre ++ [x] <+: sTo W H) : pre.length < H * W := by
  have := h.length_le
  rw [sTo_len] at this
  simp at this
  omega

end Go.Proofs.Ytdhgfbdanijgaaa

namespace Go.Proofs.Ytdhgfbdanijgaaa
open Go.RowKit

section
variable {P : Program} {ops : Array Oper} {md : Region.Mode} {S : World → Prop} {Q : Exit → Act → World → Prop}

/-- Those that are marked, in the order of the text, each with what it yields; then L. -/
def heldF (P : Program) (ops : Array Oper) (S : World → Prop) (L : Act → Prop) : List Oper → List Bool → Act → Prop
  | o :: rest, true :: ms, a => ∃ v, YieldsIf P ops S o v a ∧ heldF P ops S L rest ms (a.put o.dst v)
  | _ :: rest, false :: ms, a => heldF P ops S L rest ms a
  | _, _, a => L a
theorem heldF_take {L : Act → Prop} {o : Oper} {rest : List Oper} {ms : List Bool} {a : Act} {v : Value} (hy : YieldsIf P ops S o v a) (h : heldF P ops S L rest ms (a.put o.dst v)) : heldF P ops S L (o :: rest) (true :: ms) a := ⟨v, hy, h⟩
theorem heldF_skip {L : Act → Prop} {o : Oper} {rest : List Oper} {ms : List Bool} {a : Act} (h : heldF P ops S L rest ms a) : heldF P ops S L (o :: rest) (false :: ms) a := h
theorem heldF_nil {L : Act → Prop} {a : Act} (h : L a) : heldF P ops S L [] [] a := h

/-- Those that are not marked, in the order of the text; behind each S. -/
def tailF (P : Program) (ops : Array Oper) (Q : Exit → Act → World → Prop) (S : World → Prop) : List Oper → List Bool → Act → World → Prop
  | o :: rest, false :: ms, a, w => ∀ K' : Act → World → Prop, Shut (∀ a w, S w → tailF P ops Q S rest ms a w → K' a w) → if Region.wanted o (yielded ops a.tmps) = true then Oper.wp P o a w K' Q else K' (a.put o.dst undef) w
  | _ :: rest, true :: ms, a, w => tailF P ops Q S rest ms a w
  | _, _, a, w => Q .normal a w
theorem tailF_step {o : Oper} {rest : List Oper} {ms : List Bool} {a : Act} {w : World} (h : ∀ K' : Act → World → Prop, Shut (∀ a w, S w → tailF P ops Q S rest ms a w → K' a w) → if Region.wanted o (yielded ops a.tmps) = true then Oper.wp P o a w K' Q else K' (a.put o.dst undef) w) :
    tailF P ops Q S (o :: rest) (false :: ms) a w := h
theorem tailF_skip {o : Oper} {rest : List Oper} {ms : List Bool} {a : Act} {w : World} (h : tailF P ops Q S rest ms a w) : tailF P ops Q S (o :: rest) (true :: ms) a w := h
theorem tailF_nil {a : Act} {w : World} (h : Q .normal a w) : tailF P ops Q S [] [] a w := h

/-- How many are not marked. -/
def leftF : List Bool → Nat
  | [] => 0
  | true :: ms => leftF ms
  | false :: ms => leftF ms + 1
def takenF : List Bool → Nat
  | [] => 0
  | true :: ms => takenF ms + 1
  | false :: ms => takenF ms
def lexTail (md : Region.Mode) (ops : Array Oper) : List Bool → Nat → Array Bool → Bool
  | [], _, listed => (Region.ready md ops listed).isEmpty
  | true :: ms, k, listed => lexTail md ops ms (k + 1) listed
  | false :: ms, k, listed => (Region.ready md ops listed == [k]) && lexTail md ops ms (k + 1) (listed.setIfInBounds k true)
def lexHeld (md : Region.Mode) (ops : Array Oper) (all : List Bool) : List Bool → Nat → Array Bool → Bool
  | [], _, listed => lexTail md ops all 0 listed
  | true :: ms, k, listed => (Region.ready md ops listed).contains k && Region.free md ops listed k && lexHeld md ops all ms (k + 1) (listed.setIfInBounds k true)
  | false :: ms, k, listed => lexHeld md ops all ms (k + 1) listed

theorem anyH_tail : ∀ (l : List Oper) (ms : List Bool) (k : Nat) (listed : Array Bool) (a : Act) (w : World), l.length = ms.length → (∀ j, j < l.length → l[j]? = ops[k + j]?) →
    lexTail md ops ms k listed = true → tailF P ops Q S l ms a w → wpAnyH P md ops Q S (leftF ms) listed a w
  | [], [], _, listed, a, w, _, _, hB, h => wpAnyH_done (by simpa [lexTail] using hB) h _
  | [], _ :: _, _, _, _, _, hl, _, _, _ => by simp at hl
  | _ :: _, [], _, _, _, _, hl, _, _, _ => by simp at hl
  | o :: l, true :: ms, k, listed, a, w, hl, ha, hB, h =>
    anyH_tail l ms (k + 1) listed a w (by simpa using hl) (fun j hj => by have := ha (j + 1) (by simpa using hj); simpa [Nat.add_assoc, Nat.add_comm 1 j] using this) hB h
  | o :: l, false :: ms, k, listed, a, w, hl, ha, hB, h => by
    have h0 : ops[k]? = some o := by have := ha 0 (by simp); simpa using this.symm
    simp only [lexTail, Bool.and_eq_true, beq_iff_eq] at hB
    refine wpAnyH_all (rs := [k]) hB.1 (by simp) (fun i hi => ?_)
    obtain rfl : i = k := by simpa using hi
    refine wpOp_step h0 (fun K' hK => h K' (fun a' w' hS ht => hK a' w' ⟨hS, ?_⟩))
    exact anyH_tail l ms (i + 1) _ a' w' (by simpa using hl) (fun j hj => by have := ha (j + 1) (by simpa using hj); simpa [Nat.add_assoc, Nat.add_comm 1 j] using this) hB.2 ht

theorem anyH_held {l0 : List Oper} {all : List Bool} (hs : Region.noSelect ops = true) (hQ : ∀ c a d v w, Q (.panic c) (Act.put a d v) w → Q (.panic c) a w) (hl0 : l0.length = all.length) (ha0 : ∀ j, j < l0.length → l0[j]? = ops[0 + j]?) :
    ∀ (l : List Oper) (ms : List Bool) (k : Nat) (listed : Array Bool) (a : Act) (w : World), l.length = ms.length → (∀ j, j < l.length → l[j]? = ops[k + j]?) →
    lexHeld md ops all ms k listed = true → S w → heldF P ops S (fun a' => tailF P ops Q S l0 all a' w) l ms a → wpAnyH P md ops Q S (takenF ms + leftF all) listed a w
  | [], [], _, listed, a, w, _, _, hB, _, h => by
    simp only [takenF, Nat.zero_add]
    exact anyH_tail l0 all 0 listed a w hl0 ha0 hB h
  | [], _ :: _, _, _, _, _, hl, _, _, _, _ => by simp at hl
  | _ :: _, [], _, _, _, _, hl, _, _, _, _ => by simp at hl
  | o :: l, true :: ms, k, listed, a, w, hl, ha, hB, hS, h => by
    have h0 : ops[k]? = some o := by have := ha 0 (by simp); simpa using this.symm
    simp only [lexHeld, Bool.and_eq_true] at hB
    obtain ⟨⟨hr, hf⟩, hB'⟩ := hB
    obtain ⟨v, hy, hK⟩ := h
    have e : takenF (true :: ms) + leftF all = (takenF ms + leftF all) + 1 := by simp only [takenF]; omega
    rw [e]
    exact wpAnyH_take h0 hs hf hr (fun c a' w' hq => hQ c a' _ _ w' hq) hy hS
      (anyH_held hs hQ hl0 ha0 l ms (k + 1) _ _ w (by simpa using hl) (fun j hj => by have := ha (j + 1) (by simpa using hj); simpa [Nat.add_assoc, Nat.add_comm 1 j] using this) hB' hS hK)
  | o :: l, false :: ms, k, listed, a, w, hl, ha, hB, hS, h =>
    anyH_held hs hQ hl0 ha0 l ms (k + 1) listed a w (by simpa using hl) (fun j hj => by have := ha (j + 1) (by simpa using hj); simpa [Nat.add_assoc, Nat.add_comm 1 j] using this) hB hS h

theorem count_all : ∀ ms : List Bool, takenF ms + leftF ms = ms.length
  | [] => rfl
  | true :: ms => by have := count_all ms; simp only [takenF, leftF, List.length_cons]; omega
  | false :: ms => by have := count_all ms; simp only [takenF, leftF, List.length_cons]; omega
end

/-- A region whose operations are written out, and which of them are taken first. -/
theorem wp_region_tail {P : Program} {id : Nat} {Q : Exit → Act → World → Prop} {a : Act} {w : World} {l : List Oper} (S : World → Prop) (ms : List Bool) (hm : P.follows .mixedOrders = true) (hQ : ∀ c a d v w, Q (.panic c) (Act.put a d v) w → Q (.panic c) a w)
    (hl : l.length = ms.length) (hB : (Region.noSelect l.toArray && lexHeld .any l.toArray ms ms 0 (Array.replicate l.length false)) = true)
    (hS : S w.drew) (h : heldF P l.toArray S (fun a' => tailF P l.toArray Q S l ms a' w.drew) l ms a) : (Code.region id l.toArray true).wp P Q a w := by
  rw [Bool.and_eq_true] at hB
  refine wp_region_held_drew (S := S) hm hS (fun _ => ?_)
  have := anyH_held (P := P) (ops := l.toArray) (md := .any) (S := S) (Q := Q) (l0 := l) (all := ms) hB.1 hQ hl (fun j hj => by simp) l ms 0 (Array.replicate l.length false) a w.drew hl (fun j hj => by simp) hB.2 hS h
  rw [count_all ms, ← hl] at this
  simpa using this

/-! The same, what comes behind those that are taken first being told step by step. -/
section
variable {P : Program} {ops : Array Oper} {md : Region.Mode} {S : World → Prop} {Q : Exit → Act → World → Prop}

def listedOf : List Bool → Nat → Array Bool → Array Bool
  | [], _, listed => listed
  | true :: ms, k, listed => listedOf ms (k + 1) (listed.setIfInBounds k true)
  | false :: ms, k, listed => listedOf ms (k + 1) listed
def lexRaw (md : Region.Mode) (ops : Array Oper) : List Bool → Nat → Array Bool → Bool
  | [], _, _ => true
  | true :: ms, k, listed => (Region.ready md ops listed).contains k && Region.free md ops listed k && lexRaw md ops ms (k + 1) (listed.setIfInBounds k true)
  | false :: ms, k, listed => lexRaw md ops ms (k + 1) listed
theorem anyH_raw (f : Nat) (hs : Region.noSelect ops = true) (hQ : ∀ c a d v w, Q (.panic c) (Act.put a d v) w → Q (.panic c) a w) :
    ∀ (l : List Oper) (ms : List Bool) (k : Nat) (listed : Array Bool) (a : Act) (w : World), l.length = ms.length → (∀ j, j < l.length → l[j]? = ops[k + j]?) →
    lexRaw md ops ms k listed = true → S w → heldF P ops S (fun a' => wpAnyH P md ops Q S f (listedOf ms k listed) a' w) l ms a → wpAnyH P md ops Q S (takenF ms + f) listed a w
  | [], [], _, listed, a, w, _, _, _, _, h => by simp only [takenF, Nat.zero_add]; exact h
  | [], _ :: _, _, _, _, _, hl, _, _, _, _ => by simp at hl
  | _ :: _, [], _, _, _, _, hl, _, _, _, _ => by simp at hl
  | o :: l, true :: ms, k, listed, a, w, hl, ha, hB, hS, h => by
    have h0 : ops[k]? = some o := by have := ha 0 (by simp); simpa using this.symm
    simp only [lexRaw, Bool.and_eq_true] at hB
    obtain ⟨⟨hr, hf⟩, hB'⟩ := hB
    obtain ⟨v, hy, hK⟩ := h
    have e : takenF (true :: ms) + f = (takenF ms + f) + 1 := by simp only [takenF]; omega
    rw [e]
    exact wpAnyH_take h0 hs hf hr (fun c a' w' hq => hQ c a' _ _ w' hq) hy hS
      (anyH_raw f hs hQ l ms (k + 1) _ _ w (by simpa using hl) (fun j hj => by have := ha (j + 1) (by simpa using hj); simpa [Nat.add_assoc, Nat.add_comm 1 j] using this) hB' hS hK)
  | o :: l, false :: ms, k, listed, a, w, hl, ha, hB, hS, h =>
    anyH_raw f hs hQ l ms (k + 1) listed a w (by simpa using hl) (fun j hj => by have := ha (j + 1) (by simpa using hj); simpa [Nat.add_assoc, Nat.add_comm 1 j] using this) hB hS h

/-- One alone may come up. -/
theorem anyH_step1 {l : List Oper} {i f : Nat} {o : Oper} {listed : Array Bool} {a : Act} {w : World} (ho : l[i]? = some o) (hr : Region.ready md l.toArray listed = [i])
    (h : ∀ K' : Act → World → Prop, Shut (∀ a w, S w → wpAnyH P md l.toArray Q S f (listed.setIfInBounds i true) a w → K' a w) → if Region.wanted o (yielded l.toArray a.tmps) = true then Oper.wp P o a w K' Q else K' (a.put o.dst undef) w) :
    wpAnyH P md l.toArray Q S (f + 1) listed a w := by
  refine wpAnyH_all (rs := [i]) hr (by simp) (fun j hj => ?_)
  obtain rfl : j = i := by simpa using hj
  exact wpOp_step (by simpa using ho) (fun K' hK => h K' (fun a' w' hS ht => hK a' w' ⟨hS, ht⟩))
/-- One of two may come up. -/
theorem anyH_step2 {l : List Oper} {i j f : Nat} {oi oj : Oper} {listed : Array Bool} {a : Act} {w : World} (hoi : l[i]? = some oi) (hoj : l[j]? = some oj) (hr : Region.ready md l.toArray listed = [i, j])
    (hi : ∀ K' : Act → World → Prop, Shut (∀ a w, S w → wpAnyH P md l.toArray Q S f (listed.setIfInBounds i true) a w → K' a w) → if Region.wanted oi (yielded l.toArray a.tmps) = true then Oper.wp P oi a w K' Q else K' (a.put oi.dst undef) w)
    (hj : ∀ K' : Act → World → Prop, Shut (∀ a w, S w → wpAnyH P md l.toArray Q S f (listed.setIfInBounds j true) a w → K' a w) → if Region.wanted oj (yielded l.toArray a.tmps) = true then Oper.wp P oj a w K' Q else K' (a.put oj.dst undef) w) :
    wpAnyH P md l.toArray Q S (f + 1) listed a w := by
  refine wpAnyH_all (rs := [i, j]) hr (by simp) (fun q hq => ?_)
  rcases List.mem_cons.1 hq with rfl | hq
  · exact wpOp_step (by simpa using hoi) (fun K' hK => hi K' (fun a' w' hS ht => hK a' w' ⟨hS, ht⟩))
  · obtain rfl : q = j := by simpa using hq
    exact wpOp_step (by simpa using hoj) (fun K' hK => hj K' (fun a' w' hS ht => hK a' w' ⟨hS, ht⟩))
end

theorem wp_region_raw {P : Program} {id : Nat} {Q : Exit → Act → World → Prop} {a : Act} {w : World} {l : List Oper} (S : World → Prop) (ms : List Bool) (hm : P.follows .mixedOrders = true) (hQ : ∀ c a d v w, Q (.panic c) (Act.put a d v) w → Q (.panic c) a w)
    (hl : l.length = ms.length) (hB : (Region.noSelect l.toArray && lexRaw .any l.toArray ms 0 (Array.replicate l.length false)) = true)
    (hS : S w.drew) (h : heldF P l.toArray S (fun a' => wpAnyH P .any l.toArray Q S (leftF ms) (listedOf ms 0 (Array.replicate l.length false)) a' w.drew) l ms a) : (Code.region id l.toArray true).wp P Q a w := by
  rw [Bool.and_eq_true] at hB
  refine wp_region_held_drew (S := S) hm hS (fun _ => ?_)
  have := anyH_raw (P := P) (ops := l.toArray) (md := .any) (S := S) (Q := Q) (leftF ms) hB.1 hQ l ms 0 (Array.replicate l.length false) a w.drew hl (fun j hj => by simp) hB.2 hS h
  rw [count_all ms, ← hl] at this
  simpa using this

end Go.Proofs.Ytdhgfbdanijgaaa

namespace Go.Proofs.Ytdhgfbdanijgaaa
open Go.RowKit Go.Shelf

section
variable {P : Program} {ops : Array Oper} {md : Region.Mode} {Q : Exit → Act → World → Prop}

def noDefer : List Oper → Bool
  | [] => true
  | o :: r => (match o.op with | .defer _ => false | _ => true) && noDefer r
theorem noDefer_at : ∀ {l : List Oper}, noDefer l = true → ∀ (i : Nat) (o : Oper), l[i]? = some o → ∀ c, o.op ≠ .defer c
  | [], _, i, o, h, _ => by simp at h
  | x :: r, hn, i, o, h, c => by
    simp only [noDefer, Bool.and_eq_true] at hn
    cases i with
    | zero =>
      have e : x = o := by simpa using h
      subst e
      intro e2
      simp [e2] at hn
    | succ i => exact noDefer_at hn.2 i o (by simpa using h) c

theorem rows_round {row : String} {args : Array Value} {w : World} {R : Value → World → Prop} (l n : Nat) (h : Rows P row args w R) : RowsIn (Fence.wide.inRound l) n P row args w R := fun c cs _ => by
  obtain ⟨v, w', r, s⟩ := h c cs
  refine ⟨v, w', r, ?_⟩
  rw [fenced_inRound]
  exact stepsIn_wide.2 s

theorem wpOp_round {l n i : Nat} {K : Act → World → Prop} {a : Act} {w : World} (hnd : ∀ (i : Nat) (o : Oper), ops[i]? = some o → ∀ c, o.op ≠ .defer c) (hQ : ∀ a w, ¬ Q .outgrown a w) (h : wpOp P ops Q i K a w) : wpOpIn (Fence.wide.inRound l) n P ops Q i K a w := by
  unfold wpOp at h
  unfold wpOpIn
  cases ho : ops[i]? with
  | none => simp only [ho] at h; exact h
  | some o =>
    simp only [ho] at h
    by_cases hw : Region.wanted o (yielded ops a.tmps) = true
    · simp only [hw, if_true] at h ⊢
      rcases h with h | ⟨_, a0, w0, hq⟩
      · unfold Oper.wp at h
        refine ⟨fun _ _ => trivial, ?_⟩
        rw [Oper.semAt_eq _ _ _ (hnd i o ho)]
        generalize (execOp a.eval o).run P w = r at h ⊢
        cases r with
        | ok x w' =>
          cases x with
          | enter f args => exact ⟨fun e => by simp [Fence.wide, Fence.inRound] at e, CallsIn.inRound l (callsIn_wide.2 h)⟩
          | row rw' args => exact ⟨fun e => by simp [Fence.wide, Fence.inRound] at e, rows_round l _ h⟩
          | _ => first | exact h | exact h.elim
        | halt x w' => cases x <;> first | exact h | exact h.elim
      · exact (hQ _ _ hq).elim
    · simp only [hw, if_false, Bool.false_eq_true] at h ⊢
      exact ⟨fun _ _ => trivial, h⟩

theorem wpAny_round {l n : Nat} (hnd : ∀ (i : Nat) (o : Oper), ops[i]? = some o → ∀ c, o.op ≠ .defer c) (hQ : ∀ a w, ¬ Q .outgrown a w) : ∀ (fuel : Nat) (listed : Array Bool) (a : Act) (w : World), wpAny P md ops Q fuel listed a w → wpAnyIn (Fence.wide.inRound l) n P md ops Q fuel listed a w
  | 0, _, _, _, h => h
  | fuel + 1, _, _, _, h => ⟨h.1, fun i hi => wpOpIn_mono (fun a' w' h' => wpAny_round hnd hQ fuel _ a' w' h') (wpOp_round hnd hQ (h.2 i hi))⟩
end

/-- A region that draws its order, inside of a round. -/
theorem wpIn_raw {P : Program} {id l0 n : Nat} {Q : Exit → Act → World → Prop} {a : Act} {w : World} {l : List Oper} (S : World → Prop) (ms : List Bool) (hm : P.follows .mixedOrders = true) (hQo : ∀ a w, ¬ Q .outgrown a w) (hQ : ∀ c a d v w, Q (.panic c) (Act.put a d v) w → Q (.panic c) a w)
    (hl : l.length = ms.length) (hnd : noDefer l = true) (hB : (Region.noSelect l.toArray && lexRaw .any l.toArray ms 0 (Array.replicate l.length false)) = true)
    (hS : S w.drew) (h : heldF P l.toArray S (fun a' => wpAnyH P .any l.toArray Q S (leftF ms) (listedOf ms 0 (Array.replicate l.length false)) a' w.drew) l ms a) : (Code.region id l.toArray true).wpIn (Fence.wide.inRound l0) n P Q a w := by
  rw [Bool.and_eq_true] at hB
  have := anyH_raw (P := P) (ops := l.toArray) (md := .any) (S := S) (Q := Q) (leftF ms) hB.1 hQ l ms 0 (Array.replicate l.length false) a w.drew hl (fun j hj => by simp) hB.2 hS h
  rw [count_all ms, ← hl] at this
  refine wpIn_region_any hm (wpAny_round (fun i o ho c => noDefer_at hnd i o (by simpa using ho) c) hQo _ _ _ _ ?_)
  have h2 := wpAny_of_held _ _ _ _ this
  rw [List.size_toArray]
  exact h2

/-- What an iterator gives a loop whose body may also return: all of S, or a beginning of it. -/
def Stops {α : Type} (P : Program) (g : Nat) (lb : Array Value) (encs : α → Array Value) (S : List α) (O : Nat → Prop) (w : World) : Prop :=
  ∀ (n l : Nat) (J : List α → World → Prop) (Jx : World → Prop) (W : World), But O w W → (∀ k, O k → k < W.heap.size) → l < W.heap.size → ¬ O l → w.heap.size ≤ l → LocalJ (fun k => O k ∨ k = l) J →
    (∀ pre x W1 m, J pre W1 → But (fun k => O k ∨ k = l) W W1 → pre ++ [x] <+: S → YieldAt Fence.wide m P l (encs x) W1 fun e W' => ((e = .returned (.bool true) ∧ J (pre ++ [x]) W') ∨ (e = .returned (.bool false) ∧ Jx W')) ∧ But (fun k => O k ∨ k = l) W1 W') → J [] W →
    CallsIn Fence.wide n P g (#[.func (.yield l) #[] #[]] ++ lb) W fun e W' => (∃ v, e = .returned v) ∧ (J S W' ∨ Jx W') ∧ But (fun k => O k ∨ k = l) W W'

/-- How the body of a round is left. -/
def onOrRet (R Rx : World → Prop) : Exit → Act → World → Prop
  | .normal, _, W' => R W'
  | .ret, _, W' => Rx W'
  | _, _, _ => False

theorem rangeFunc_stops {α : Type} {n : Nat} {P : Program} {g : Operand} {ps : Array Tmp} {assign body : Code} {Q : Exit → Act → World → Prop} {a : Act} {w : World}
    {gf : Nat} {lb : Array Value} (hg : a.eval g = .func (.func gf) #[] lb) (eg : ∀ args w, (callFunc gf args).run P w = .ok (.enter gf args) w)
    {encs : α → Array Value} {S : List α} {O : Nat → Prop} (hO : ∀ k, O k → k < w.heap.size) (hG : Stops P gf lb encs S O w) (hps : ∀ x, (encs x).size = ps.size)
    (I : List α → World → Prop) (hI : LocalJ O I) (Ix : World → Prop) (hIx : ∀ W W', Ix W → (∀ k, O k → W'.heap[k]? = W.heap[k]?) → Ix W') (h0 : I [] w) (a₁ : α → Act)
    (hassign : ∀ (l m : Nat) (x : α) (W : World) (K : Act → World → Prop), K (a₁ x) W →
      assign.wpIn (Fence.wide.inRound l) m P (Exit.then K (fun _ _ _ => False)) { tmps := (ps.zip (encs x)).foldl (fun t (p, v) => t.setIfInBounds p v) a.tmps, defers := [] } W)
    (hbody : ∀ (l m : Nat) (pre : List α) (x : α) (W : World), I pre W → But O w W → pre ++ [x] <+: S → body.wpIn (Fence.wide.inRound l) m P (onOrRet (fun W' => I (pre ++ [x]) W' ∧ But O W W') (fun W' => Ix W' ∧ But O W W')) (a₁ x) W)
    (hdone : ∀ (D : Nat) (W : World), w.heap.size ≤ D → I S W → But O w W → W.heap[D]? = some (.deferred (some [])) → Q .normal { a with defers := { target := .collected D, args := #[] } :: a.defers } W)
    (hstop : ∀ (D : Nat) (W : World), w.heap.size ≤ D → Ix W → But O w W → W.heap[D]? = some (.deferred (some [])) → Q .ret { a with defers := { target := .collected D, args := #[] } :: a.defers } W) :
    (Code.rangeFunc g ps assign body).wpIn Fence.wide n P Q a w := by
  refine wpIn_rangeFunc ?_
  intro fn hfn
  obtain ⟨R, hR⟩ : ∃ R : LoopState → Option Code → Loop, R = fun st pe => { state := st, pending := pe, fn, tmps := a.tmps, params := ps, assign, body, defers := w.heap.size } := ⟨_, rfl⟩
  obtain ⟨l, hl⟩ : ∃ l, w.heap.size + 1 = l := ⟨_, rfl⟩
  obtain ⟨W1, hW1⟩ : ∃ W1, (w.alloc (.deferred (some []))).alloc (.loop (R .ready none)) = W1 := ⟨_, rfl⟩
  have hs1 : W1.heap.size = w.heap.size + 2 := by rw [← hW1]; simp
  have hOl : ¬ O l := fun e => by have := hO l e; omega
  have hOD : ¬ O w.heap.size := fun e => by have := hO _ e; omega
  have hL1 : W1.heap[l]? = some (.loop (R .ready none)) := by
    rw [← hW1, ← hl]; have := World.alloc_heap_new (w.alloc (.deferred (some []))) (.loop (R .ready none)); rwa [World.size_alloc] at this
  have hD1 : W1.heap[w.heap.size]? = some (.deferred (some [])) := by
    rw [← hW1]; exact (Below.heap_alloc _ _ _ (by simp)).trans (World.alloc_heap_new w _)
  have b1 : ∀ O', But O' w W1 := fun O' => by
    rw [← hW1]; exact But.of_grown (grown_alloc (grown_alloc (World.grownBy.refl w none) _) _) (fun g e => by cases e)
  have hI1 : I [] W1 := hI _ _ _ h0 (fun k hk => (b1 (fun _ => False)).block k (hO k hk) (fun e => e))
  refine ⟨l, [{ target := .collected w.heap.size, args := #[] }], W1, { target := .fn (.func gf) lb, args := #[.func (.yield l) #[] #[]] }, W1, gf, #[.func (.yield l) #[] #[]] ++ lb, W1, ?_, ?_, fun _ _ => trivial, ?_, (fun h => by simp [Fence.wide] at h), ?_⟩
  · rw [← hW1, ← hl, hR]; exact run_enterLoop_outer _ _ _ _ _
  · simp only [resolve, hg]
    simp [go_sem]
  · simp [invoke, go_sem, eg]
  · have loc : LocalJ (fun k => O k ∨ k = l) (fun pre W => I pre W ∧ W.heap[l]? = some (.loop (R .ready none))) := fun pre W W' h hk => ⟨hI _ _ _ h.1 (fun k ok => hk k (.inl ok)), (hk l (.inr rfl)).trans h.2⟩
    refine (hG (n - 1) l _ (fun W => Ix W ∧ W.heap[l]? = some (.loop (R .done (some .ret)))) W1 (b1 O) (fun k hk => by have := hO k hk; omega) (by omega) hOl (by omega) loc ?_ ⟨hI1, hL1⟩).mono ?_
    · rintro pre x W m ⟨hi, hlW⟩ bW hlen
      have hlt : l < W.heap.size := (Array.getElem?_eq_some_iff.1 hlW).1
      have hy := run_yield (P := P) (args := encs x) hlW (by rw [hR]; exact hps x)
      rw [hR] at hy
      refine ⟨fn, _, assign, body, hy, roundIn_of_wpIn hfn (hassign l m x W _ ⟨_, run_beginRound hlW (by rw [hR]), ?_⟩)⟩
      clear hy
      obtain ⟨W2, hW2⟩ : ∃ W2, W.putObj l (.loop { R .ready none with state := .busy }) = W2 := ⟨_, rfl⟩
      rw [hW2]
      have hl2 : W2.heap[l]? = some (.loop { R .ready none with state := .busy }) := by rw [← hW2]; exact World.putObj_heap_same hlt
      have b2 : But (fun k => O k ∨ k = l) W W2 := by rw [← hW2]; exact But.putObj W l _ (.inr rfl)
      have hi2 : I pre W2 := hI _ _ _ hi (fun k hk => by rw [← hW2]; exact World.putObj_heap_other (fun e => hOl (by rw [← e]; exact hk)))
      have bw2 : But O w W2 := by
        have h := bW.trans b2
        exact ⟨h.os.trans (b1 O).os, h.tape.trans (b1 O).tape, h.output.trans (b1 O).output, Nat.le_trans (b1 O).size h.size, fun k hk ho => (h.block k (by omega) (fun e => by rcases e with e | e; exact ho e; omega)).trans ((b1 O).block k hk ho)⟩
      refine wpIn_mono (hbody l m pre x W2 hi2 bw2 hlen) ?_
      rintro e a3 W3 hp
      cases e with
      | normal =>
        obtain ⟨hi3, b3⟩ := hp
        have hl3 : W3.heap[l]? = some (.loop { R .ready none with state := .busy }) := (b3.block l (Array.getElem?_eq_some_iff.1 hl2).1 hOl).trans hl2
        have hlt3 : l < W3.heap.size := (Array.getElem?_eq_some_iff.1 hl3).1
        have he := run_endRound (P := P) none hl3
        have hi4 : I (pre ++ [x]) (W3.putObj l (.loop (R .ready none))) := hI _ _ _ hi3 (fun k hk => World.putObj_heap_other (fun e => hOl (by rw [← e]; exact hk)))
        have hl4 : (W3.putObj l (.loop (R .ready none))).heap[l]? = some (.loop (R .ready none)) := World.putObj_heap_same hlt3
        refine ⟨_, _, ?_, .inl ⟨rfl, hi4, hl4⟩, (b2.trans (b3.mono (fun k hk => .inl hk))).trans (But.putObj W3 l _ (.inr rfl))⟩
        rw [hR] at he ⊢
        exact he
      | ret =>
        obtain ⟨hi3, b3⟩ := hp
        have hl3 : W3.heap[l]? = some (.loop { R .ready none with state := .busy }) := (b3.block l (Array.getElem?_eq_some_iff.1 hl2).1 hOl).trans hl2
        have hlt3 : l < W3.heap.size := (Array.getElem?_eq_some_iff.1 hl3).1
        have he := run_endRound (P := P) (some .ret) hl3
        have hi4 : Ix (W3.putObj l (.loop (R .done (some .ret)))) := hIx _ _ hi3 (fun k hk => World.putObj_heap_other (fun e => hOl (by rw [← e]; exact hk)))
        have hl4 : (W3.putObj l (.loop (R .done (some .ret)))).heap[l]? = some (.loop (R .done (some .ret))) := World.putObj_heap_same hlt3
        refine ⟨_, _, ?_, .inr ⟨rfl, hi4, hl4⟩, (b2.trans (b3.mono (fun k hk => .inl hk))).trans (But.putObj W3 l _ (.inr rfl))⟩
        rw [hR] at he ⊢
        exact he
      | exit id => exact hp.elim
      | goto t => exact hp.elim
      | panic ch => exact hp.elim
      | outgrown => exact hp.elim
    · rintro e W5 ⟨⟨v, rfl⟩, hor, b5⟩
      have hD5 : W5.heap[w.heap.size]? = some (.deferred (some [])) := (b5.block w.heap.size (by omega) (fun e => by rcases e with e | e; exact hOD e; omega)).trans hD1
      have b6 : ∀ o, But (fun k => O k ∨ k = l) W1 (W5.putObj l o) := fun o => b5.trans (But.putObj W5 l o (.inr rfl))
      have b7 : ∀ o, But O w (W5.putObj l o) := fun o => ⟨(b6 o).os.trans (b1 O).os, (b6 o).tape.trans (b1 O).tape, (b6 o).output.trans (b1 O).output, Nat.le_trans (b1 O).size (b6 o).size, fun k hk ho => ((b6 o).block k (by omega) (fun e => by rcases e with e | e; exact ho e; omega)).trans ((b1 O).block k hk ho)⟩
      rcases hor with ⟨hi5, hl5⟩ | ⟨hi5, hl5⟩
      · have he := run_endLoop (P := P) hl5 (by rw [hR]; simp)
        exact ⟨none, _, by rw [hR] at he; exact he, hdone w.heap.size _ (Nat.le_refl _) (hI _ _ _ hi5 (fun k hk => World.putObj_heap_other (fun e => hOl (by rw [← e]; exact hk)))) (b7 _) ((World.putObj_heap_other (by omega)).trans hD5)⟩
      · have he := run_endLoop (P := P) hl5 (by rw [hR]; simp)
        refine ⟨some .ret, _, by rw [hR] at he; exact he, ?_⟩
        refine wpIn_ret ?_
        exact hstop w.heap.size _ (Nat.le_refl _) (hIx _ _ hi5 (fun k hk => World.putObj_heap_other (fun e => hOl (by rw [← e]; exact hk)))) (b7 _) ((World.putObj_heap_other (by omega)).trans hD5)

end Go.Proofs.Ytdhgfbdanijgaaa

namespace Go.Proofs.Ytdhgfbdanijgaaa
open Go.RowKit

theorem load_row {P : Program} {ops : Array Oper} {rest : List Oper} {op : Oper} {a : Act} {w : World} {Q : Exit → Act → World → Prop} (hw : Region.wanted op (yielded ops a.tmps) = true) (ty : TypeId) (x : Operand) (ho : op.op = .load ty x)
    (b : Nat) (hx : a.eval x = .pointer (some ⟨b, 0, none⟩)) (X : Array Value) (t : TypeId) (hb : w.heap[b]? = some (.cells X t (0, 0))) (d : TypeDesc)
    (hu : P.underlying ty = some d) (hd : d.isRow = true) (hi : (P.info? ty).map (·.size) = some X.size)
    (h : wpList P ops Q rest (a.put op.dst (.agg X)) w) : wpList P ops Q (op :: rest) a w :=
  BigFrame.wpList_want hw fun _ hK => wp_load_mid ty x ho b 0 hx X.toList d (fun j v hv => by rw [cell_of_row w b (0 + j) X t (0, 0) hb]; simpa using hv) hu hd (by simpa using hi) (hK _ _ (by simpa using h))
theorem exec_row {P : Program} {ev : Operand → Value} {op : Oper} {w : World} (ty : TypeId) (x : Operand) (ho : op.op = .load ty x) (b : Nat) (hx : ev x = .pointer (some ⟨b, 0, none⟩)) (X : Array Value) (t : TypeId) (hb : w.heap[b]? = some (.cells X t (0, 0))) (d : TypeDesc)
    (hu : P.underlying ty = some d) (hd : (match d with | .struct _ | .array _ _ => true | _ => false) = true) (hi : (P.info? ty).map (·.size) = some X.size) : (execOp ev op).run P w = .ok (.value (.agg X)) w := by
  unfold execOp
  simp only [ho, hx, Instr.loadAt, Instr.sureAddr, Sem.run_bind, Sem.run_pure, Result.andThen_ok, run_loadVar_row w b t ty X (0, 0) d hb hu hd hi]
theorem results_c1 {fn : Func} {p : Tmp} {ty : TypeId} (h : fn.results = #[.cell p ty]) (tmps : Array Value) (P : Program) (w : World) :
    (results fn tmps).run P w = ((asAddr (tmps.getD p undef)).run P w).andThen fun a w₁ => (loadVar ty a).run P w₁ := by
  simp only [results, h]
  simp [Sem.run_bind, Result.andThen]
theorem results_c2 {fn : Func} {p q : Tmp} {ty : TypeId} (h : fn.results = #[.cell p ty, .tmp q]) (tmps : Array Value) (P : Program) (w : World) (g : Nat) (hp : tmps.getD p undef = .pointer (some ⟨g, 0, none⟩)) (x : Value) (hl : (loadVar ty ⟨g, 0, none⟩).run P w = .ok x w) :
    (results fn tmps).run P w = .ok (.tuple #[x, tmps.getD q undef]) w := by
  simp only [results, h]
  have ha : (asAddr (.pointer (some ⟨g, 0, none⟩))).run P w = .ok ⟨g, 0, none⟩ w := by simp [asAddr]
  have hp' : tmps[p]?.getD undef = .pointer (some ⟨g, 0, none⟩) := by simpa using hp
  simp [Sem.run_bind, Result.andThen, hp', hl, ha]
theorem load_mid {P : Program} {ops : Array Oper} {rest : List Oper} {op : Oper} {a : Act} {w : World} {Q : Exit → Act → World → Prop} (hw : Region.wanted op (yielded ops a.tmps) = true) (ty : TypeId) (x : Operand) (ho : op.op = .load ty x)
    (b off : Nat) (hx : a.eval x = .pointer (some ⟨b, off, none⟩)) (X : Array Value) (hb : ∀ j v, X[j]? = some v → w.cell? ⟨b, off + j, none⟩ = some v) (d : TypeDesc)
    (hu : P.underlying ty = some d) (hd : d.isRow = true) (hi : (P.info? ty).map (·.size) = some X.size)
    (h : wpList P ops Q rest (a.put op.dst (.agg X)) w) : wpList P ops Q (op :: rest) a w :=
  BigFrame.wpList_want hw fun _ hK => wp_load_mid ty x ho b off hx X.toList d (fun j v hv => hb j v (by simpa using hv)) hu hd (by simpa using hi) (hK _ _ (by simpa using h))
theorem grown_row (w : World) (g : Nat) (X : Array Value) : w.grownBy (w.setRow g X) (some g) :=
  ⟨rfl, rfl, rfl, by simp [World.setRow], fun k _ hk => setRow_other w g k X (fun e => hk (by simp [e]))⟩
theorem step_store_row {P : Program} {op : Oper} {a : Act} {w : World} {K : Act → World → Prop} {Q : Exit → Act → World → Prop} {t0 : Bool} {Z : Prop} (hw : t0 = true) (ty : TypeId) (x y : Operand) (ho : op.op = .store ty x y)
    (b : Nat) (hx : a.eval x = .pointer (some ⟨b, 0, none⟩)) (X : Array Value) (hy : a.eval y = .agg X) (Y : Array Value) (t : TypeId) (hb : w.heap[b]? = some (.cells Y t (0, 0))) (hYX : Y.size = X.size)
    (hi : (P.info? ty).map (·.size) = some X.size) (h1 : X.all (·.oneCell') = true)
    (h : ∀ w', w'.heap[b]? = some (.cells X t (0, 0)) → w.grownBy w' (some b) → K (a.put op.dst undef) w') : if t0 = true then Oper.wp P op a w K Q else Z := by
  rw [if_pos hw]
  unfold Oper.wp execOp
  simp only [ho, hx, hy, Instr.storeAt, Instr.sureAddr, Sem.run_bind, Sem.run_pure, Result.andThen_ok, run_storeVar_row w b t ty Y X hb hi hYX h1]
  exact h _ (setRow_heap w b Y X t _ hb) (grown_row w b X)
theorem store_row {P : Program} {ops : Array Oper} {rest : List Oper} {op : Oper} {a : Act} {w : World} {Q : Exit → Act → World → Prop} (hw : Region.wanted op (yielded ops a.tmps) = true) (ty : TypeId) (x y : Operand) (ho : op.op = .store ty x y)
    (b : Nat) (hx : a.eval x = .pointer (some ⟨b, 0, none⟩)) (X : Array Value) (hy : a.eval y = .agg X) (Y : Array Value) (t : TypeId) (hb : w.heap[b]? = some (.cells Y t (0, 0))) (hYX : Y.size = X.size)
    (hi : (P.info? ty).map (·.size) = some X.size) (h1 : X.all (·.oneCell') = true)
    (h : ∀ w', w'.heap[b]? = some (.cells X t (0, 0)) → w.grownBy w' (some b) → wpList P ops Q rest (a.put op.dst undef) w') : wpList P ops Q (op :: rest) a w :=
  BigFrame.wpList_want hw fun K hK => by
    unfold Oper.wp execOp
    simp only [ho, hx, hy, Instr.storeAt, Instr.sureAddr, Sem.run_bind, Sem.run_pure, Result.andThen_ok, run_storeVar_row w b t ty Y X hb hi hYX h1]
    exact hK _ _ (h _ (setRow_heap w b Y X t _ hb) (grown_row w b X))

end Go.Proofs.Ytdhgfbdanijgaaa
