/-
  FrameImpl3, GeoPure, GeoImpl, ToneArea, RowOps, QuietLast, HeldLast, ToneGrid, ToneFix, ToneFix2.
-/
import Derived.Laws.CopyOwn
import Derived.Laws.ResultCell
import Derived.Deep.RegionHeld3
import Derived.Deep.WholeRow
import Derived.Deep.MidRow
import Derived.Deep.Quiet
import Derived.BigQuiet
import Derived.Test.YtkefpjbdkhifhaaMBb

namespace Go.Proofs.Ytkefpjbdkhifhaa
open Go.RowKit

theorem grown_setRow (w : World) (g : Nat) (X : Array Value) : w.grownBy (w.setRow g X) (some g) :=
  ⟨rfl, rfl, rfl, by simp [World.setRow], fun k _ hk => setRow_other w g k X (fun e => hk (by simp [e]))⟩

theorem wpList_store_row {P : Program} {ops : Array Oper} {rest : List Oper} {op : Oper} {a : Act} {w : World} {Q : Exit → Act → World → Prop} (hw : Region.wanted op (yielded ops a.tmps) = true) (ty : TypeId) (x y : Operand) (ho : op.op = .store ty x y)
    (b : Nat) (hx : a.eval x = .pointer (some ⟨b, 0, none⟩)) (X : Array Value) (hy : a.eval y = .agg X) (Y : Array Value) (t : TypeId) (hb : w.heap[b]? = some (.cells Y t (0, 0))) (hYX : Y.size = X.size)
    (hi : (P.info? ty).map (·.size) = some X.size) (h1 : X.all (·.oneCell') = true)
    (h : ∀ w', w'.heap[b]? = some (.cells X t (0, 0)) → w.grownBy w' (some b) → wpList P ops Q rest (a.put op.dst undef) w') : wpList P ops Q (op :: rest) a w :=
  BigFrame.wpList_want hw fun K hK => by
    unfold Oper.wp execOp
    simp only [ho, hx, hy, Instr.storeAt, Instr.sureAddr, Sem.run_bind, Sem.run_pure, Result.andThen_ok, run_storeVar_row w b t ty Y X hb hi hYX h1]
    exact hK _ _ (h _ (setRow_heap w b Y X t _ hb) (grown_setRow w b X))

/-- Copying elements of so many cells each. -/
theorem run_copyK {P : Program} (w : World) (dT sT ty elem : TypeId) (sz : Nat) (g off dLen dCap : Nat) (sp : Option Addr) (sLen sCap : Nat) (cur : Array Value) (t : TypeId) (cs : List Value)
    (hu : P.underlying dT = some (.slice elem)) (hs : (P.info? elem).map (·.size) = some sz) (hg : w.heap[g]? = some (.cells cur t (0, 0))) (hn : cs.length = Nat.min sLen dLen * sz)
    (hpos : 0 < cs.length → ∃ ad, sp = some ad ∧ ∀ j v, cs[j]? = some v → w.cell? (ad.add j) = some v) (hfit : off + cs.length ≤ cur.size) (h1 : ∀ v ∈ cs, v.oneCell' = true) :
    (Builtin.copy_ #[dT, sT] ty #[.slice (some ⟨g, off, none⟩) dLen dCap, .slice sp sLen sCap]).run P w = .ok (goInt (Nat.min sLen dLen)) (w.setRow g (cur.toList.take off ++ cs ++ cur.toList.drop (off + cs.length)).toArray) := by
  have hst := run_storeCells_at P g off t cs 0 cur w hg (by simpa using hfit) h1
  cases hq : P.info? elem with
  | none => simp [hq] at hs
  | some i =>
    have hi : i.size = sz := by simpa [hq] using hs
    by_cases h0 : cs.length = 0
    · obtain rfl : cs = [] := List.eq_nil_of_length_eq_zero h0
      have hz : Nat.min sLen dLen * sz = 0 := by simpa using hn.symm
      have hl : ∀ (x : Addr), (loadCells x 0).run P w = .ok #[] w := fun x => by simpa using run_loadCells_list (P := P) w x [] (by simp)
      have hst' : (storeCells ⟨g, off, none⟩ [] 0).run P w = .ok () (w.setRow g cur) := by simpa using hst
      cases sp <;> simp [Builtin.copy_, run_underlying hu, Builtin.lenOf, Builtin.firstCells, sizeOf, typeInfo, hq, hi, hz, hl, hst']
    · obtain ⟨ad, rfl, hsrc⟩ := hpos (by omega)
      have hl := run_loadCells_list (P := P) w ad cs hsrc
      simp [Builtin.copy_, run_underlying hu, Builtin.lenOf, Builtin.firstCells, sizeOf, typeInfo, hq, hi, ← hn, hl, hst]

theorem step_copyK {P : Program} {ops : Array Oper} {o : Oper} {a : Act} {w : World} {K : Act → World → Prop} {Q : Exit → Act → World → Prop} {E : Prop} (hgd : o.guard = none) (d s : Operand) (dT sT : TypeId)
    (ho : o.op = .call { callee := .builtin .copy, args := #[d, s], argTypes := #[dT, sT] }) (elem : TypeId) (hu : P.underlying dT = some (.slice elem)) (sz : Nat) (hsz : (P.info? elem).map (·.size) = some sz)
    (g off dLen dCap : Nat) (sp : Option Addr) (sLen sCap : Nat) (hd : a.eval d = .slice (some ⟨g, off, none⟩) dLen dCap) (hs : a.eval s = .slice sp sLen sCap)
    (cur : Array Value) (t : TypeId) (hg : w.heap[g]? = some (.cells cur t (0, 0))) (cs : List Value) (hn : cs.length = Nat.min sLen dLen * sz)
    (hpos : 0 < cs.length → ∃ ad, sp = some ad ∧ ∀ j v, cs[j]? = some v → w.cell? (ad.add j) = some v) (hfit : off + cs.length ≤ cur.size) (h1 : ∀ v ∈ cs, v.oneCell' = true)
    (h : ∀ w', Hid (w'.heap[g]? = some (.cells (cur.toList.take off ++ cs ++ cur.toList.drop (off + cs.length)).toArray t (0, 0))) → w.grownBy w' (some g) → K (a.put o.dst (goInt (Nat.min sLen dLen))) w') :
    if Region.wanted o (yielded ops a.tmps) = true then Oper.wp P o a w K Q else E := by
  have hw : Region.wanted o (yielded ops a.tmps) = true := by simp [Region.wanted, hgd]
  rw [if_pos hw]
  have hrun := run_copyK (P := P) w dT sT o.type elem sz g off dLen dCap sp sLen sCap cur t cs hu hsz hg hn hpos hfit h1
  unfold Oper.wp
  simp only [execOp, ho, resolve, invoke, builtin, Sem.run_bind, Sem.run_pure, Result.andThen_ok, List.map_toArray, List.map_cons, List.map_nil, hd, hs, hrun]
  exact h _ (setRow_heap w g _ _ t _ hg) (grown_setRow w g _)

theorem Fx.one {X : Array Value} {p wd ht rs n : Int} {C : Nat → Nat → Int} (hX : Fx X p wd ht rs n C) : X.all (·.oneCell') = true := by
  rw [Array.all_eq_true]
  intro i hi
  have hs := hX.size
  have key : ∀ v, X[i]? = some v → v.oneCell' = true → (X[i]).oneCell' = true := by
    intro v hv h
    rw [Array.getElem?_eq_getElem hi] at hv
    simp at hv
    rw [hv]; exact h
  by_cases h5 : i < 5
  · have : i = 0 ∨ i = 1 ∨ i = 2 ∨ i = 3 ∨ i = 4 := by omega
    rcases this with rfl | rfl | rfl | rfl | rfl
    · exact key _ hX.c0 rfl
    · exact key _ hX.c1 rfl
    · exact key _ hX.c2 rfl
    · exact key _ hX.c3 rfl
    · exact key _ hX.c4 rfl
  · have e : i = 5 + (i - 5) / 4 * 4 + (i - 5) % 4 := by omega
    have hc := hX.comp ((i - 5) / 4) ((i - 5) % 4) (by omega) (by omega)
    rw [← e] at hc
    exact key _ hc rfl

theorem results_cell1 {fn : Func} {p : Tmp} {ty : TypeId} (h : fn.results = #[.cell p ty]) (tmps : Array Value) (P : Program) (w : World) :
    (results fn tmps).run P w = ((asAddr (tmps.getD p undef)).run P w).andThen fun a w₁ => (loadVar ty a).run P w₁ := by
  simp only [results, h]
  simp [Sem.run_bind, Result.andThen]

/-- What is read through a slice of components: four numbers each. -/
def RdC (w : World) (ao : Option Addr) (n : Nat) (C : Nat → Nat → Int) : Prop :=
  ∀ i, i < n → ∃ b off, ao = some ⟨b, off, none⟩ ∧ ∀ j, j < 4 → w.cell? ⟨b, off + i * 4 + j, none⟩ = some (.int .i64 (C i j))
theorem RdC.grown {w w' : World} {ao : Option Addr} {n : Nat} {C : Nat → Nat → Int} (h : RdC w ao n C) (hg : w.grownBy w' none) : RdC w' ao n C :=
  fun i hi => by obtain ⟨b, off, e, hc⟩ := h i hi; exact ⟨b, off, e, fun j hj => hg.cell (hc j hj) (by simp)⟩

def compCells (C : Nat → Nat → Int) : Nat → Nat → Value := fun i j => .int .i64 (C i j)

theorem rdC_src {w : World} {ao : Option Addr} {n m : Nat} {C : Nat → Nat → Int} (h : RdC w ao n C) (hm : m ≤ n) : 0 < (rowsK m 4 (compCells C)).length → ∃ ad, ao = some ad ∧ ∀ j v, (rowsK m 4 (compCells C))[j]? = some v → w.cell? (ad.add j) = some v := by
  intro hp
  rw [rowsK_len] at hp
  obtain ⟨b, off, rfl, _⟩ := h 0 (by omega)
  refine ⟨_, rfl, fun j v hv => ?_⟩
  have hj : j < m * 4 := by have := (List.getElem?_eq_some_iff.1 hv).1; rwa [rowsK_len] at this
  obtain ⟨b', off', e, hc⟩ := h (j / 4) (by omega)
  simp only [Option.some.injEq, Addr.mk.injEq] at e
  obtain ⟨rfl, rfl, _⟩ := e
  have hd : j = j / 4 * 4 + j % 4 := by omega
  have hg := rowsK_get m 4 (compCells C) (j / 4) (j % 4) (by omega) (by omega)
  rw [← hd] at hg
  rw [hg] at hv
  simp at hv
  subst hv
  rw [Addr.add_lit]
  have := hc (j % 4) (by omega)
  rw [Nat.add_assoc, ← hd] at this
  exact this

theorem rowsK_one {m k : Nat} {f : Nat → Nat → Value} (h : ∀ i j, (f i j).oneCell' = true) : ∀ v ∈ rowsK m k f, v.oneCell' = true := by
  intro v hv
  obtain ⟨c, _, rfl⟩ := List.mem_map.1 hv
  exact h _ _

/-- The frame's cells behind the copy. -/
theorem fx_copied {cur : Array Value} {p wd ht rs n : Int} {D : Nat → Nat → Int} (h : Fx cur p wd ht rs n D) (m : Nat) (C : Nat → Nat → Int) (hm : m ≤ 4) :
    Fx (cur.toList.take 5 ++ rowsK m 4 (compCells C) ++ cur.toList.drop (5 + (rowsK m 4 (compCells C)).length)).toArray p wd ht rs n (fun i j => if i < m then C i j else D i j) := by
  have hs := h.size
  have hl : (cur.toList.take 5).length = 5 := by simp; omega
  have low : ∀ k, k < 5 → (cur.toList.take 5 ++ rowsK m 4 (compCells C) ++ cur.toList.drop (5 + (rowsK m 4 (compCells C)).length)).toArray[k]? = cur[k]? := by
    intro k hk
    rw [List.getElem?_toArray, List.append_assoc, List.getElem?_append_left (by omega), List.getElem?_take, if_pos hk]
    simp
  refine ⟨by simp [rowsK_len]; omega, (low 0 (by omega)).trans h.c0, (low 1 (by omega)).trans h.c1, (low 2 (by omega)).trans h.c2, (low 3 (by omega)).trans h.c3, (low 4 (by omega)).trans h.c4, fun i j hi hj => ?_⟩
  rw [List.getElem?_toArray]
  by_cases him : i < m
  · rw [List.getElem?_append_left (by rw [List.length_append, hl, rowsK_len]; omega), List.getElem?_append_right (by omega), hl, show 5 + i * 4 + j - 5 = i * 4 + j by omega, rowsK_get m 4 _ i j him hj, if_pos him]
    rfl
  · rw [List.getElem?_append_right (by rw [List.length_append, hl, rowsK_len]; omega), List.length_append, hl, rowsK_len, List.getElem?_drop, if_neg him, show 5 + m * 4 + (5 + i * 4 + j - (5 + m * 4)) = 5 + i * 4 + j by omega]
    have := h.comp i j hi hj
    simpa using this

end Go.Proofs.Ytkefpjbdkhifhaa

namespace Go.Proofs.Ytkefpjbdkhifhaa

/-- The greatest of the numbers j of the first k components, at least a. -/
def mostA (a : Int) (C : Nat → Nat → Int) (j : Nat) : Nat → Int
  | 0 => a
  | k + 1 => max (mostA a C j k) (C k j)
/-- n by d, rounded up. -/
def upI (n d : Int) : Int := (n + d - 1).tdiv d

theorem upI_pos {n d : Int} (hn : 1 ≤ n) (hd : 1 ≤ d) : 1 ≤ upI n d ∧ upI n d ≤ n := by
  unfold upI
  rw [Int.tdiv_eq_ediv_of_nonneg (by omega)]
  constructor
  · exact (Int.le_ediv_iff_mul_le (by omega)).2 (by omega)
  · refine Int.le_of_lt_add_one ((Int.ediv_lt_iff_lt_mul (by omega)).2 ?_)
    have h1 : 0 ≤ (n - 1) * (d - 1) := Int.mul_nonneg (by omega) (by omega)
    have e : (n + 1) * d = (n - 1) * (d - 1) + n + 2 * d - 1 := by
      rw [Int.add_mul, Int.sub_mul, Int.mul_sub, Int.mul_sub]; omega
    omega

theorem upI_eight {n : Int} (h0 : 1 ≤ n) (h1 : n ≤ 8192) : 1 ≤ upI n 8 ∧ upI n 8 ≤ 1024 := by
  unfold upI
  rw [Int.tdiv_eq_ediv_of_nonneg (by omega)]
  omega

theorem mostA_congr {a : Int} {C D : Nat → Nat → Int} {j : Nat} : ∀ k, (∀ i, i < k → C i = D i) → mostA a C j k = mostA a D j k
  | 0, _ => rfl
  | k + 1, h => by simp only [mostA]; rw [mostA_congr k (fun i hi => h i (by omega)), h k (by omega)]
theorem mostA_le {a : Int} {C : Nat → Nat → Int} {j : Nat} {m : Int} (ha : a ≤ m) : ∀ k, (∀ i, i < k → C i j ≤ m) → mostA a C j k ≤ m
  | 0, _ => ha
  | k + 1, h => by simp only [mostA]; have := mostA_le ha k (fun i hi => h i (by omega)); have := h k (by omega); omega
theorem mostA_ge {a : Int} {C : Nat → Nat → Int} {j : Nat} : ∀ k, a ≤ mostA a C j k
  | 0 => Int.le_refl _
  | k + 1 => by simp only [mostA]; have := mostA_ge (a := a) (C := C) (j := j) k; omega
theorem mostA_at {a : Int} {C : Nat → Nat → Int} {j : Nat} : ∀ k i, i < k → C i j ≤ mostA a C j k
  | k + 1, i, h => by
    simp only [mostA]
    by_cases e : i = k
    · subst e; omega
    · have := mostA_at (a := a) (C := C) (j := j) k i (by omega); omega
/-- From 0 or from 1 on: the same where a component has at least 1. -/
theorem mostA_one {C : Nat → Nat → Int} {j : Nat} : ∀ k, 1 ≤ k → (∀ i, i < k → 1 ≤ C i j) → mostA 0 C j k = mostA 1 C j k
  | 1, _, h => by simp only [mostA]; have := h 0 (by omega); omega
  | k + 2, _, h => by
    have ih := mostA_one (k + 1) (by omega) (fun i hi => h i (by omega))
    show max (mostA 0 C j (k + 1)) (C (k + 1) j) = max (mostA 1 C j (k + 1)) (C (k + 1) j)
    rw [ih]

theorem okTo_comp {C : Nat → Nat → Int} : ∀ {n : Nat}, okTo C n = true → ∀ i, i < n → compB (C i) = true
  | n + 1, h, i, hi => by
    simp only [okTo, Bool.and_eq_true] at h
    by_cases e : i = n
    · subst e; exact h.2.1
    · exact okTo_comp h.1 i (by omega)

/-- What is so of a frame that is ok. -/
structure Geo (wd ht : Int) (n : Nat) (C : Nat → Nat → Int) (mh mv : Int) : Prop where
  n1 : 1 ≤ n
  n4 : n ≤ 4
  wd : 1 ≤ wd ∧ wd ≤ 256
  ht : 1 ≤ ht ∧ ht ≤ 256
  ch : ∀ i, i < n → 1 ≤ C i 1 ∧ C i 1 ≤ 4
  cv : ∀ i, i < n → 1 ≤ C i 2 ∧ C i 2 ≤ 4
  h0 : mostA 0 C 1 n = mh
  h1 : mostA 1 C 1 n = mh
  v0 : mostA 0 C 2 n = mv
  v1 : mostA 1 C 2 n = mv
  hb : 1 ≤ mh ∧ mh ≤ 4
  vb : 1 ≤ mv ∧ mv ≤ 4

theorem geo_of {p wd ht rs : Int} {n : Nat} {C : Nat → Nat → Int} (h : frameB p wd ht rs n C = true) : Geo wd ht n C (mostA 1 C 1 n) (mostA 1 C 2 n) := by
  simp only [frameB, Bool.and_eq_true] at h
  obtain ⟨hh, hc⟩ := h
  obtain ⟨_, hw, hht, _, _⟩ := headB_facts hh
  simp only [compsB, Bool.and_eq_true, decide_eq_true_eq] at hc
  obtain ⟨hn, hok, _⟩ := hc
  have ch : ∀ i, i < n → 1 ≤ C i 1 ∧ C i 1 ≤ 4 := fun i hi => (compB_bounds (okTo_comp hok i hi)).2.1
  have cv : ∀ i, i < n → 1 ≤ C i 2 ∧ C i 2 ≤ 4 := fun i hi => (compB_bounds (okTo_comp hok i hi)).2.2.1
  exact ⟨by omega, by omega, hw, hht, ch, cv, mostA_one n (by omega) (fun i hi => (ch i hi).1), rfl, mostA_one n (by omega) (fun i hi => (cv i hi).1), rfl,
    ⟨mostA_ge n, mostA_le (by omega) n (fun i hi => (ch i hi).2)⟩, ⟨mostA_ge n, mostA_le (by omega) n (fun i hi => (cv i hi).2)⟩⟩
theorem Geo.congr {wd ht : Int} {n : Nat} {C D : Nat → Nat → Int} {mh mv : Int} (h : Geo wd ht n C mh mv) (e : ∀ i, i < n → D i = C i) : Geo wd ht n D mh mv :=
  ⟨h.n1, h.n4, h.wd, h.ht, fun i hi => by rw [e i hi]; exact h.ch i hi, fun i hi => by rw [e i hi]; exact h.cv i hi, (mostA_congr n e).trans h.h0, (mostA_congr n e).trans h.h1, (mostA_congr n e).trans h.v0, (mostA_congr n e).trans h.v1, h.hb, h.vb⟩

/-- A side times a share of it. -/
theorem mul_share {a b : Int} (ha : 1 ≤ a ∧ a ≤ 1024) (hb : 1 ≤ b ∧ b ≤ 4) : 1 ≤ a * b ∧ a * b ≤ 4096 := by
  obtain ⟨b0, b1⟩ := hb
  have : b = 1 ∨ b = 2 ∨ b = 3 ∨ b = 4 := by omega
  rcases this with rfl | rfl | rfl | rfl <;> omega

end Go.Proofs.Ytkefpjbdkhifhaa

namespace Go.Proofs.Ytkefpjbdkhifhaa
open Go.RowKit

theorem divUp (n d u : Int) (hn : 1 ≤ n ∧ n ≤ 1000000) (hd : 1 ≤ d ∧ d ≤ 1000000) (hu : Hid (upI n d = u)) (w : World) :
    Calls Try.prog 86 #[.int .i64 n, .int .i64 d] w fun e w' => e = .returned (.int .i64 u) ∧ w = w' := by
  have hd0 : (d == 0) = false := by simp; omega
  have hm1 : (d == -1) = false := by simp; omega
  have he : Hid ((n + d - 1) / d = u) := by rw [← unhide hu, upI, Int.tdiv_eq_ediv_of_nonneg (by omega)]; rfl
  go_enter Try.func86, Try.ntmps86
  go_wp2
  go_ret
  exact ⟨by simp [unhide he], rfl⟩

theorem areaCount (a b : Int) (ha : 0 ≤ a ∧ a ≤ 1024) (hb : 0 ≤ b ∧ b ≤ 1024) (w : World) :
    Calls Try.prog 57 #[.agg #[.int .i64 a, .int .i64 b]] w fun e w' => e = .returned (.int .i64 (a * b)) ∧ w.grownBy w' none := by
  have h0 : 0 ≤ a * b := Int.mul_nonneg ha.1 hb.1
  have h1 : a * b ≤ 1024 * 1024 := Int.mul_le_mul ha.2 hb.2 hb.1 (by omega)
  have hw := i64_in (a * b) (by omega)
  go_enter Try.func57, Try.ntmps57
  go_wp2
  go_ret
  exact ⟨rfl, grown_alloc (World.grownBy.refl _ _) _⟩

theorem areaCells {w : World} {g : Nat} {a b : Value} {t : TypeId} (hb : w.heap[g]? = some (.cells #[a, b] t (0, 0))) :
    w.cell? ⟨g, 0, none⟩ = some a ∧ w.cell? ⟨g, 1, none⟩ = some b ∧ w.frozen? ⟨g, 0, none⟩ = false ∧ w.frozen? ⟨g, 1, none⟩ = false :=
  ⟨by rw [cell_of_row w _ 0 _ _ (0, 0) hb]; rfl, by rw [cell_of_row w _ 1 _ _ (0, 0) hb]; rfl, frozen_of_row w g 0 _ _ hb, frozen_of_row w g 1 _ _ hb⟩
theorem grown_setNew {w w' : World} (h : w.grownBy w' none) (b j : Nat) (u : Value) (hb : w.heap.size ≤ b) : w.grownBy (w'.setCell ⟨b, j, none⟩ u) none := grown_new h (grown_set w' b j u) (fun g e => by simp at e; omega)
theorem loadArea {w : World} {g : Nat} {a b : Int} (hb : w.heap[g]? = some (.cells #[.int .i64 a, .int .i64 b] 48 (0, 0))) : (loadVar 48 ⟨g, 0, none⟩).run Try.prog w = .ok (.agg #[.int .i64 a, .int .i64 b]) w :=
  run_loadVar_row w g 48 48 _ (0, 0) _ hb Try.underlying48 rfl (by kernel_rfl)

end Go.Proofs.Ytkefpjbdkhifhaa

namespace Go.Proofs.Ytkefpjbdkhifhaa
open Go.RowKit

set_option maxHeartbeats 1600000 in
theorem isPlane (w h : Int) (t : Bool) (HT : Hid (sidesB w h = t)) (W : World) :
    Calls Try.prog 61 #[.agg #[.int .i64 w, .int .i64 h]] W fun e W' => e = .returned (.bool t) ∧ W.grownBy W' none := by
  obtain ⟨tw, HTW⟩ : ∃ y, Hid (decide (1 ≤ w ∧ w ≤ 1024) = y) := ⟨_, rfl⟩
  obtain ⟨th, HTH⟩ : ∃ y, Hid (decide (1 ≤ h ∧ h ≤ 1024) = y) := ⟨_, rfl⟩
  have HE : Hid (t = (tw && th && decide (w * h ≤ 131072))) := by unfold Hid; rw [← unhide HT, sidesB, unhide HTW, unhide HTH]
  go_enter Try.func61, Try.ntmps61
  go_wp2_with fail
  refine (inRange w 1 1024 tw HTW _).mono ?_
  rintro e W1 ⟨rfl, rfl⟩
  cases tw with
  | false =>
    obtain rfl : t = false := by rw [unhide HE]; rfl
    go_wp2
    go_ret
    exact ⟨rfl, grown_alloc (World.grownBy.refl _ _) _⟩
  | true =>
    go_wp2_with fail
    refine (inRange h 1 1024 th HTH _).mono ?_
    rintro e W1 ⟨rfl, rfl⟩
    cases th with
    | false =>
      obtain rfl : t = false := by rw [unhide HE]; rfl
      go_wp2
      go_ret
      exact ⟨rfl, grown_alloc (World.grownBy.refl _ _) _⟩
    | true =>
      have hw := of_decide_eq_true (unhide HTW)
      have hh := of_decide_eq_true (unhide HTH)
      obtain ⟨y, HY⟩ : ∃ y, Hid (decide (w * h ≤ 131072) = y) := ⟨_, rfl⟩
      rw [unhide HY] at HE
      obtain rfl : t = y := by rw [unhide HE]; rfl
      go_wp2_with fail
      refine (areaCount w h (by omega) (by omega) _).mono ?_
      rintro e W1 ⟨rfl, g1⟩
      have G1 := hide (grown_trans (grown_alloc (World.grownBy.refl _ _) _) g1)
      have e2 : decide (w * h ≤ 131072) = t := unhide HY
      clear g1
      go_wp2
      go_ret
      exact ⟨rfl, unhide G1⟩

set_option maxHeartbeats 1600000 in
theorem covers (a b c d : Int) (t : Bool) (HT : Hid ((decide (c ≤ a) && decide (d ≤ b)) = t)) (W : World) :
    Calls Try.prog 44 #[.agg #[.int .i64 a, .int .i64 b], .agg #[.int .i64 c, .int .i64 d]] W fun e W' => e = .returned (.bool t) ∧ W.grownBy W' none := by
  obtain ⟨t1, h1⟩ : ∃ y, decide (c ≤ a) = y := ⟨_, rfl⟩
  obtain ⟨t2, h2⟩ : ∃ y, decide (d ≤ b) = y := ⟨_, rfl⟩
  rw [h1, h2] at HT
  go_enter Try.func44, Try.ntmps44
  cases t1 with
  | false =>
    obtain rfl : t = false := by rw [← unhide HT]; rfl
    go_wp2
    go_ret
    exact ⟨rfl, grown_alloc (grown_alloc (World.grownBy.refl _ _) _) _⟩
  | true =>
    obtain rfl : t = t2 := by rw [← unhide HT]; rfl
    go_wp2
    go_ret
    exact ⟨rfl, grown_alloc (grown_alloc (World.grownBy.refl _ _) _) _⟩

end Go.Proofs.Ytkefpjbdkhifhaa

namespace Go.Proofs.Ytkefpjbdkhifhaa
open Go.RowKit

theorem load_row {P : Program} {ops : Array Oper} {rest : List Oper} {op : Oper} {a : Act} {w : World} {Q : Exit → Act → World → Prop} (hw : Region.wanted op (yielded ops a.tmps) = true) (ty : TypeId) (x : Operand) (ho : op.op = .load ty x)
    (b : Nat) (hx : a.eval x = .pointer (some ⟨b, 0, none⟩)) (X : Array Value) (t : TypeId) (hb : w.heap[b]? = some (.cells X t (0, 0))) (d : TypeDesc)
    (hu : P.underlying ty = some d) (hd : d.isRow = true) (hi : (P.info? ty).map (·.size) = some X.size)
    (h : wpList P ops Q rest (a.put op.dst (.agg X)) w) : wpList P ops Q (op :: rest) a w :=
  BigFrame.wpList_want hw fun _ hK => wp_load_mid ty x ho b 0 hx X.toList d (fun j v hv => by rw [cell_of_row w b (0 + j) X t (0, 0) hb]; simpa using hv) hu hd (by simpa using hi) (hK _ _ (by simpa using h))
theorem exec_row {P : Program} {ev : Operand → Value} {op : Oper} {w : World} (ty : TypeId) (x : Operand) (ho : op.op = .load ty x) (b : Nat) (hx : ev x = .pointer (some ⟨b, 0, none⟩)) (X : Array Value) (t : TypeId) (hb : w.heap[b]? = some (.cells X t (0, 0))) (d : TypeDesc)
    (hu : P.underlying ty = some d) (hd : (match d with | .struct _ | .array _ _ => true | _ => false) = true) (hi : (P.info? ty).map (·.size) = some X.size) : (execOp ev op).run P w = .ok (.value (.agg X)) w := by
  unfold execOp
  simp only [ho, hx, Instr.loadAt, Instr.sureAddr, Sem.run_bind, Sem.run_pure, Result.andThen_ok, run_loadVar_row w b t ty X (0, 0) d hb hu hd hi]
theorem results_c1 {fn : Func} {p : Tmp} {ty : TypeId} (h : fn.results = #[.cell p ty]) (tmps : Array Value) (P : Program) (w : World) :
    (results fn tmps).run P w = ((asAddr (tmps.getD p undef)).run P w).andThen fun a w₁ => (loadVar ty a).run P w₁ := by
  simp only [results, h]
  simp [Sem.run_bind, Result.andThen]
theorem results_c2 {fn : Func} {p q : Tmp} {ty : TypeId} (h : fn.results = #[.cell p ty, .tmp q]) (tmps : Array Value) (P : Program) (w : World) (g : Nat) (hp : tmps.getD p undef = .pointer (some ⟨g, 0, none⟩)) (x : Value) (hl : (loadVar ty ⟨g, 0, none⟩).run P w = .ok x w) :
    (results fn tmps).run P w = .ok (.tuple #[x, tmps.getD q undef]) w := by
  simp only [results, h]
  have ha : (asAddr (.pointer (some ⟨g, 0, none⟩))).run P w = .ok ⟨g, 0, none⟩ w := by simp [asAddr]
  have hp' : tmps[p]?.getD undef = .pointer (some ⟨g, 0, none⟩) := by simpa using hp
  simp [Sem.run_bind, Result.andThen, hp', hl, ha]
theorem load_mid {P : Program} {ops : Array Oper} {rest : List Oper} {op : Oper} {a : Act} {w : World} {Q : Exit → Act → World → Prop} (hw : Region.wanted op (yielded ops a.tmps) = true) (ty : TypeId) (x : Operand) (ho : op.op = .load ty x)
    (b off : Nat) (hx : a.eval x = .pointer (some ⟨b, off, none⟩)) (X : Array Value) (hb : ∀ j v, X[j]? = some v → w.cell? ⟨b, off + j, none⟩ = some v) (d : TypeDesc)
    (hu : P.underlying ty = some d) (hd : d.isRow = true) (hi : (P.info? ty).map (·.size) = some X.size)
    (h : wpList P ops Q rest (a.put op.dst (.agg X)) w) : wpList P ops Q (op :: rest) a w :=
  BigFrame.wpList_want hw fun _ hK => wp_load_mid ty x ho b off hx X.toList d (fun j v hv => hb j v (by simpa using hv)) hu hd (by simpa using hi) (hK _ _ (by simpa using h))
theorem grown_row (w : World) (g : Nat) (X : Array Value) : w.grownBy (w.setRow g X) (some g) :=
  ⟨rfl, rfl, rfl, by simp [World.setRow], fun k _ hk => setRow_other w g k X (fun e => hk (by simp [e]))⟩
theorem step_store_row {P : Program} {op : Oper} {a : Act} {w : World} {K : Act → World → Prop} {Q : Exit → Act → World → Prop} {t0 : Bool} {Z : Prop} (hw : t0 = true) (ty : TypeId) (x y : Operand) (ho : op.op = .store ty x y)
    (b : Nat) (hx : a.eval x = .pointer (some ⟨b, 0, none⟩)) (X : Array Value) (hy : a.eval y = .agg X) (Y : Array Value) (t : TypeId) (hb : w.heap[b]? = some (.cells Y t (0, 0))) (hYX : Y.size = X.size)
    (hi : (P.info? ty).map (·.size) = some X.size) (h1 : X.all (·.oneCell') = true)
    (h : ∀ w', w'.heap[b]? = some (.cells X t (0, 0)) → w.grownBy w' (some b) → K (a.put op.dst undef) w') : if t0 = true then Oper.wp P op a w K Q else Z := by
  rw [if_pos hw]
  unfold Oper.wp execOp
  simp only [ho, hx, hy, Instr.storeAt, Instr.sureAddr, Sem.run_bind, Sem.run_pure, Result.andThen_ok, run_storeVar_row w b t ty Y X hb hi hYX h1]
  exact h _ (setRow_heap w b Y X t _ hb) (grown_row w b X)
theorem store_row {P : Program} {ops : Array Oper} {rest : List Oper} {op : Oper} {a : Act} {w : World} {Q : Exit → Act → World → Prop} (hw : Region.wanted op (yielded ops a.tmps) = true) (ty : TypeId) (x y : Operand) (ho : op.op = .store ty x y)
    (b : Nat) (hx : a.eval x = .pointer (some ⟨b, 0, none⟩)) (X : Array Value) (hy : a.eval y = .agg X) (Y : Array Value) (t : TypeId) (hb : w.heap[b]? = some (.cells Y t (0, 0))) (hYX : Y.size = X.size)
    (hi : (P.info? ty).map (·.size) = some X.size) (h1 : X.all (·.oneCell') = true)
    (h : ∀ w', w'.heap[b]? = some (.cells X t (0, 0)) → w.grownBy w' (some b) → wpList P ops Q rest (a.put op.dst undef) w') : wpList P ops Q (op :: rest) a w :=
  BigFrame.wpList_want hw fun K hK => by
    unfold Oper.wp execOp
    simp only [ho, hx, hy, Instr.storeAt, Instr.sureAddr, Sem.run_bind, Sem.run_pure, Result.andThen_ok, run_storeVar_row w b t ty Y X hb hi hYX h1]
    exact hK _ _ (h _ (setRow_heap w b Y X t _ hb) (grown_row w b X))

end Go.Proofs.Ytkefpjbdkhifhaa

namespace Go.Proofs.Ytkefpjbdkhifhaa
open Go.RowKit

section
variable {P : Program} {ops : Array Oper} {md : Region.Mode} {C : World → Prop} {m : Nat} {L : Act → Prop}

/-- Whatever order is picked from here on: number m comes last, and then L is asked. -/
def anyL (P : Program) (md : Region.Mode) (ops : Array Oper) (C : World → Prop) (m : Nat) (L : Act → Prop) : Nat → Array Bool → Act → Prop
  | 0, _, _ => False
  | fuel + 1, listed, a => Region.ready md ops listed ≠ [] ∧ ∀ i ∈ Region.ready md ops listed, if i = m then (L a ∧ Region.ready md ops (listed.setIfInBounds m true) = []) else qOp P ops C i (anyL P md ops C m L fuel (listed.setIfInBounds i true)) a

theorem any_done {Q : Exit → Act → World → Prop} {listed : Array Bool} {a : Act} {w : World} (hr : Region.ready md ops listed = []) (hq : Q .normal a w) : ∀ fuel, wpAny P md ops Q fuel listed a w
  | 0 => ⟨hr, hq⟩
  | _ + 1 => ⟨fun _ => hq, fun i hi => by rw [hr] at hi; cases hi⟩

theorem anyL_sound {Q : Exit → Act → World → Prop} (hL : ∀ a w, C w → L a → wpOp P ops Q m (fun a' w' => Q .normal a' w') a w) :
    ∀ (fuel : Nat) (listed : Array Bool) (a : Act) (w : World), C w → anyL P md ops C m L fuel listed a → wpAny P md ops Q fuel listed a w
  | 0, _, _, _, _, h => h.elim
  | fuel + 1, listed, a, w, hw, h => ⟨fun h0 => absurd h0 h.1, fun i hi => by
      have h2 := h.2 i hi
      by_cases e : i = m
      · subst e
        rw [if_pos rfl] at h2
        exact wpOp_mono (fun a' w' hq => any_done h2.2 hq fuel) (hL a w hw h2.1)
      · rw [if_neg e] at h2
        exact wpOp_of_qOp hw (fun a' w' hw' hh => anyL_sound hL fuel _ a' w' hw' hh) h2⟩

/-- What has come up has come up behind what it waits for. -/
def Cl (md : Region.Mode) (ops : Array Oper) (listed : Array Bool) : Prop := ∀ k ok, ops[k]? = some ok → listed.getD k false = true → ∀ e ∈ ok.after, Region.binds md e = true → listed.getD e.on false = true
theorem Cl.set {listed : Array Bool} {j : Nat} (h : Cl md ops listed) (hj : j ∈ Region.ready md ops listed) : Cl md ops (listed.setIfInBounds j true) := by
  intro k ok hk hl e he hb
  by_cases hjk : j = k
  · subst hjk
    obtain ⟨_, o, ho, hall⟩ := mem_ready.1 hj
    rw [ho] at hk
    cases hk
    exact getD_set_true (hall e he hb)
  · rw [getD_set_ne false hjk] at hl
    exact getD_set_true (h k ok hk hl e he hb)
theorem Cl.none (n : Nat) : Cl md ops (Array.replicate n false) := by
  intro k ok _ hl
  exfalso
  have : (Array.replicate n false).getD k false = false := by simp [Array.getD]
  rw [this] at hl
  cases hl
/-- Whether an operation waits for another, by so many steps at most. -/
def waits (md : Region.Mode) (ops : Array Oper) : Nat → Nat → Nat → Bool
  | 0, _, _ => false
  | f + 1, j, i => match ops[j]? with
    | none => false
    | some o => o.after.any (fun e => Region.binds md e && (e.on == i || waits md ops f e.on i))
theorem waits_listed {listed : Array Bool} (h : Cl md ops listed) (i : Nat) : ∀ (f j : Nat), listed.getD j false = true → waits md ops f j i = true → listed.getD i false = true
  | 0, _, _, hw => by simp [waits] at hw
  | f + 1, j, hj, hw => by
    unfold waits at hw
    cases ho : ops[j]? with
    | none => simp [ho] at hw
    | some o =>
      simp only [ho] at hw
      obtain ⟨q, hq, hb⟩ := Array.any_eq_true.1 hw
      have he := Array.getElem_mem hq
      generalize o.after[q] = e at *
      simp only [Bool.and_eq_true, Bool.or_eq_true, beq_iff_eq] at hb
      have hl := h j o ho hj e he hb.1
      rcases hb.2 with hb2 | hb2
      · rw [← hb2]; exact hl
      · exact waits_listed h i f e.on hl hb2
theorem waits_ready {listed : Array Bool} (h : Cl md ops listed) (i f : Nat) (hm : m ∈ Region.ready md ops listed) (hw : waits md ops (f + 1) m i = true) : listed.getD i false = true := by
  obtain ⟨_, o, ho, hall⟩ := mem_ready.1 hm
  unfold waits at hw
  simp only [ho] at hw
  obtain ⟨q, hq, hb⟩ := Array.any_eq_true.1 hw
  have he := Array.getElem_mem hq
  generalize o.after[q] = e at *
  simp only [Bool.and_eq_true, Bool.or_eq_true, beq_iff_eq] at hb
  have hl := hall e he hb.1
  rcases hb.2 with hb2 | hb2
  · rw [← hb2]; exact hl
  · exact waits_listed h i f e.on hl hb2

/-- An operation that only reads, and for which m waits, may be taken first. -/
theorem anyL_first {i f : Nat} {oi : Oper} {v : Value} (hi : ops[i]? = some oi) (him : i ≠ m) (hwt : waits md ops (f + 1) m i = true) (hsel : ∀ (j : Nat) (o : Oper) cs b, ops[j]? = some o → o.op ≠ .select cs b) :
    ∀ (fuel : Nat) (listed : Array Bool) (a : Act), Cl md ops listed →
      (∀ j oj, ops[j]? = some oj → j ≠ i → listed.getD j true = false → (∀ e ∈ oj.after, Region.binds md e = true → e.on ≠ i) → oi.apart ops oj = true) →
      i ∈ Region.ready md ops listed → YieldsIn P ops C oi v a →
      anyL P md ops C m L fuel (listed.setIfInBounds i true) (a.put oi.dst v) → anyL P md ops C m L (fuel + 1) listed a := by
  intro fuel
  induction fuel with
  | zero => intro listed a _ _ _ _ H; exact H.elim
  | succ fuel ih =>
    intro listed a hcl hfree hr hy H
    have hun := (mem_ready.1 hr).1
    refine ⟨fun h => (by rw [h] at hr; cases hr), fun j hj => ?_⟩
    by_cases hji : j = i
    · subst hji
      rw [if_neg him]
      exact hy.qOp hi H
    · by_cases hjm : j = m
      · exfalso
        subst hjm
        have h1 := waits_ready hcl i f hj hwt
        rcases Nat.lt_or_ge i listed.size with h' | h'
        · simp [h'] at h1 hun; rw [hun] at h1; cases h1
        · simp [Array.getElem?_eq_none h'] at h1
      · rw [if_neg hjm]
        have h1 := H.2 j (ready_mono hj hji)
        rw [if_neg hjm] at h1
        obtain ⟨hjun, oj, hoj, hall⟩ := mem_ready.1 hj
        have hnot : ∀ e ∈ oj.after, Region.binds md e = true → e.on ≠ i := fun e he hb heq => by
          have h1 := hall e he hb
          rw [heq] at h1
          rcases Nat.lt_or_ge i listed.size with h' | h'
          · simp [h'] at h1 hun; rw [hun] at h1; cases h1
          · simp [Array.getElem?_eq_none h'] at h1
        have h2 := qOp_put hoj (hfree j oj hoj hji hjun hnot) (fun cs b => hsel i oi cs b hi) (fun cs b => hsel j oj cs b hoj) hy h1
        refine qOp_mono (fun a' h3 => ih (listed.setIfInBounds j true) a' (hcl.set hj) (fun k ok hk hki hu hno => hfree k ok hk hki ?_ hno) (ready_mono hr (Ne.symm hji)) h3.1 ?_) h2
        · by_cases hjk : j = k
          · subst hjk; exact hjun
          · rw [getD_set_ne true hjk] at hu; exact hu
        · rw [Array.setIfInBounds_comm _ _ hji]
          exact h3.2

/-- The lexical order can be gone, all but the last. -/
def lexL (md : Region.Mode) (ops : Array Oper) (m f : Nat) : Nat → Nat → Array Bool → Bool
  | 0, _, listed => (Region.ready md ops listed == [m]) && (Region.ready md ops (listed.setIfInBounds m true)).isEmpty
  | fuel + 1, k, listed => (Region.ready md ops listed).contains k && Region.free md ops listed k && (k != m) && waits md ops (f + 1) m k && lexL md ops m f fuel (k + 1) (listed.setIfInBounds k true)

theorem anyL_lex (f : Nat) (hs : Region.noSelect ops = true) : ∀ (l : List Oper) (k : Nat) (listed : Array Bool) (a : Act), Cl md ops listed → (∀ j, j < l.length → l[j]? = ops[k + j]?) →
    lexL md ops m f l.length k listed = true → wpQuiet P ops C L l a → anyL P md ops C m L (l.length + 1) listed a
  | [], _, listed, a, _, _, hB, h => by
    simp only [List.length_nil, lexL, Bool.and_eq_true, beq_iff_eq, List.isEmpty_iff] at hB
    refine ⟨by rw [hB.1]; simp, fun i hi => ?_⟩
    rw [hB.1, List.mem_singleton] at hi
    rw [if_pos hi]
    exact ⟨h, hB.2⟩
  | o :: l, k, listed, a, hcl, hl, hB, h => by
    have h0 : ops[k]? = some o := by have := hl 0 (by simp); simpa using this.symm
    simp only [List.length_cons, lexL, Bool.and_eq_true, bne_iff_ne] at hB
    obtain ⟨⟨⟨⟨hr, hf⟩, hne⟩, hw⟩, hB'⟩ := hB
    have hst : qOp P ops C k (wpQuiet P ops C L l) a := by unfold qOp; simp only [h0]; exact h
    obtain ⟨v, hy, hK⟩ := yieldsIn_of_qOp h0 hst
    have hrm : k ∈ Region.ready md ops listed := by simpa using hr
    exact anyL_first h0 hne hw (Region.noSelect_spec hs) (l.length + 1) listed a hcl (Region.free_spec h0 hf) hrm hy
      (anyL_lex f hs l (k + 1) _ _ (hcl.set hrm) (fun j hj => by have := hl (j + 1) (by simpa using hj); simpa [Nat.add_assoc, Nat.add_comm 1 j] using this) hB' hK)
end

/-- A region whose operations are written out: all but the last only read. -/
theorem wp_region_last {P : Program} {id : Nat} {Q : Exit → Act → World → Prop} {a : Act} {w : World} {l : List Oper} (f : Nat) (last : Oper) (hm : P.follows .mixedOrders = true) (hlast : l[l.length - 1]? = some last) (hg : last.guard = none)
    (hB : (Region.noSelect l.toArray && lexL .any l.toArray (l.length - 1) f (l.length - 1) 0 (Array.replicate l.length false)) = true)
    (h : wpQuiet P l.toArray (fun w' => ∃ n, w' = w.drewN n) (fun a' => ∀ n, Oper.wp P last a' (w.drewN n) (fun a' w' => Q .normal a' w') Q) l.dropLast a) : (Code.region id l.toArray true).wp P Q a w := by
  rw [Bool.and_eq_true] at hB
  have hpos : 0 < l.length := by
    have := (List.getElem?_eq_some_iff.1 hlast).1
    omega
  have hlen : l.dropLast.length + 1 = l.length := by rw [List.length_dropLast]; omega
  refine wp_region_any hm (anyL_sound (C := fun w' => ∃ n, w' = w.drewN n) (m := l.length - 1) (L := fun a' => ∀ n, Oper.wp P last a' (w.drewN n) (fun a' w' => Q .normal a' w') Q) (fun a' w' hw' hL => ?_) _ _ _ _ ⟨1, rfl⟩ ?_)
  · obtain ⟨n, rfl⟩ := hw'
    unfold wpOp
    have e : l.toArray[l.length - 1]? = some last := by simpa using hlast
    have hwn : Region.wanted last (yielded l.toArray a'.tmps) = true := by simp [Region.wanted, hg]
    simp only [e, hwn, if_true]
    exact .inl (hL n)
  · have hx := anyL_lex (P := P) (ops := l.toArray) (md := .any) (C := fun w' => ∃ n, w' = w.drewN n) (m := l.length - 1) (L := fun a' => ∀ n, Oper.wp P last a' (w.drewN n) (fun a' w' => Q .normal a' w') Q) f hB.1 l.dropLast 0 (Array.replicate l.length false) a (Cl.none _)
      (fun j hj => by
        rw [List.length_dropLast] at hj
        rw [List.getElem?_dropLast, if_pos hj]
        simp) (by rw [List.length_dropLast]; exact hB.2) h
    rw [hlen] at hx
    simpa using hx

end Go.Proofs.Ytkefpjbdkhifhaa

namespace Go.Proofs.Ytkefpjbdkhifhaa
open Go.RowKit

section
variable {P : Program} {ops : Array Oper} {md : Region.Mode} {S : World → Prop} {Q : Exit → Act → World → Prop} {m : Nat}

/-- Whatever order is picked from here on; behind every operation but number m S holds. -/
def wpAnyT (P : Program) (md : Region.Mode) (ops : Array Oper) (Q : Exit → Act → World → Prop) (S : World → Prop) (m : Nat) : Nat → Array Bool → Act → World → Prop
  | 0, listed, a, w => Region.ready md ops listed = [] ∧ Q .normal a w
  | fuel + 1, listed, a, w => (Region.ready md ops listed = [] → Q .normal a w) ∧ ∀ i ∈ Region.ready md ops listed, wpOp P ops Q i (fun a' w' => (i = m ∨ S w') ∧ wpAnyT P md ops Q S m fuel (listed.setIfInBounds i true) a' w') a w
theorem wpAny_of_T : ∀ (fuel : Nat) (listed : Array Bool) (a : Act) (w : World), wpAnyT P md ops Q S m fuel listed a w → wpAny P md ops Q fuel listed a w
  | 0, _, _, _, h => h
  | fuel + 1, listed, _, _, h => ⟨h.1, fun i hi => wpOp_mono (fun a' w' h2 => wpAny_of_T fuel (listed.setIfInBounds i true) a' w' h2.2) (h.2 i hi)⟩

/-- An operation that yields the same wherever S holds, and for which m waits, may be taken first. -/
theorem wpAnyT_first {i f : Nat} {oi : Oper} {v : Value} (hi : ops[i]? = some oi) (him : i ≠ m) (hwt : waits md ops (f + 1) m i = true) (hsel : ∀ (j : Nat) (o : Oper) cs b, ops[j]? = some o → o.op ≠ .select cs b)
    (hQ : ∀ c a w, Q (.panic c) (a.put oi.dst v) w → Q (.panic c) a w) :
    ∀ (fuel : Nat) (listed : Array Bool) (a : Act) (w : World), Cl md ops listed →
      (∀ j oj, ops[j]? = some oj → j ≠ i → listed.getD j true = false → (∀ e ∈ oj.after, Region.binds md e = true → e.on ≠ i) → oi.apart ops oj = true) →
      i ∈ Region.ready md ops listed → YieldsIf P ops S oi v a → S w →
      wpAnyT P md ops Q S m fuel (listed.setIfInBounds i true) (a.put oi.dst v) w → wpAnyT P md ops Q S m (fuel + 1) listed a w := by
  intro fuel
  induction fuel with
  | zero =>
    intro listed a w _ _ hr hy hS H
    refine ⟨fun h => (by rw [h] at hr; cases hr), fun j hj => ?_⟩
    by_cases hji : j = i
    · subst hji; exact hy.wpOp hi hS ⟨.inr hS, H⟩
    · have := ready_mono hj hji
      rw [H.1] at this
      cases this
  | succ fuel ih =>
    intro listed a w hcl hfree hr hy hS H
    have hun := (mem_ready.1 hr).1
    refine ⟨fun h => (by rw [h] at hr; cases hr), fun j hj => ?_⟩
    by_cases hji : j = i
    · subst hji; exact hy.wpOp hi hS ⟨.inr hS, H⟩
    · have hjm : j ≠ m := by
        intro e
        subst e
        have h1 := waits_ready hcl i f hj hwt
        rcases Nat.lt_or_ge i listed.size with h' | h'
        · simp [h'] at h1 hun; rw [hun] at h1; cases h1
        · simp [Array.getElem?_eq_none h'] at h1
      have h1 := H.2 j (ready_mono hj hji)
      obtain ⟨hjun, oj, hoj, hall⟩ := mem_ready.1 hj
      have hnot : ∀ e ∈ oj.after, Region.binds md e = true → e.on ≠ i := fun e he hb heq => by
        have h1 := hall e he hb
        rw [heq] at h1
        rcases Nat.lt_or_ge i listed.size with h' | h'
        · simp [h'] at h1 hun; rw [hun] at h1; cases h1
        · simp [Array.getElem?_eq_none h'] at h1
      have h2 := wpOp_putIf hoj (hfree j oj hoj hji hjun hnot) (fun cs b => hsel i oi cs b hi) (fun cs b => hsel j oj cs b hoj) hQ hy h1
      refine wpOp_mono (fun a' w' h3 => ?_) h2
      have hS' : S w' := h3.2.1.resolve_left hjm
      refine ⟨.inr hS', ih (listed.setIfInBounds j true) a' w' (hcl.set hj) (fun k ok hk hki hu hno => hfree k ok hk hki ?_ hno) (ready_mono hr (Ne.symm hji)) h3.1 hS' ?_⟩
      · by_cases hjk : j = k
        · subst hjk; exact hjun
        · rw [getD_set_ne true hjk] at hu; exact hu
      · rw [Array.setIfInBounds_comm _ _ hji]
        exact h3.2.2

/-- Those that are not marked, in the order of the text; behind each but the last S. -/
def tailL (P : Program) (ops : Array Oper) (Q : Exit → Act → World → Prop) (S : World → Prop) : List Oper → List Bool → Act → World → Prop
  | o :: rest, false :: ms, a, w => ∀ K' : Act → World → Prop, Shut (∀ a w, (ms = [] ∨ S w) → tailL P ops Q S rest ms a w → K' a w) → if Region.wanted o (yielded ops a.tmps) = true then Oper.wp P o a w K' Q else K' (a.put o.dst undef) w
  | _ :: rest, true :: ms, a, w => tailL P ops Q S rest ms a w
  | _, _, a, w => Q .normal a w
theorem tailL_step {o : Oper} {rest : List Oper} {ms : List Bool} {a : Act} {w : World} (h : ∀ K' : Act → World → Prop, Shut (∀ a w, (ms = [] ∨ S w) → tailL P ops Q S rest ms a w → K' a w) → if Region.wanted o (yielded ops a.tmps) = true then Oper.wp P o a w K' Q else K' (a.put o.dst undef) w) :
    tailL P ops Q S (o :: rest) (false :: ms) a w := h
theorem tailL_skip {o : Oper} {rest : List Oper} {ms : List Bool} {a : Act} {w : World} (h : tailL P ops Q S rest ms a w) : tailL P ops Q S (o :: rest) (true :: ms) a w := h
theorem tailL_nil {a : Act} {w : World} (h : Q .normal a w) : tailL P ops Q S [] [] a w := h

theorem anyT_tail : ∀ (l : List Oper) (ms : List Bool) (k : Nat) (listed : Array Bool) (a : Act) (w : World), l.length = ms.length → (∀ j, j < l.length → l[j]? = ops[k + j]?) → k + l.length = m + 1 →
    lexTail md ops ms k listed = true → tailL P ops Q S l ms a w → wpAnyT P md ops Q S m (leftF ms) listed a w
  | [], [], _, listed, a, w, _, _, _, hB, h => ⟨by simpa [lexTail] using hB, h⟩
  | [], _ :: _, _, _, _, _, hl, _, _, _, _ => by simp at hl
  | _ :: _, [], _, _, _, _, hl, _, _, _, _ => by simp at hl
  | o :: l, true :: ms, k, listed, a, w, hl, ha, hm, hB, h =>
    anyT_tail l ms (k + 1) listed a w (by simpa using hl) (fun j hj => by have := ha (j + 1) (by simpa using hj); simpa [Nat.add_assoc, Nat.add_comm 1 j] using this) (by simp at hm; omega) hB h
  | o :: l, false :: ms, k, listed, a, w, hl, ha, hm, hB, h => by
    have h0 : ops[k]? = some o := by have := ha 0 (by simp); simpa using this.symm
    simp only [lexTail, Bool.and_eq_true, beq_iff_eq] at hB
    refine ⟨fun h1 => by rw [hB.1] at h1; simp at h1, fun i hi => ?_⟩
    rw [hB.1, List.mem_singleton] at hi
    subst hi
    refine wpOp_step h0 (fun K' hK => h K' (fun a' w' hS ht => hK a' w' ⟨?_, ?_⟩))
    · rcases hS with rfl | hS
      · have : l.length = 0 := by simpa using hl
        simp at hm
        exact .inl (by omega)
      · exact .inr hS
    · exact anyT_tail l ms (i + 1) _ a' w' (by simpa using hl) (fun j hj => by have := ha (j + 1) (by simpa using hj); simpa [Nat.add_assoc, Nat.add_comm 1 j] using this) (by simp at hm; omega) hB.2 ht

def lexLast (md : Region.Mode) (ops : Array Oper) (m f : Nat) (all : List Bool) : List Bool → Nat → Array Bool → Bool
  | [], _, listed => lexTail md ops all 0 listed
  | true :: ms, k, listed => (Region.ready md ops listed).contains k && Region.free md ops listed k && (k != m) && waits md ops (f + 1) m k && lexLast md ops m f all ms (k + 1) (listed.setIfInBounds k true)
  | false :: ms, k, listed => lexLast md ops m f all ms (k + 1) listed
theorem anyT_held {f : Nat} {l0 : List Oper} {all : List Bool} (hs : Region.noSelect ops = true) (hQ : ∀ c a d v w, Q (.panic c) (Act.put a d v) w → Q (.panic c) a w) (hl0 : l0.length = all.length) (ha0 : ∀ j, j < l0.length → l0[j]? = ops[0 + j]?) (hm : l0.length = m + 1) :
    ∀ (l : List Oper) (ms : List Bool) (k : Nat) (listed : Array Bool) (a : Act) (w : World), l.length = ms.length → (∀ j, j < l.length → l[j]? = ops[k + j]?) → Cl md ops listed →
    lexLast md ops m f all ms k listed = true → S w → heldF P ops S (fun a' => tailL P ops Q S l0 all a' w) l ms a → wpAnyT P md ops Q S m (takenF ms + leftF all) listed a w
  | [], [], _, listed, a, w, _, _, _, hB, _, h => by
    simp only [takenF, Nat.zero_add]
    exact anyT_tail l0 all 0 listed a w hl0 ha0 (by omega) hB h
  | [], _ :: _, _, _, _, _, hl, _, _, _, _, _ => by simp at hl
  | _ :: _, [], _, _, _, _, hl, _, _, _, _, _ => by simp at hl
  | o :: l, true :: ms, k, listed, a, w, hl, ha, hcl, hB, hS, h => by
    have h0 : ops[k]? = some o := by have := ha 0 (by simp); simpa using this.symm
    simp only [lexLast, Bool.and_eq_true, bne_iff_ne] at hB
    obtain ⟨⟨⟨⟨hr, hf⟩, hne⟩, hw⟩, hB'⟩ := hB
    obtain ⟨v, hy, hK⟩ := h
    have hrm : k ∈ Region.ready md ops listed := by simpa using hr
    have e : takenF (true :: ms) + leftF all = (takenF ms + leftF all) + 1 := by simp only [takenF]; omega
    rw [e]
    exact wpAnyT_first h0 hne hw (Region.noSelect_spec hs) (fun c a' w' hq => hQ c a' _ _ w' hq) _ listed a w hcl (Region.free_spec h0 hf) hrm hy hS
      (anyT_held hs hQ hl0 ha0 hm l ms (k + 1) _ _ w (by simpa using hl) (fun j hj => by have := ha (j + 1) (by simpa using hj); simpa [Nat.add_assoc, Nat.add_comm 1 j] using this) (hcl.set hrm) hB' hS hK)
  | o :: l, false :: ms, k, listed, a, w, hl, ha, hcl, hB, hS, h =>
    anyT_held hs hQ hl0 ha0 hm l ms (k + 1) listed a w (by simpa using hl) (fun j hj => by have := ha (j + 1) (by simpa using hj); simpa [Nat.add_assoc, Nat.add_comm 1 j] using this) hcl hB hS h
end

/-- A region whose operations are written out, and which of them are taken first; the last one waits for all. -/
theorem wp_region_tailL {P : Program} {id : Nat} {Q : Exit → Act → World → Prop} {a : Act} {w : World} {l : List Oper} (f : Nat) (S : World → Prop) (ms : List Bool) (hm : P.follows .mixedOrders = true) (hQ : ∀ c a d v w, Q (.panic c) (Act.put a d v) w → Q (.panic c) a w)
    (hl : l.length = ms.length) (hpos : 0 < l.length) (hB : (Region.noSelect l.toArray && lexLast .any l.toArray (l.length - 1) f ms ms 0 (Array.replicate l.length false)) = true)
    (hS : S w.drew) (h : heldF P l.toArray S (fun a' => tailL P l.toArray Q S l ms a' w.drew) l ms a) : (Code.region id l.toArray true).wp P Q a w := by
  rw [Bool.and_eq_true] at hB
  refine wp_region_any hm (wpAny_of_T (S := S) (m := l.length - 1) _ _ _ _ ?_)
  have := anyT_held (P := P) (ops := l.toArray) (md := .any) (S := S) (Q := Q) (m := l.length - 1) (f := f) (l0 := l) (all := ms) hB.1 hQ hl (fun j hj => by simp) (by omega) l ms 0 (Array.replicate l.length false) a w.drew hl (fun j hj => by simp) (Cl.none _) hB.2 hS h
  rw [count_all ms, ← hl] at this
  simpa using this

end Go.Proofs.Ytkefpjbdkhifhaa

namespace Go.Proofs.Ytkefpjbdkhifhaa
open Go.RowKit

theorem grown_atG {a b : World} {g : Nat} {o : Obj} {row : Option Nat} (h : a.grownBy b row) (hg : a.heap[g]? = some o) (hne : row ≠ some g) : b.heap[g]? = some o :=
  (h.block g (Array.getElem?_eq_some_iff.1 hg).1 (Ne.symm hne)).trans hg

theorem toneIndex (wd r c : Nat) (x y : Value) (hw : wd ≤ 4096) (hr : r ≤ 4096) (hc : c ≤ 4096) (k : Nat) (hk : Hid (r * wd + c = k)) (w : World) :
    Calls Try.prog 88 #[.agg #[.int .i64 (wd : Int), x, y], .int .i64 (r : Int), .int .i64 (c : Int)] w fun e w' => e = .returned (.int .i64 (k : Int)) ∧ w.grownBy w' none := by
  have h0 : r * wd ≤ 4096 * 4096 := Nat.mul_le_mul hr hw
  have h1 := i64_in ((r : Int) * (wd : Int)) (by rw [← Int.natCast_mul]; omega)
  have h2 := i64_in ((r : Int) * (wd : Int) + (c : Int)) (by rw [← Int.natCast_mul]; omega)
  have h3 : (r : Int) * (wd : Int) + (c : Int) = (k : Int) := by rw [← Int.natCast_mul, ← Int.natCast_add, unhide hk]
  go_enter Try.func88, Try.ntmps88
  go_wp2
  go_ret
  exact ⟨rfl, grown_alloc (World.grownBy.refl _ _) _⟩

set_option maxRecDepth 20000 in
set_option maxHeartbeats 1600000 in
theorem toneRow (wd ht g n r lo : Nat) (hw : 1 ≤ wd ∧ wd ≤ 1024) (hh : ht ≤ 1024) (hr : r < ht) (HN : Hid (wd * ht = n)) (HLO : Hid (r * wd = lo)) (W : World) :
    Calls Try.prog 74 #[.agg #[.int .i64 (wd : Int), .int .i64 (ht : Int), .slice (some ⟨g, 0, none⟩) n n], .int .i64 (r : Int)] W fun e W' => e = .returned (.slice (some ⟨g, lo, none⟩) wd (n - lo)) ∧ W.grownBy W' none := by
  have hx := row_end (w := wd) hr
  rw [unhide HLO, Nat.mul_comm ht wd, unhide HN] at hx
  have hnb : n ≤ 1048576 := by rw [← unhide HN]; exact Nat.mul_le_mul hw.2 hh
  obtain ⟨hi, HHI⟩ : ∃ hi : Nat, Hid ((r + 1) * wd + 0 = hi) := ⟨_, rfl⟩
  have hhi : hi = lo + wd := by rw [← unhide HHI, ← unhide HLO, Nat.add_mul, Nat.one_mul, Nat.add_zero]
  have HLO' : Hid (r * wd + 0 = lo) := by unfold Hid; rw [Nat.add_zero]; exact unhide HLO
  have e1 := i64_in ((r : Int) + 1) (by omega)
  have e2 : ((r : Int) + 1) = ((r + 1 : Nat) : Int) := by push_cast; rfl
  have s1 : (0 : Int) ≤ (lo : Int) := by omega
  have s2 : (lo : Int) ≤ (hi : Int) := by omega
  have s3 : (hi : Int) ≤ (n : Int) := by omega
  have s4 : ¬ n = lo := by omega
  have HHH := hide hhi
  have E2 := hide e2
  clear hx hhi e2
  obtain ⟨W0, hW0⟩ : ∃ W0, W.alloc (.cells #[.int .i64 (wd : Int), .int .i64 (ht : Int), .slice (some ⟨g, 0, none⟩) n n] 55) = W0 := ⟨_, rfl⟩
  have G0 : W.grownBy W0 none := by rw [← hW0]; exact World.grownBy_alloc _ _ _
  have b0 : W0.heap[W.heap.size]? = some (.cells #[.int .i64 (wd : Int), .int .i64 (ht : Int), .slice (some ⟨g, 0, none⟩) n n] 55 (0, 0)) := by rw [← hW0]; exact heap_alloc_new W _
  have HW := hide hW0
  have B0 := hide b0
  have HG0 := hide G0
  clear hW0 b0 G0
  go_enter Try.func74, Try.ntmps74
  go_wp2
  rw [unhide HW]
  clear HW
  refine wp_region_noPanic ?_
  refine wp_region_tail (fun W => W0.drew.grownBy W none) [true, true, true, true, false, true, true, true, false, false, false] (by kernel_rfl) (fun _ _ _ _ _ h => h) rfl (by kernel_rfl) (World.grownBy.refl _ _) ?_
  have BD : Hid (W0.drew.heap[W.heap.size]? = some (.cells #[.int .i64 (wd : Int), .int .i64 (ht : Int), .slice (some ⟨g, 0, none⟩) n n] 55 (0, 0))) := unhide B0
  have gD : W.grownBy W0.drew none := grown_drew (unhide HG0)
  generalize W0.drew = W1 at *
  clear B0 HG0 W0
  have C2 : Hid (W1.cell? ⟨W.heap.size, 2, none⟩ = some (.slice (some ⟨g, 0, none⟩) n n)) := by unfold Hid; rw [cell_of_row W1 _ 2 _ _ (0, 0) (unhide BD)]; rfl
  refine heldF_take (v := ?_) (Or.inl ⟨by rfl, ?_⟩) ?_
  rotate_left 1
  · intro w' hSw
    go_simp
    try with_reducible rfl
  try simp only [Act.put, List.setIfInBounds_toArray, List.set_cons_zero, List.set_cons_succ]
  refine heldF_take (v := ?_) (Or.inl ⟨by rfl, ?_⟩) ?_
  rotate_left 1
  · intro w' hSw
    have cc := hSw.cell (unhide C2) (by simp)
    go_simp
    try with_reducible rfl
  try simp only [Act.put, List.setIfInBounds_toArray, List.set_cons_zero, List.set_cons_succ]
  refine heldF_take (v := .agg #[.int .i64 (wd : Int), .int .i64 (ht : Int), .slice (some ⟨g, 0, none⟩) n n]) (Or.inl ⟨by rfl, ?_⟩) ?_
  · intro w' hSw
    exact exec_row 55 _ rfl W.heap.size rfl _ _ (grown_atG hSw (unhide BD) (by simp)) _ Try.underlying55 rfl (by kernel_rfl)
  try simp only [Act.put, List.setIfInBounds_toArray, List.set_cons_zero, List.set_cons_succ]
  refine heldF_take (v := ?_) (Or.inl ⟨by rfl, ?_⟩) ?_
  rotate_left 1
  · intro w' hSw
    go_simp
    try with_reducible rfl
  try simp only [Act.put, List.setIfInBounds_toArray, List.set_cons_zero, List.set_cons_succ]
  refine heldF_skip ?_
  refine heldF_take (v := .agg #[.int .i64 (wd : Int), .int .i64 (ht : Int), .slice (some ⟨g, 0, none⟩) n n]) (Or.inl ⟨by rfl, ?_⟩) ?_
  · intro w' hSw
    exact exec_row 55 _ rfl W.heap.size rfl _ _ (grown_atG hSw (unhide BD) (by simp)) _ Try.underlying55 rfl (by kernel_rfl)
  try simp only [Act.put, List.setIfInBounds_toArray, List.set_cons_zero, List.set_cons_succ]
  refine heldF_take (v := ?_) (Or.inl ⟨by rfl, ?_⟩) ?_
  rotate_left 1
  · intro w' hSw
    go_simp
    try with_reducible rfl
  try simp only [Act.put, List.setIfInBounds_toArray, List.set_cons_zero, List.set_cons_succ]
  refine heldF_take (v := ?_) (Or.inl ⟨by rfl, ?_⟩) ?_
  rotate_left 1
  · intro w' hSw
    go_simp
    try with_reducible rfl
  try simp only [Act.put, List.setIfInBounds_toArray, List.set_cons_zero, List.set_cons_succ]
  refine heldF_skip ?_
  refine heldF_skip ?_
  refine heldF_skip ?_
  refine heldF_nil ?_
  refine tailF_skip ?_
  refine tailF_skip ?_
  refine tailF_skip ?_
  refine tailF_skip ?_
  refine tailF_step (fun K hK => ?_)
  go_simp
  refine (toneIndex wd r 0 _ _ (by omega) (by omega) (by omega) lo HLO' W1).mono ?_
  rintro e w4 ⟨rfl, g4⟩
  refine hK.out _ _ g4 ?_
  clear hK K
  try simp only [Act.put, List.setIfInBounds_toArray, List.set_cons_zero, List.set_cons_succ]
  refine tailF_skip ?_
  refine tailF_skip ?_
  refine tailF_skip ?_
  refine tailF_step (fun K hK => ?_)
  go_simp
  rw [unhide E2]
  refine (toneIndex wd (r + 1) 0 _ _ (by omega) (by omega) (by omega) hi HHI w4).mono ?_
  rintro e w5 ⟨rfl, g5⟩
  refine hK.out _ _ (grown_trans g4 g5) ?_
  clear hK K
  try simp only [Act.put, List.setIfInBounds_toArray, List.set_cons_zero, List.set_cons_succ]
  refine tailF_step (fun K hK => ?_)
  go_simp
  refine hK.out _ _ (grown_trans g4 g5) ?_
  clear hK K
  try simp only [Act.put, List.setIfInBounds_toArray, List.set_cons_zero, List.set_cons_succ]
  refine tailF_step (fun K hK => ?_)
  go_simp
  refine hK.out _ _ (grown_trans g4 g5) ?_
  clear hK K
  try simp only [Act.put, List.setIfInBounds_toArray, List.set_cons_zero, List.set_cons_succ]
  refine tailF_nil (NoPanic.normal ?_)
  try simp only [Act.put]
  go_wp2
  go_ret
  refine ⟨?_, grown_trans gD (grown_trans g4 g5)⟩
  have := unhide HHH
  simp
  omega
set_option maxRecDepth 20000 in
set_option maxHeartbeats 1600000 in
theorem toneAt (wd ht g n r c k : Nat) (L : List Int) (hw : wd ≤ 1024) (hr : r ≤ 1024) (hc : c ≤ 1024) (HK : Hid (r * wd + c = k)) (hkl : k < n) (hL : L.length = n) (W : World) (hB : Blk .u16 73 W g L) :
    Calls Try.prog 79 #[.agg #[.int .i64 (wd : Int), .int .i64 (ht : Int), .slice (some ⟨g, 0, none⟩) n n], .int .i64 (r : Int), .int .i64 (c : Int)] W fun e W' => e = .returned (.int .u16 (L.getD k 0)) ∧ W.grownBy W' none := by
  have HB := hide hB
  have HL := hide hL
  have i0 : (0 : Int) ≤ (k : Int) := by omega
  have i1 : (k : Int) < (n : Int) := by omega
  clear hB hL
  obtain ⟨W0, hW0⟩ : ∃ W0, W.alloc (.cells #[.int .i64 (wd : Int), .int .i64 (ht : Int), .slice (some ⟨g, 0, none⟩) n n] 55) = W0 := ⟨_, rfl⟩
  have G0 : W.grownBy W0 none := by rw [← hW0]; exact World.grownBy_alloc _ _ _
  have b0 : W0.heap[W.heap.size]? = some (.cells #[.int .i64 (wd : Int), .int .i64 (ht : Int), .slice (some ⟨g, 0, none⟩) n n] 55 (0, 0)) := by rw [← hW0]; exact heap_alloc_new W _
  have HW := hide hW0
  have B0 := hide b0
  have HG0 := hide G0
  clear hW0 b0 G0
  go_enter Try.func79, Try.ntmps79
  go_wp2
  rw [unhide HW]
  clear HW
  refine wp_region_noPanic ?_
  refine wp_region_tail (fun W => W0.drew.grownBy W none) [true, true, true, true, true, false, false, false, false] (by kernel_rfl) (fun _ _ _ _ _ h => h) rfl (by kernel_rfl) (World.grownBy.refl _ _) ?_
  have BD : Hid (W0.drew.heap[W.heap.size]? = some (.cells #[.int .i64 (wd : Int), .int .i64 (ht : Int), .slice (some ⟨g, 0, none⟩) n n] 55 (0, 0))) := unhide B0
  have gD : W.grownBy W0.drew none := grown_drew (unhide HG0)
  generalize W0.drew = W1 at *
  clear B0 HG0 W0
  have C2 : Hid (W1.cell? ⟨W.heap.size, 2, none⟩ = some (.slice (some ⟨g, 0, none⟩) n n)) := by unfold Hid; rw [cell_of_row W1 _ 2 _ _ (0, 0) (unhide BD)]; rfl
  refine heldF_take (v := ?_) (Or.inl ⟨by rfl, ?_⟩) ?_
  rotate_left 1
  · intro w' hSw
    go_simp
    try with_reducible rfl
  try simp only [Act.put, List.setIfInBounds_toArray, List.set_cons_zero, List.set_cons_succ]
  refine heldF_take (v := ?_) (Or.inl ⟨by rfl, ?_⟩) ?_
  rotate_left 1
  · intro w' hSw
    have cc := hSw.cell (unhide C2) (by simp)
    go_simp
    try with_reducible rfl
  try simp only [Act.put, List.setIfInBounds_toArray, List.set_cons_zero, List.set_cons_succ]
  refine heldF_take (v := .agg #[.int .i64 (wd : Int), .int .i64 (ht : Int), .slice (some ⟨g, 0, none⟩) n n]) (Or.inl ⟨by rfl, ?_⟩) ?_
  · intro w' hSw
    exact exec_row 55 _ rfl W.heap.size rfl _ _ (grown_atG hSw (unhide BD) (by simp)) _ Try.underlying55 rfl (by kernel_rfl)
  try simp only [Act.put, List.setIfInBounds_toArray, List.set_cons_zero, List.set_cons_succ]
  refine heldF_take (v := ?_) (Or.inl ⟨by rfl, ?_⟩) ?_
  rotate_left 1
  · intro w' hSw
    go_simp
    try with_reducible rfl
  try simp only [Act.put, List.setIfInBounds_toArray, List.set_cons_zero, List.set_cons_succ]
  refine heldF_take (v := ?_) (Or.inl ⟨by rfl, ?_⟩) ?_
  rotate_left 1
  · intro w' hSw
    go_simp
    try with_reducible rfl
  try simp only [Act.put, List.setIfInBounds_toArray, List.set_cons_zero, List.set_cons_succ]
  refine heldF_skip ?_
  refine heldF_skip ?_
  refine heldF_skip ?_
  refine heldF_skip ?_
  refine heldF_nil ?_
  refine tailF_skip ?_
  refine tailF_skip ?_
  refine tailF_skip ?_
  refine tailF_skip ?_
  refine tailF_skip ?_
  refine tailF_step (fun K hK => ?_)
  go_simp
  refine (toneIndex wd r c _ _ (by omega) (by omega) (by omega) k HK W1).mono ?_
  rintro e w4 ⟨rfl, g4⟩
  have ck := ((unhide HB).grown (grown_trans gD g4)).cell k (by rw [unhide HL]; exact hkl)
  refine hK.out _ _ g4 ?_
  clear hK K
  try simp only [Act.put, List.setIfInBounds_toArray, List.set_cons_zero, List.set_cons_succ]
  refine tailF_step (fun K hK => ?_)
  go_simp
  refine hK.out _ _ g4 ?_
  clear hK K
  try simp only [Act.put, List.setIfInBounds_toArray, List.set_cons_zero, List.set_cons_succ]
  refine tailF_step (fun K hK => ?_)
  go_simp
  refine hK.out _ _ g4 ?_
  clear hK K
  try simp only [Act.put, List.setIfInBounds_toArray, List.set_cons_zero, List.set_cons_succ]
  refine tailF_step (fun K hK => ?_)
  go_simp
  refine hK.out _ _ g4 ?_
  clear hK K
  try simp only [Act.put, List.setIfInBounds_toArray, List.set_cons_zero, List.set_cons_succ]
  refine tailF_nil (NoPanic.normal ?_)
  try simp only [Act.put]
  go_wp2
  go_ret
  exact ⟨rfl, grown_trans gD g4⟩

set_option maxRecDepth 20000 in
set_option maxHeartbeats 1600000 in
theorem tonePut (wd ht g n r c k : Nat) (L : List Int) (z : Int) (hw : wd ≤ 1024) (hr : r ≤ 1024) (hc : c ≤ 1024) (HK : Hid (r * wd + c = k)) (hkl : k < n) (hL : L.length = n) (W : World) (hB : Blk .u16 73 W g L) :
    Calls Try.prog 78 #[.agg #[.int .i64 (wd : Int), .int .i64 (ht : Int), .slice (some ⟨g, 0, none⟩) n n], .int .i64 (r : Int), .int .i64 (c : Int), .int .u16 z] W fun e W' => (∃ v, e = .returned v) ∧ Blk .u16 73 W' g (L.set k z) ∧ W.grownBy W' (some g) := by
  have HB := hide hB
  have HL := hide hL
  have i0 : (0 : Int) ≤ (k : Int) := by omega
  have i1 : (k : Int) < (n : Int) := by omega
  clear hB hL
  obtain ⟨W0, hW0⟩ : ∃ W0, W.alloc (.cells #[.int .i64 (wd : Int), .int .i64 (ht : Int), .slice (some ⟨g, 0, none⟩) n n] 55) = W0 := ⟨_, rfl⟩
  have G0 : W.grownBy W0 none := by rw [← hW0]; exact World.grownBy_alloc _ _ _
  have b0 : W0.heap[W.heap.size]? = some (.cells #[.int .i64 (wd : Int), .int .i64 (ht : Int), .slice (some ⟨g, 0, none⟩) n n] 55 (0, 0)) := by rw [← hW0]; exact heap_alloc_new W _
  have HW := hide hW0
  have B0 := hide b0
  have HG0 := hide G0
  clear hW0 b0 G0
  go_enter Try.func78, Try.ntmps78
  go_wp2
  rw [unhide HW]
  clear HW
  refine wp_region_noPanic ?_
  refine wp_region_tailL 20 (fun W => W0.drew.grownBy W none) [true, true, true, true, true, false, true, false, false] (by kernel_rfl) (fun _ _ _ _ _ h => h) rfl (by decide) (by kernel_rfl) (World.grownBy.refl _ _) ?_
  have BD : Hid (W0.drew.heap[W.heap.size]? = some (.cells #[.int .i64 (wd : Int), .int .i64 (ht : Int), .slice (some ⟨g, 0, none⟩) n n] 55 (0, 0))) := unhide B0
  have gD : W.grownBy W0.drew none := grown_drew (unhide HG0)
  generalize W0.drew = W1 at *
  clear B0 HG0 W0
  have C2 : Hid (W1.cell? ⟨W.heap.size, 2, none⟩ = some (.slice (some ⟨g, 0, none⟩) n n)) := by unfold Hid; rw [cell_of_row W1 _ 2 _ _ (0, 0) (unhide BD)]; rfl
  refine heldF_take (v := ?_) (Or.inl ⟨by rfl, ?_⟩) ?_
  rotate_left 1
  · intro w' hSw
    go_simp
    try with_reducible rfl
  try simp only [Act.put, List.setIfInBounds_toArray, List.set_cons_zero, List.set_cons_succ]
  refine heldF_take (v := ?_) (Or.inl ⟨by rfl, ?_⟩) ?_
  rotate_left 1
  · intro w' hSw
    have cc := hSw.cell (unhide C2) (by simp)
    go_simp
    try with_reducible rfl
  try simp only [Act.put, List.setIfInBounds_toArray, List.set_cons_zero, List.set_cons_succ]
  refine heldF_take (v := .agg #[.int .i64 (wd : Int), .int .i64 (ht : Int), .slice (some ⟨g, 0, none⟩) n n]) (Or.inl ⟨by rfl, ?_⟩) ?_
  · intro w' hSw
    exact exec_row 55 _ rfl W.heap.size rfl _ _ (grown_atG hSw (unhide BD) (by simp)) _ Try.underlying55 rfl (by kernel_rfl)
  try simp only [Act.put, List.setIfInBounds_toArray, List.set_cons_zero, List.set_cons_succ]
  refine heldF_take (v := ?_) (Or.inl ⟨by rfl, ?_⟩) ?_
  rotate_left 1
  · intro w' hSw
    go_simp
    try with_reducible rfl
  try simp only [Act.put, List.setIfInBounds_toArray, List.set_cons_zero, List.set_cons_succ]
  refine heldF_take (v := ?_) (Or.inl ⟨by rfl, ?_⟩) ?_
  rotate_left 1
  · intro w' hSw
    go_simp
    try with_reducible rfl
  try simp only [Act.put, List.setIfInBounds_toArray, List.set_cons_zero, List.set_cons_succ]
  refine heldF_skip ?_
  refine heldF_take (v := ?_) (Or.inl ⟨by rfl, ?_⟩) ?_
  rotate_left 1
  · intro w' hSw
    go_simp
    try with_reducible rfl
  try simp only [Act.put, List.setIfInBounds_toArray, List.set_cons_zero, List.set_cons_succ]
  refine heldF_skip ?_
  refine heldF_skip ?_
  refine heldF_nil ?_
  refine tailL_skip ?_
  refine tailL_skip ?_
  refine tailL_skip ?_
  refine tailL_skip ?_
  refine tailL_skip ?_
  refine tailL_step (fun K hK => ?_)
  go_simp
  refine (toneIndex wd r c _ _ (by omega) (by omega) (by omega) k HK W1).mono ?_
  rintro e w4 ⟨rfl, g4⟩
  have b4 := (unhide HB).grown (grown_trans gD g4)
  have ck := b4.cell k (by rw [unhide HL]; exact hkl)
  have fk := b4.frozen k
  have B4 := hide b4
  clear b4
  refine hK.out _ _ (.inr g4) ?_
  clear hK K
  try simp only [Act.put, List.setIfInBounds_toArray, List.set_cons_zero, List.set_cons_succ]
  refine tailL_skip ?_
  refine tailL_step (fun K hK => ?_)
  go_simp
  refine hK.out _ _ (.inr g4) ?_
  clear hK K
  try simp only [Act.put, List.setIfInBounds_toArray, List.set_cons_zero, List.set_cons_succ]
  refine tailL_step (fun K hK => ?_)
  go_simp
  refine hK.out _ _ (.inl rfl) ?_
  clear hK K
  refine tailL_nil (NoPanic.normal ?_)
  try simp only [Act.put]
  have b5 := hide ((unhide B4).set k z)
  have g5 := hide (grown_set w4 g k (.int .u16 z))
  generalize w4.setCell ⟨g, k, none⟩ (.int .u16 z) = w5 at *
  go_wp2
  go_end0
  exact ⟨⟨_, rfl⟩, unhide b5, grown_trans (grown_any (grown_trans gD g4)) (unhide g5)⟩

set_option maxRecDepth 20000 in
set_option maxHeartbeats 1600000 in
theorem newToneGrid (wd ht n : Nat) (hw : wd ≤ 1024) (hh : ht ≤ 1024) (HN : Hid (wd * ht = n)) (W : World) :
    Calls Try.prog 85 #[.agg #[.int .i64 (wd : Int), .int .i64 (ht : Int)]] W fun e W' => ∃ g, e = .returned (.agg #[.int .i64 (wd : Int), .int .i64 (ht : Int), .slice (some ⟨g, 0, none⟩) n n]) ∧ Blk .u16 73 W' g (List.replicate n 0) ∧ W.heap.size ≤ g ∧ W.grownBy W' none := by
  have hn1 : n ≤ 1048576 := by rw [← unhide HN]; exact Nat.mul_le_mul hw hh
  have hni : (wd : Int) * (ht : Int) = (n : Int) := by rw [← Int.natCast_mul, unhide HN]
  obtain ⟨i0, hi, hz0, hz1, hz2⟩ := info_parts (show (Try.prog.info? 73).map (fun i => (i.zero, i.size, i.bytes)) = some (some (.int .u16 0), 1, 2) by kernel_rfl)
  have HI := hide hi
  have HZ0 := hide hz0
  have HZ1 := hide hz1
  have HZ2 := hide hz2
  have HNI := hide hni
  clear hi hz0 hz1 hz2 hni
  obtain ⟨W0, hW0⟩ : ∃ W0, (W.alloc (.cells #[.int .i64 (wd : Int), .int .i64 (ht : Int)] 48)).alloc (.cells #[.int .i64 0, .int .i64 0, .slice none 0 0] 55) = W0 := ⟨_, rfl⟩
  have G0 : W.grownBy W0 none := by rw [← hW0]; exact grown_alloc (World.grownBy_alloc _ _ _) _
  have b0 : W0.heap[W.heap.size]? = some (.cells #[.int .i64 (wd : Int), .int .i64 (ht : Int)] 48 (0, 0)) := by rw [← hW0, Below.heap_alloc _ _ _ (by simp)]; exact heap_alloc_new W _
  have b1 : W0.heap[W.heap.size + 1]? = some (.cells #[.int .i64 0, .int .i64 0, .slice none 0 0] 55 (0, 0)) := by
    rw [← hW0]
    have := heap_alloc_new (W.alloc (.cells #[.int .i64 (wd : Int), .int .i64 (ht : Int)] 48)) (.cells #[.int .i64 0, .int .i64 0, .slice none 0 0] 55)
    simpa using this
  have s0 : W0.heap.size = W.heap.size + 2 := by rw [← hW0]; simp
  have HW := hide hW0
  have B0 := hide b0
  have B1 := hide b1
  have HG0 := hide G0
  have HS0 := hide s0
  clear hW0 b0 b1 G0 s0
  go_enter Try.func85, Try.ntmps85
  go_wp2
  rw [unhide HW]
  clear HW
  refine wp_region_noPanic ?_
  refine wp_region_tailL 20 (fun W => W0.drew.grownBy W none) [true, true, false, false, false, false] (by kernel_rfl) (fun _ _ _ _ _ h => h) rfl (by decide) (by kernel_rfl) (World.grownBy.refl _ _) ?_
  have BD : Hid (W0.drew.heap[W.heap.size]? = some (.cells #[.int .i64 (wd : Int), .int .i64 (ht : Int)] 48 (0, 0))) := unhide B0
  have BE : Hid (W0.drew.heap[W.heap.size + 1]? = some (.cells #[.int .i64 0, .int .i64 0, .slice none 0 0] 55 (0, 0))) := unhide B1
  have gD : W.grownBy W0.drew none := grown_drew (unhide HG0)
  have HSD : Hid (W0.drew.heap.size = W.heap.size + 2) := unhide HS0
  generalize W0.drew = W1 at *
  clear B0 B1 HG0 HS0 W0
  refine heldF_take (v := .agg #[.int .i64 (wd : Int), .int .i64 (ht : Int)]) (Or.inl ⟨by rfl, ?_⟩) ?_
  · intro w' hSw
    exact exec_row 48 _ rfl W.heap.size rfl _ _ (grown_atG hSw (unhide BD) (by simp)) _ Try.underlying48 rfl (by kernel_rfl)
  try simp only [Act.put, List.setIfInBounds_toArray, List.set_cons_zero, List.set_cons_succ]
  refine heldF_take (v := .agg #[.int .i64 (wd : Int), .int .i64 (ht : Int)]) (Or.inl ⟨by rfl, ?_⟩) ?_
  · intro w' hSw
    exact exec_row 48 _ rfl W.heap.size rfl _ _ (grown_atG hSw (unhide BD) (by simp)) _ Try.underlying48 rfl (by kernel_rfl)
  try simp only [Act.put, List.setIfInBounds_toArray, List.set_cons_zero, List.set_cons_succ]
  refine heldF_skip ?_
  refine heldF_skip ?_
  refine heldF_skip ?_
  refine heldF_skip ?_
  refine heldF_nil ?_
  refine tailL_skip ?_
  refine tailL_skip ?_
  refine tailL_step (fun K hK => ?_)
  go_simp
  refine (areaCount (wd : Int) (ht : Int) (by omega) (by omega) W1).mono ?_
  rintro e w4 ⟨rfl, g4⟩
  rw [unhide HNI]
  refine hK.out _ _ (.inr g4) ?_
  clear hK K
  try simp only [Act.put, List.setIfInBounds_toArray, List.set_cons_zero, List.set_cons_succ]
  refine tailL_step (fun K hK => ?_)
  rw [if_pos (by rfl)]
  obtain ⟨w5, hrun, r1, r2⟩ := run_make_full (P := Try.prog) w4 W.heap.size 53 73 i0 (.int .u16 0) 1 Try.underlying53 (unhide HI) (unhide HZ0) (unhide HZ1) .i64 .i64 n (by rw [unhide HZ2]; omega) (by unfold maxLen; omega) (by have := g4.size; have := unhide HSD; omega)
  have T5 := hide (Blk.made r1)
  have g5 := grown_trans g4 r2
  have b5 := grown_atG g5 (unhide BE) (by simp)
  clear r1
  unfold Oper.wp
  simp only [execOp, Act.eval, Result.andThen, Sem.run_bind]
  go_simp
  refine hK.out _ _ (.inr g5) ?_
  clear hK K
  try simp only [Act.put, List.setIfInBounds_toArray, List.set_cons_zero, List.set_cons_succ]
  refine tailL_step (fun K hK => ?_)
  go_simp
  refine hK.out _ _ (.inr g5) ?_
  clear hK K
  try simp only [Act.put, List.setIfInBounds_toArray, List.set_cons_zero, List.set_cons_succ]
  refine tailL_step (fun K hK => ?_)
  refine step_store_row (by rfl) 55 _ _ rfl (W.heap.size + 1) rfl #[.int .i64 (wd : Int), .int .i64 (ht : Int), .slice (some ⟨w4.heap.size, 0, none⟩) n n] rfl _ 55 b5 rfl (by kernel_rfl) (by simp [Value.oneCell']) ?_
  intro w6 hB6 g6
  refine hK.out _ _ (.inl rfl) ?_
  clear hK K
  refine tailL_nil (NoPanic.normal ?_)
  try simp only [Act.put]
  have s4 := g4.size
  have sD := unhide HSD
  have t6 := (unhide T5).beside g6 (by simp; omega)
  clear sD
  go_wp2
  refine bodyPost_ret (v := .agg #[.int .i64 (wd : Int), .int .i64 (ht : Int), .slice (some ⟨w4.heap.size, 0, none⟩) n n]) ?_ rfl ⟨w4.heap.size, rfl, t6, by have := unhide HSD; omega, ?_⟩
  · rw [results_c1 rfl]
    exact run_loadVar_row w6 _ 55 55 _ (0, 0) _ hB6 Try.underlying55 rfl (by kernel_rfl)
  · exact grown_new (grown_trans gD g5) g6 (fun g e => by have := unhide HSD; simp at e; omega)

set_option maxRecDepth 20000 in
set_option maxHeartbeats 1600000 in
theorem newTones (wd ht n : Nat) (hw : wd ≤ 1024) (hh : ht ≤ 1024) (HN : Hid (wd * ht = n)) (W : World) :
    Calls Try.prog 62 #[.agg #[.int .i64 (wd : Int), .int .i64 (ht : Int)]] W fun e W' => ∃ g, e = .returned (.agg #[.int .i64 (wd : Int), .int .i64 (ht : Int), .slice (some ⟨g, 0, none⟩) n n]) ∧ Blk .u16 73 W' g (List.replicate n 0) ∧ W.heap.size ≤ g ∧ W.grownBy W' none := by
  obtain ⟨W0, hW0⟩ : ∃ W0, (W.alloc (.cells #[.int .i64 (wd : Int), .int .i64 (ht : Int)] 48)).alloc (.cells #[.int .i64 0, .int .i64 0, .slice none 0 0] 57) = W0 := ⟨_, rfl⟩
  have HG0 : Hid (W.grownBy W0 none) := by rw [← hW0]; exact grown_alloc (World.grownBy_alloc _ _ _) _
  have B1 : Hid (W0.heap[W.heap.size + 1]? = some (.cells #[.int .i64 0, .int .i64 0, .slice none 0 0] 57 (0, 0))) := by
    rw [← hW0]
    have := heap_alloc_new (W.alloc (.cells #[.int .i64 (wd : Int), .int .i64 (ht : Int)] 48)) (.cells #[.int .i64 0, .int .i64 0, .slice none 0 0] 57)
    unfold Hid
    simpa using this
  have HS0 : Hid (W0.heap.size = W.heap.size + 2) := by rw [← hW0]; simp [Hid]
  have HW := hide hW0
  clear hW0
  go_enter Try.func62, Try.ntmps62
  go_wp2_with fail
  rw [unhide HW]
  refine (newToneGrid wd ht n hw hh HN W0).mono ?_
  rintro e w1 ⟨g, rfl, hb, hge, g1⟩
  have HB := hide hb
  have HBX := hide (grown_atG g1 (unhide B1) (by simp))
  have G1 := hide g1
  clear hb g1 HW B1
  go_wp2_with ((refine store_row rfl 57 _ _ rfl (W.heap.size + 1) rfl #[.int .i64 (wd : Int), .int .i64 (ht : Int), .slice (some ⟨g, 0, none⟩) n n] rfl _ 57 (unhide HBX) rfl (by kernel_rfl) (by simp [Value.oneCell']) ?_; intro w2 hB2 g2))
  refine bodyPost_ret (v := .agg #[.int .i64 (wd : Int), .int .i64 (ht : Int), .slice (some ⟨g, 0, none⟩) n n]) ?_ rfl ⟨g, rfl, (unhide HB).beside g2 (by have := unhide HS0; simp; omega), by have := unhide HS0; omega, ?_⟩
  · rw [results_c1 rfl]
    exact run_loadVar_row w2 _ 57 57 _ (0, 0) _ hB2 Try.underlying57 rfl (by kernel_rfl)
  · exact grown_new (grown_trans (unhide HG0) (unhide G1)) g2 (fun g e => by simp at e; omega)

end Go.Proofs.Ytkefpjbdkhifhaa

namespace Go.Proofs.Ytkefpjbdkhifhaa
open Go.RowKit

theorem u16_in (z : Int) (h : 0 ≤ z ∧ z ≤ 65535) : IntKind.u16.wrap z = z := by
  rw [IntKind.wrap_u16]; omega

/-- Numbers in a block of samples, all of them where they are such. -/
def PutTo (t : TypeId) (g n : Nat) (zs : List Int) (b : Bool) (w : World) : Prop := ∃ L', L'.length = n ∧ Blk .u16 t w g L' ∧ (b = true → L' = zs)

set_option maxRecDepth 20000 in
set_option maxHeartbeats 1600000 in
theorem putTones (t : TypeId) (g n cap : Nat) (ao : Option Addr) (zs : List Int) (W : World) (hr : Rd .i64 W ao n zs) (hB : Blk .u16 t W g (List.replicate n 0)) (hne : 0 < n → ∀ b off, ao = some ⟨b, off, none⟩ → b ≠ g) (hn : n ≤ 1048576) (b : Bool) (HB : Hid ((zs.all fun x => decide (0 ≤ x ∧ x ≤ 4095)) = b)) :
    Calls Try.prog 81 #[.slice (some ⟨g, 0, none⟩) n n, .slice ao n cap] W fun e W' => e = .returned (.bool b) ∧ PutTo t g n zs b W' ∧ W.grownBy W' (some g) := by
  have HR := hide hr
  have HZ := hide hr.1
  have HNE := hide hne
  have HB0 : Hid (Blk .u16 t W g (laidTo zs 0)) := by rw [laidTo_zero, unhide HZ]; exact hB
  clear hr hB hne
  go_enter Try.func81, Try.ntmps81
  go_wp2
  go_loopw [9] (fun i wr => ∃ k : Nat, k ≤ n ∧ i = .int .i64 k ∧ Hid (tonesTo zs k) ∧ Hid (Blk .u16 t wr g (laidTo zs k)) ∧ Hid (W.grownBy wr (some g))) (fun i _ => n - (intOf i).toNat)
  case atStart => exact ⟨0, by omega, by go_num, fun j hj => absurd hj (by omega), HB0, World.grownBy.refl _ _⟩
  case round =>
    obtain ⟨k, hk, rfl, HK, HBK, HG⟩ := hrel
    by_cases hlt : k < n
    · have hkI : (k : Int) < (n : Int) := by omega
      obtain ⟨bb, off, rfl, hc⟩ := ((unhide HR).beside (unhide HG) (unhide HNE)).2 k hlt
      obtain ⟨z, HX⟩ : ∃ z, Hid (zs.getD k 0 = z) := ⟨_, rfl⟩
      obtain ⟨y, HT⟩ : ∃ y, Hid (decide (0 ≤ z ∧ z ≤ 4095) = y) := ⟨_, rfl⟩
      rw [unhide HX] at hc
      have e9 := i64_in ((k : Int) + 1) (by omega)
      go_wp2_with fail
      refine (inRange z 0 4095 y HT wr).mono ?_
      rintro e wr ⟨rfl, rfl⟩
      cases y with
      | true =>
        have hz := of_decide_eq_true (unhide HT)
        have HK' : Hid (tonesTo zs (k + 1)) := fun j hj => by
          by_cases e : j = k
          · subst e; rw [unhide HX]; exact hz
          · exact unhide HK j (by omega)
        have ez := u16_in z (by omega)
        have hlen : (laidTo zs k).length = n := by rw [laidTo_len zs k (by rw [unhide HZ]; exact hk), unhide HZ]
        have ck := (unhide HBK).cell k (by rw [hlen]; exact hlt)
        have fk := (unhide HBK).frozen k
        have HB' : Hid (Blk .u16 t (wr.setCell ⟨g, k, none⟩ (.int .u16 z)) g (laidTo zs (k + 1))) := by
          unfold Hid
          rw [← laidTo_set zs k (by rw [unhide HZ]; exact hlt) z (unhide HX)]
          exact (unhide HBK).set k z
        have HG' := hide (grown_trans (unhide HG) (grown_set wr g k (.int .u16 z)))
        clear hlen hz
        go_wp2
        go_roundw
        case rel => exact ⟨k + 1, by omega, by go_num, HK', HB', HG'⟩
        case measure => simp [intOf]; omega
      | false =>
        obtain rfl : b = false := by
          rw [← unhide HB, tones_no (k := k) (by rw [unhide HZ]; exact hlt) (by rw [unhide HX]; exact unhide HT)]
        go_wp2
        go_ret
        exact ⟨rfl, ⟨_, by rw [laidTo_len zs k (by rw [unhide HZ]; exact hk), unhide HZ], unhide HBK, fun e => by cases e⟩, unhide HG⟩
    · obtain rfl : k = n := by omega
      obtain rfl : b = true := by
        rw [← unhide HB, tones_all (by rw [unhide HZ]; exact unhide HK)]
      have hA : laidTo zs k = zs := by rw [← unhide HZ]; exact laidTo_all zs
      rw [hA] at HBK
      go_wp2
      go_ret
      exact ⟨rfl, ⟨zs, unhide HZ, unhide HBK, fun _ => rfl⟩, unhide HG⟩

set_option maxRecDepth 20000 in
set_option maxHeartbeats 1600000 in
theorem toneList (t : TypeId) (g n : Nat) (L : List Int) (W : World) (hB : Blk .u16 t W g L) (hL : L.length = n) (hn : n ≤ 131072) (h0 : ∀ x ∈ L, 0 ≤ x ∧ x ≤ 4095) :
    Calls Try.prog 60 #[.slice (some ⟨g, 0, none⟩) n n] W fun e W' => ∃ so sc, e = .returned (.slice so n sc) ∧ W'.ownsRow W.heap.size 3 1 (.slice so n sc) n (L.map (Value.int .i64)) ∧ W.grownBy W' none := by
  have HB := hide hB
  have HL := hide hL
  have H0 := hide h0
  clear hB hL h0
  obtain ⟨i0, hi, hz0, hz1, hz2⟩ := info_parts info_iS
  have HI := hide hi
  have HZ0 := hide hz0
  have HZ1 := hide hz1
  have HZ2 := hide hz2
  clear hi hz0 hz1 hz2
  go_enter Try.func60, Try.ntmps60
  go_wp2_with (at_make; refine wpList_make_own _ rfl _ _ 24 rfl W.heap.size 3 i0 (.int .i64 0) 1 Try.underlying24 (unhide HI) (unhide HZ0) (unhide HZ1) .i64 .i64 _ n rfl rfl rfl (by rw [unhide HZ2]; omega) (by unfold maxLen; omega) (Nat.le_refl _) ?_)
  intro w2 hown g2
  have HO2 : Hid (w2.ownsRow W.heap.size 3 1 (.slice (some ⟨W.heap.size, 0, none⟩) 0 n) 0 ((L.take 0).map (Value.int .i64))) := hown
  have HG2 := hide g2
  clear hown g2
  go_wp2
  go_loopw [3, 11] (fun v kv wr => ∃ (k : Nat) (vo : Option Addr) (vc : Nat), k ≤ n ∧ v = .slice vo k vc ∧ kv = .int .i64 k ∧ Hid (wr.ownsRow W.heap.size 3 1 (.slice vo k vc) k ((L.take k).map (Value.int .i64))) ∧ Hid (W.grownBy wr none)) (fun _ kv _ => n - (intOf kv).toNat)
  case atStart => exact ⟨0, _, n, Nat.zero_le _, rfl, rfl, HO2, HG2⟩
  case round =>
    clear HO2 HG2
    obtain ⟨k, vo, vc, hk, rfl, rfl, HO, HG⟩ := hrel
    by_cases hlt : k < n
    · have hkI : (k : Int) < (n : Int) := by omega
      obtain ⟨z, HX⟩ : ∃ z, Hid (L.getD k 0 = z) := ⟨_, rfl⟩
      have ck := ((unhide HB).grown (unhide HG)).cell k (by rw [unhide HL]; exact hlt)
      rw [unhide HX] at ck
      have hz : 0 ≤ z ∧ z ≤ 4095 := by
        have e : L.getD k 0 = L[k]'(by rw [unhide HL]; exact hlt) := by simp [unhide HL, hlt]
        rw [← unhide HX, e]
        exact unhide H0 _ (List.getElem_mem _)
      have ez := i64_in z (by omega)
      have e9 := i64_in ((k : Int) + 1) (by omega)
      have HNX : Hid (L.take k ++ [z] = L.take (k + 1)) := by
        unfold Hid
        rw [List.take_succ_eq_append_getElem (by rw [unhide HL]; exact hlt), ← unhide HX]
        simp [unhide HL, hlt]
      have hkb : k + 1 ≤ 1000000 := by omega
      go_wp2_with ((at_builtin; refine append_i16 rfl _ _ rfl W _ k (L.take k) rfl (unhide HO) z rfl hkb (unhide HG) ?_; intro v' w' ho hg))
      rw [unhide HNX] at ho
      obtain ⟨so, sc, rfl⟩ := own_form ho
      have HO' := hide ho
      have HG' := hide hg
      clear ho hg
      go_wp2
      go_roundw
      case rel => exact ⟨k + 1, so, sc, by omega, rfl, by go_num, HO', HG'⟩
      case measure => simp [intOf]; omega
    · obtain rfl : k = n := by omega
      have e : L.take k = L := by rw [← unhide HL]; exact List.take_length
      rw [e] at HO
      go_wp2
      go_ret
      exact ⟨_, _, rfl, unhide HO, unhide HG⟩

end Go.Proofs.Ytkefpjbdkhifhaa

namespace Go.Proofs.Ytkefpjbdkhifhaa
open Go.RowKit

theorem tdiv8_in (w : Int) (h : -9223372036854775808 ≤ w ∧ w ≤ 9223372036854775807) : IntKind.i64.wrap (w.tdiv 8) = w.tdiv 8 := by
  apply i64_in
  by_cases h0 : 0 ≤ w
  · rw [Int.tdiv_eq_ediv_of_nonneg h0]
    omega
  · obtain ⟨u, rfl⟩ : ∃ u, w = -u := ⟨-w, by omega⟩
    rw [Int.neg_tdiv, Int.tdiv_eq_ediv_of_nonneg (by omega)]
    omega
theorem tmod8_in (w : Int) : IntKind.i64.wrap (w.tmod 8) = w.tmod 8 := by
  apply i64_in
  have h1 := Int.tmod_lt_of_pos w (show (0 : Int) < 8 by decide)
  have h2 := Int.lt_tmod_of_pos w (show (0 : Int) < 8 by decide)
  omega

set_option maxRecDepth 20000 in
set_option maxHeartbeats 1600000 in
theorem tiled (w h : Int) (t : Bool) (HT : Hid ((decide (w.tmod 8 = 0) && decide (h.tmod 8 = 0)) = t)) (W : World) :
    Calls Try.prog 56 #[.agg #[.int .i64 w, .int .i64 h]] W fun e W' => e = .returned (.tuple #[.agg #[.int .i64 (IntKind.i64.wrap (w.tdiv 8)), .int .i64 (IntKind.i64.wrap (h.tdiv 8))], .bool t]) ∧ W.grownBy W' none := by
  obtain ⟨a, ha⟩ : ∃ a, IntKind.i64.wrap (w.tdiv 8) = a := ⟨_, rfl⟩
  obtain ⟨b, hb⟩ : ∃ b, IntKind.i64.wrap (h.tdiv 8) = b := ⟨_, rfl⟩
  have m1 := tmod8_in w
  have m2 := tmod8_in h
  obtain ⟨p, hp⟩ : ∃ p, w.tmod 8 = p := ⟨_, rfl⟩
  obtain ⟨q, hq⟩ : ∃ q, h.tmod 8 = q := ⟨_, rfl⟩
  rw [hp, hq] at HT
  rw [ha, hb]
  rw [hp] at m1
  rw [hq] at m2
  obtain ⟨t1, h1⟩ : ∃ y, (p == 0) = y := ⟨_, rfl⟩
  obtain ⟨t2, h2⟩ : ∃ y, (q == 0) = y := ⟨_, rfl⟩
  have HTT : Hid ((t1 && t2) = t) := by unfold Hid; rw [← unhide HT, ← h1, ← h2]; congr 1 <;> simp [decide_beq_eq]
  obtain ⟨W3, hW3⟩ : ∃ W3, ((W.alloc (.cells #[.int .i64 w, .int .i64 h] 48)).alloc (.cells #[.int .i64 0, .int .i64 0] 48)).alloc (.cells #[.int .i64 a, .int .i64 b] 48) = W3 := ⟨_, rfl⟩
  have HG3 : Hid (W.grownBy W3 none) := by rw [← hW3]; exact grown_alloc (grown_alloc (World.grownBy_alloc _ _ _) _) _
  have b0 : Hid (W3.heap[W.heap.size]? = some (.cells #[.int .i64 w, .int .i64 h] 48 (0, 0))) := by rw [← hW3, Below.heap_alloc _ _ _ (by simp <;> omega), Below.heap_alloc _ _ _ (by simp)]; exact heap_alloc_new W _
  have b1 : Hid (W3.heap[W.heap.size + 1]? = some (.cells #[.int .i64 0, .int .i64 0] 48 (0, 0))) := by
    rw [← hW3, Below.heap_alloc _ _ _ (by simp)]
    have := heap_alloc_new (W.alloc (.cells #[.int .i64 w, .int .i64 h] 48)) (.cells #[.int .i64 0, .int .i64 0] 48)
    unfold Hid
    simpa using this
  have b2 : Hid (W3.heap[W.heap.size + 1 + 1]? = some (.cells #[.int .i64 a, .int .i64 b] 48 (0, 0))) := by
    rw [← hW3]
    have := heap_alloc_new ((W.alloc (.cells #[.int .i64 w, .int .i64 h] 48)).alloc (.cells #[.int .i64 0, .int .i64 0] 48)) (.cells #[.int .i64 a, .int .i64 b] 48)
    unfold Hid
    simpa using this
  have HW := hide hW3
  clear hW3 HT
  go_enter Try.func56, Try.ntmps56
  go_wp2
  rw [unhide HW]
  clear HW
  cases t1 with
  | false =>
    obtain rfl : t = false := by rw [← unhide HTT]; rfl
    generalize hs0 : W.heap.size = s0 at *
    refine wp_region_noPanic ?_
    refine wp_region_tail (fun W => W.heap[s0]? = some (.cells #[.int .i64 w, .int .i64 h] 48 (0, 0)) ∧ W.heap[s0 + 1 + 1]? = some (.cells #[.int .i64 a, .int .i64 b] 48 (0, 0))) [true, true, true, true, true, true, true, true, true, true, true, false, false] (by kernel_rfl) (fun _ _ _ _ _ h => h) rfl (by kernel_rfl) ⟨unhide b0, unhide b2⟩ ?_
    refine heldF_take (v := .agg #[.int .i64 a, .int .i64 b]) (Or.inl ⟨by rfl, ?_⟩) ?_
    · intro w' hSw
      exact exec_row 48 _ rfl (s0 + 1 + 1) rfl _ _ hSw.2 _ Try.underlying48 rfl (by kernel_rfl)
    try simp only [Act.put, List.setIfInBounds_toArray, List.set_cons_zero, List.set_cons_succ]
    refine heldF_take (v := ?_) (Or.inl ⟨by rfl, ?_⟩) ?_
    rotate_left 1
    · intro w' hSw
      have k0 : w'.cell? ⟨s0, 0, none⟩ = some (.int .i64 w) := by rw [cell_of_row w' _ 0 _ _ (0, 0) hSw.1]; rfl
      have k1 : w'.cell? ⟨s0, 1, none⟩ = some (.int .i64 h) := by rw [cell_of_row w' _ 1 _ _ (0, 0) hSw.1]; rfl
      go_simp
      try with_reducible rfl
    try simp only [Act.put, List.setIfInBounds_toArray, List.set_cons_zero, List.set_cons_succ]
    refine heldF_take (v := ?_) (Or.inl ⟨by rfl, ?_⟩) ?_
    rotate_left 1
    · intro w' hSw
      have k0 : w'.cell? ⟨s0, 0, none⟩ = some (.int .i64 w) := by rw [cell_of_row w' _ 0 _ _ (0, 0) hSw.1]; rfl
      have k1 : w'.cell? ⟨s0, 1, none⟩ = some (.int .i64 h) := by rw [cell_of_row w' _ 1 _ _ (0, 0) hSw.1]; rfl
      go_simp
      try with_reducible rfl
    try simp only [Act.put, List.setIfInBounds_toArray, List.set_cons_zero, List.set_cons_succ]
    refine heldF_take (v := ?_) (Or.inl ⟨by rfl, ?_⟩) ?_
    rotate_left 1
    · intro w' hSw
      have k0 : w'.cell? ⟨s0, 0, none⟩ = some (.int .i64 w) := by rw [cell_of_row w' _ 0 _ _ (0, 0) hSw.1]; rfl
      have k1 : w'.cell? ⟨s0, 1, none⟩ = some (.int .i64 h) := by rw [cell_of_row w' _ 1 _ _ (0, 0) hSw.1]; rfl
      go_simp
      try with_reducible rfl
    try simp only [Act.put, List.setIfInBounds_toArray, List.set_cons_zero, List.set_cons_succ]
    refine heldF_take (v := ?_) (Or.inl ⟨by rfl, ?_⟩) ?_
    rotate_left 1
    · intro w' hSw
      have k0 : w'.cell? ⟨s0, 0, none⟩ = some (.int .i64 w) := by rw [cell_of_row w' _ 0 _ _ (0, 0) hSw.1]; rfl
      have k1 : w'.cell? ⟨s0, 1, none⟩ = some (.int .i64 h) := by rw [cell_of_row w' _ 1 _ _ (0, 0) hSw.1]; rfl
      go_simp
      try with_reducible rfl
    try simp only [Act.put, List.setIfInBounds_toArray, List.set_cons_zero, List.set_cons_succ]
    refine heldF_take (v := ?_) (Or.inl ⟨by rfl, ?_⟩) ?_
    rotate_left 1
    · intro w' hSw
      have k0 : w'.cell? ⟨s0, 0, none⟩ = some (.int .i64 w) := by rw [cell_of_row w' _ 0 _ _ (0, 0) hSw.1]; rfl
      have k1 : w'.cell? ⟨s0, 1, none⟩ = some (.int .i64 h) := by rw [cell_of_row w' _ 1 _ _ (0, 0) hSw.1]; rfl
      go_simp
      try with_reducible rfl
    try simp only [Act.put, List.setIfInBounds_toArray, List.set_cons_zero, List.set_cons_succ]
    refine heldF_take (v := undef) (Or.inr ⟨by rfl, rfl⟩) ?_
    try simp only [Act.put, List.setIfInBounds_toArray, List.set_cons_zero, List.set_cons_succ]
    refine heldF_take (v := undef) (Or.inr ⟨by rfl, rfl⟩) ?_
    try simp only [Act.put, List.setIfInBounds_toArray, List.set_cons_zero, List.set_cons_succ]
    refine heldF_take (v := undef) (Or.inr ⟨by rfl, rfl⟩) ?_
    try simp only [Act.put, List.setIfInBounds_toArray, List.set_cons_zero, List.set_cons_succ]
    refine heldF_take (v := undef) (Or.inr ⟨by rfl, rfl⟩) ?_
    try simp only [Act.put, List.setIfInBounds_toArray, List.set_cons_zero, List.set_cons_succ]
    refine heldF_take (v := ?_) (Or.inl ⟨by rfl, ?_⟩) ?_
    rotate_left 1
    · intro w' hSw
      have k0 : w'.cell? ⟨s0, 0, none⟩ = some (.int .i64 w) := by rw [cell_of_row w' _ 0 _ _ (0, 0) hSw.1]; rfl
      have k1 : w'.cell? ⟨s0, 1, none⟩ = some (.int .i64 h) := by rw [cell_of_row w' _ 1 _ _ (0, 0) hSw.1]; rfl
      go_simp
      try with_reducible rfl
    try simp only [Act.put, List.setIfInBounds_toArray, List.set_cons_zero, List.set_cons_succ]
    refine heldF_skip ?_
    refine heldF_skip ?_
    refine heldF_nil ?_
    refine tailF_skip ?_
    refine tailF_skip ?_
    refine tailF_skip ?_
    refine tailF_skip ?_
    refine tailF_skip ?_
    refine tailF_skip ?_
    refine tailF_skip ?_
    refine tailF_skip ?_
    refine tailF_skip ?_
    refine tailF_skip ?_
    refine tailF_skip ?_
    refine tailF_step (fun K hK => ?_)
    refine step_store_row (by rfl) 48 _ _ rfl (s0 + 1) rfl #[.int .i64 a, .int .i64 b] rfl _ 48 (show W3.drew.heap[s0 + 1]? = _ from unhide b1) rfl (by kernel_rfl) (by simp [Value.oneCell']) ?_
    intro w5 hB5 g5
    have S5 : w5.heap[s0]? = some (.cells #[.int .i64 w, .int .i64 h] 48 (0, 0)) ∧ w5.heap[s0 + 1 + 1]? = some (.cells #[.int .i64 a, .int .i64 b] 48 (0, 0)) := ⟨grown_atG g5 (unhide b0) (by simp), grown_atG g5 (unhide b2) (by simp)⟩
    refine hK.out _ _ S5 ?_
    clear hK K
    try simp only [Act.put]
    refine tailF_step (fun K hK => ?_)
    go_simp
    refine hK.out _ _ S5 ?_
    clear hK K
    try simp only [Act.put, List.setIfInBounds_toArray, List.set_cons_zero, List.set_cons_succ]
    refine tailF_nil (NoPanic.normal ?_)
    try simp only [Act.put]
    go_wp2
    refine bodyPost_ret (v := .tuple #[.agg #[.int .i64 a, .int .i64 b], .bool false]) ?_ rfl ⟨rfl, ?_⟩
    · exact results_c2 (p := 2) (q := 3) (ty := 48) rfl _ _ _ (s0 + 1) rfl _ (run_loadVar_row w5 _ 48 48 _ (0, 0) _ hB5 Try.underlying48 rfl (by kernel_rfl))
    exact grown_new (grown_drew (unhide HG3)) g5 (fun g e => by simp at e; omega)
  | true =>
    obtain rfl : t = t2 := by rw [← unhide HTT]; rfl
    generalize hs0 : W.heap.size = s0 at *
    refine wp_region_noPanic ?_
    refine wp_region_tail (fun W => W.heap[s0]? = some (.cells #[.int .i64 w, .int .i64 h] 48 (0, 0)) ∧ W.heap[s0 + 1 + 1]? = some (.cells #[.int .i64 a, .int .i64 b] 48 (0, 0))) [true, true, true, true, true, true, true, true, true, true, true, false, false] (by kernel_rfl) (fun _ _ _ _ _ h => h) rfl (by kernel_rfl) ⟨unhide b0, unhide b2⟩ ?_
    refine heldF_take (v := .agg #[.int .i64 a, .int .i64 b]) (Or.inl ⟨by rfl, ?_⟩) ?_
    · intro w' hSw
      exact exec_row 48 _ rfl (s0 + 1 + 1) rfl _ _ hSw.2 _ Try.underlying48 rfl (by kernel_rfl)
    try simp only [Act.put, List.setIfInBounds_toArray, List.set_cons_zero, List.set_cons_succ]
    refine heldF_take (v := ?_) (Or.inl ⟨by rfl, ?_⟩) ?_
    rotate_left 1
    · intro w' hSw
      have k0 : w'.cell? ⟨s0, 0, none⟩ = some (.int .i64 w) := by rw [cell_of_row w' _ 0 _ _ (0, 0) hSw.1]; rfl
      have k1 : w'.cell? ⟨s0, 1, none⟩ = some (.int .i64 h) := by rw [cell_of_row w' _ 1 _ _ (0, 0) hSw.1]; rfl
      go_simp
      try with_reducible rfl
    try simp only [Act.put, List.setIfInBounds_toArray, List.set_cons_zero, List.set_cons_succ]
    refine heldF_take (v := ?_) (Or.inl ⟨by rfl, ?_⟩) ?_
    rotate_left 1
    · intro w' hSw
      have k0 : w'.cell? ⟨s0, 0, none⟩ = some (.int .i64 w) := by rw [cell_of_row w' _ 0 _ _ (0, 0) hSw.1]; rfl
      have k1 : w'.cell? ⟨s0, 1, none⟩ = some (.int .i64 h) := by rw [cell_of_row w' _ 1 _ _ (0, 0) hSw.1]; rfl
      go_simp
      try with_reducible rfl
    try simp only [Act.put, List.setIfInBounds_toArray, List.set_cons_zero, List.set_cons_succ]
    refine heldF_take (v := ?_) (Or.inl ⟨by rfl, ?_⟩) ?_
    rotate_left 1
    · intro w' hSw
      have k0 : w'.cell? ⟨s0, 0, none⟩ = some (.int .i64 w) := by rw [cell_of_row w' _ 0 _ _ (0, 0) hSw.1]; rfl
      have k1 : w'.cell? ⟨s0, 1, none⟩ = some (.int .i64 h) := by rw [cell_of_row w' _ 1 _ _ (0, 0) hSw.1]; rfl
      go_simp
      try with_reducible rfl
    try simp only [Act.put, List.setIfInBounds_toArray, List.set_cons_zero, List.set_cons_succ]
    refine heldF_take (v := ?_) (Or.inl ⟨by rfl, ?_⟩) ?_
    rotate_left 1
    · intro w' hSw
      have k0 : w'.cell? ⟨s0, 0, none⟩ = some (.int .i64 w) := by rw [cell_of_row w' _ 0 _ _ (0, 0) hSw.1]; rfl
      have k1 : w'.cell? ⟨s0, 1, none⟩ = some (.int .i64 h) := by rw [cell_of_row w' _ 1 _ _ (0, 0) hSw.1]; rfl
      go_simp
      try with_reducible rfl
    try simp only [Act.put, List.setIfInBounds_toArray, List.set_cons_zero, List.set_cons_succ]
    refine heldF_take (v := ?_) (Or.inl ⟨by rfl, ?_⟩) ?_
    rotate_left 1
    · intro w' hSw
      have k0 : w'.cell? ⟨s0, 0, none⟩ = some (.int .i64 w) := by rw [cell_of_row w' _ 0 _ _ (0, 0) hSw.1]; rfl
      have k1 : w'.cell? ⟨s0, 1, none⟩ = some (.int .i64 h) := by rw [cell_of_row w' _ 1 _ _ (0, 0) hSw.1]; rfl
      go_simp
      try with_reducible rfl
    try simp only [Act.put, List.setIfInBounds_toArray, List.set_cons_zero, List.set_cons_succ]
    refine heldF_take (v := ?_) (Or.inl ⟨by rfl, ?_⟩) ?_
    rotate_left 1
    · intro w' hSw
      have k0 : w'.cell? ⟨s0, 0, none⟩ = some (.int .i64 w) := by rw [cell_of_row w' _ 0 _ _ (0, 0) hSw.1]; rfl
      have k1 : w'.cell? ⟨s0, 1, none⟩ = some (.int .i64 h) := by rw [cell_of_row w' _ 1 _ _ (0, 0) hSw.1]; rfl
      go_simp
      try with_reducible rfl
    try simp only [Act.put, List.setIfInBounds_toArray, List.set_cons_zero, List.set_cons_succ]
    refine heldF_take (v := ?_) (Or.inl ⟨by rfl, ?_⟩) ?_
    rotate_left 1
    · intro w' hSw
      have k0 : w'.cell? ⟨s0, 0, none⟩ = some (.int .i64 w) := by rw [cell_of_row w' _ 0 _ _ (0, 0) hSw.1]; rfl
      have k1 : w'.cell? ⟨s0, 1, none⟩ = some (.int .i64 h) := by rw [cell_of_row w' _ 1 _ _ (0, 0) hSw.1]; rfl
      go_simp
      try with_reducible rfl
    try simp only [Act.put, List.setIfInBounds_toArray, List.set_cons_zero, List.set_cons_succ]
    refine heldF_take (v := ?_) (Or.inl ⟨by rfl, ?_⟩) ?_
    rotate_left 1
    · intro w' hSw
      have k0 : w'.cell? ⟨s0, 0, none⟩ = some (.int .i64 w) := by rw [cell_of_row w' _ 0 _ _ (0, 0) hSw.1]; rfl
      have k1 : w'.cell? ⟨s0, 1, none⟩ = some (.int .i64 h) := by rw [cell_of_row w' _ 1 _ _ (0, 0) hSw.1]; rfl
      go_simp
      try with_reducible rfl
    try simp only [Act.put, List.setIfInBounds_toArray, List.set_cons_zero, List.set_cons_succ]
    refine heldF_take (v := ?_) (Or.inl ⟨by rfl, ?_⟩) ?_
    rotate_left 1
    · intro w' hSw
      have k0 : w'.cell? ⟨s0, 0, none⟩ = some (.int .i64 w) := by rw [cell_of_row w' _ 0 _ _ (0, 0) hSw.1]; rfl
      have k1 : w'.cell? ⟨s0, 1, none⟩ = some (.int .i64 h) := by rw [cell_of_row w' _ 1 _ _ (0, 0) hSw.1]; rfl
      go_simp
      try with_reducible rfl
    try simp only [Act.put, List.setIfInBounds_toArray, List.set_cons_zero, List.set_cons_succ]
    refine heldF_take (v := ?_) (Or.inl ⟨by rfl, ?_⟩) ?_
    rotate_left 1
    · intro w' hSw
      have k0 : w'.cell? ⟨s0, 0, none⟩ = some (.int .i64 w) := by rw [cell_of_row w' _ 0 _ _ (0, 0) hSw.1]; rfl
      have k1 : w'.cell? ⟨s0, 1, none⟩ = some (.int .i64 h) := by rw [cell_of_row w' _ 1 _ _ (0, 0) hSw.1]; rfl
      go_simp
      try with_reducible rfl
    try simp only [Act.put, List.setIfInBounds_toArray, List.set_cons_zero, List.set_cons_succ]
    refine heldF_skip ?_
    refine heldF_skip ?_
    refine heldF_nil ?_
    refine tailF_skip ?_
    refine tailF_skip ?_
    refine tailF_skip ?_
    refine tailF_skip ?_
    refine tailF_skip ?_
    refine tailF_skip ?_
    refine tailF_skip ?_
    refine tailF_skip ?_
    refine tailF_skip ?_
    refine tailF_skip ?_
    refine tailF_skip ?_
    refine tailF_step (fun K hK => ?_)
    refine step_store_row (by rfl) 48 _ _ rfl (s0 + 1) rfl #[.int .i64 a, .int .i64 b] rfl _ 48 (show W3.drew.heap[s0 + 1]? = _ from unhide b1) rfl (by kernel_rfl) (by simp [Value.oneCell']) ?_
    intro w5 hB5 g5
    have S5 : w5.heap[s0]? = some (.cells #[.int .i64 w, .int .i64 h] 48 (0, 0)) ∧ w5.heap[s0 + 1 + 1]? = some (.cells #[.int .i64 a, .int .i64 b] 48 (0, 0)) := ⟨grown_atG g5 (unhide b0) (by simp), grown_atG g5 (unhide b2) (by simp)⟩
    refine hK.out _ _ S5 ?_
    clear hK K
    try simp only [Act.put]
    refine tailF_step (fun K hK => ?_)
    go_simp
    refine hK.out _ _ S5 ?_
    clear hK K
    try simp only [Act.put, List.setIfInBounds_toArray, List.set_cons_zero, List.set_cons_succ]
    refine tailF_nil (NoPanic.normal ?_)
    try simp only [Act.put]
    go_wp2
    refine bodyPost_ret (v := .tuple #[.agg #[.int .i64 a, .int .i64 b], .bool t]) ?_ rfl ⟨rfl, ?_⟩
    · exact results_c2 (p := 2) (q := 3) (ty := 48) rfl _ _ _ (s0 + 1) rfl _ (run_loadVar_row w5 _ 48 48 _ (0, 0) _ hB5 Try.underlying48 rfl (by kernel_rfl))
    exact grown_new (grown_drew (unhide HG3)) g5 (fun g e => by simp at e; omega)

/-- What fixTones answers: a plane with its samples, or none that counts. -/
def Fixed (W W' : World) (zs : List Int) (w h : Int) (b : Bool) (v : Value) : Prop :=
  (b = true ∧ ∃ (wd ht g n : Nat), w = (wd : Int) ∧ h = (ht : Int) ∧ wd * ht = n ∧ v = .agg #[.int .i64 (wd : Int), .int .i64 (ht : Int), .slice (some ⟨g, 0, none⟩) n n] ∧ Blk .u16 73 W' g zs ∧ W.heap.size ≤ g) ∨
  (b = false ∧ ∃ (a c : Int) (so : Option Addr) (sn sc : Nat), v = .agg #[.int .i64 a, .int .i64 c, .slice so sn sc] ∧ (0 ≤ a ∧ a ≤ 1024) ∧ (0 ≤ c ∧ c ≤ 1024))

set_option maxRecDepth 20000 in
set_option maxHeartbeats 1600000 in
theorem fixTones (ao : Option Addr) (m cap : Nat) (zs : List Int) (w h : Int) (W : World) (hr : Rd .i64 W ao m zs) (hm : m ≤ 9223372036854775807) (b : Bool) (HB : Hid (planeB zs w h = b)) :
    Calls Try.prog 55 #[.slice ao m cap, .agg #[.int .i64 w, .int .i64 h]] W fun e W' => (∃ v, e = .returned (.tuple #[v, .bool b]) ∧ Fixed W W' zs w h b v) ∧ W.grownBy W' none := by
  have HR := hide hr
  have HZ := hide hr.1
  obtain ⟨s, HS⟩ : ∃ y, Hid (sidesB w h = y) := ⟨_, rfl⟩
  clear hr
  obtain ⟨W0, hW0⟩ : ∃ W0, (W.alloc (.cells #[.int .i64 w, .int .i64 h] 48)).alloc (.cells #[.int .i64 0, .int .i64 0, .slice none 0 0] 57) = W0 := ⟨_, rfl⟩
  have HG0 : Hid (W.grownBy W0 none) := by rw [← hW0]; exact grown_alloc (World.grownBy_alloc _ _ _) _
  have b0 : Hid (W0.heap[W.heap.size]? = some (.cells #[.int .i64 w, .int .i64 h] 48 (0, 0))) := by rw [← hW0, Below.heap_alloc _ _ _ (by simp)]; exact heap_alloc_new W _
  have b1 : Hid (W0.heap[W.heap.size + 1]? = some (.cells #[.int .i64 0, .int .i64 0, .slice none 0 0] 57 (0, 0))) := by
    rw [← hW0]
    have := heap_alloc_new (W.alloc (.cells #[.int .i64 w, .int .i64 h] 48)) (.cells #[.int .i64 0, .int .i64 0, .slice none 0 0] 57)
    unfold Hid
    simpa using this
  have HS0 : Hid (W0.heap.size = W.heap.size + 2) := by rw [← hW0]; simp [Hid]
  have HW := hide hW0
  clear hW0
  have FAILS : Hid (∀ (w1 : World), W0.grownBy w1 none → w1.heap[W.heap.size + 1]? = some (.cells #[.int .i64 0, .int .i64 0, .slice none 0 0] 57 (0, 0))) := fun w1 g1 => grown_atG g1 (unhide b1) (by simp)
  go_enter Try.func55, Try.ntmps55
  go_wp2_with fail
  rw [unhide HW]
  refine (isPlane w h s HS W0).mono ?_
  rintro e w1 ⟨rfl, g1⟩
  have k0 : w1.cell? ⟨W.heap.size, 0, none⟩ = some (.int .i64 w) := by rw [cell_of_row w1 _ 0 _ _ (0, 0) (grown_atG g1 (unhide b0) (by simp))]; rfl
  have k1 : w1.cell? ⟨W.heap.size, 1, none⟩ = some (.int .i64 h) := by rw [cell_of_row w1 _ 1 _ _ (0, 0) (grown_atG g1 (unhide b0) (by simp))]; rfl
  have G1 := hide g1
  clear HW
  cases s with
  | false =>
    obtain rfl : b = false := by rw [← unhide HB, planeB, unhide HS]; rfl
    have BZ := hide (unhide FAILS w1 g1)
    clear g1
    go_wp2_with ((refine store_row rfl 57 _ _ rfl (W.heap.size + 1) rfl #[.int .i64 0, .int .i64 0, .slice none 0 0] rfl _ 57 (unhide BZ) rfl (by kernel_rfl) (by simp [Value.oneCell']) ?_; intro w5 hB5 g5))
    refine bodyPost_ret (v := .tuple #[.agg #[.int .i64 0, .int .i64 0, .slice none 0 0], .bool false]) ?_ rfl ⟨⟨_, rfl, .inr ⟨rfl, 0, 0, _, _, _, rfl, by omega, by omega⟩⟩, ?_⟩
    · exact results_c2 (p := 4) (q := 5) (ty := 57) rfl _ _ _ (W.heap.size + 1) rfl _ (run_loadVar_row w5 _ 57 57 _ (0, 0) _ hB5 Try.underlying57 rfl (by kernel_rfl))
    exact grown_new (grown_trans (unhide HG0) (unhide G1)) g5 (fun g e => by simp at e; omega)
  | true =>
    obtain ⟨hw, hh, hwh⟩ := sides_of (unhide HS)
    clear g1
    go_wp2_with fail
    refine (areaCount w h (by omega) (by omega) w1).mono ?_
    rintro e w2 ⟨rfl, g2⟩
    have G2 := hide (grown_trans (unhide G1) g2)
    obtain ⟨p, HPR⟩ : ∃ p, Hid (w * h = p) := ⟨_, rfl⟩
    rw [unhide HPR] at hwh ⊢
    have k0' := g2.cell k0 (by simp)
    have k1' := g2.cell k1 (by simp)
    clear k0 k1 g2 G1
    by_cases hl : ¬ (m : Int) = p
    · obtain rfl : b = false := by
        rw [← unhide HB, planeB, unhide HS, unhide HZ, unhide HPR, decide_eq_false hl]; rfl
      have e2 : ((m : Int) != p) = true := by simpa using hl
      have BZ := hide (unhide FAILS w2 (unhide G2))
      clear hl
      go_wp2_with ((refine store_row rfl 57 _ _ rfl (W.heap.size + 1) rfl #[.int .i64 0, .int .i64 0, .slice none 0 0] rfl _ 57 (unhide BZ) rfl (by kernel_rfl) (by simp [Value.oneCell']) ?_; intro w5 hB5 g5))
      refine bodyPost_ret (v := .tuple #[.agg #[.int .i64 0, .int .i64 0, .slice none 0 0], .bool false]) ?_ rfl ⟨⟨_, rfl, .inr ⟨rfl, 0, 0, _, _, _, rfl, by omega, by omega⟩⟩, ?_⟩
      · exact results_c2 (p := 4) (q := 5) (ty := 57) rfl _ _ _ (W.heap.size + 1) rfl _ (run_loadVar_row w5 _ 57 57 _ (0, 0) _ hB5 Try.underlying57 rfl (by kernel_rfl))
      exact grown_new (grown_trans (unhide HG0) (unhide G2)) g5 (fun g e => by simp at e; omega)
    have e2 : ((m : Int) != p) = false := by simp; omega
    have hmp : (m : Int) = p := by omega
    obtain ⟨wd, rfl⟩ : ∃ k : Nat, w = (k : Int) := ⟨w.toNat, by omega⟩
    obtain ⟨ht, rfl⟩ : ∃ k : Nat, h = (k : Int) := ⟨h.toNat, by omega⟩
    have HN : Hid (wd * ht = m) := by have := unhide HPR; unfold Hid; rw [← hmp] at this; exact_mod_cast this
    have HMB : Hid (m ≤ 131072) := by unfold Hid; omega
    have HBZ : Hid ((zs.all fun x => decide (0 ≤ x ∧ x ≤ 4095)) = b) := by
      unfold Hid
      rw [← unhide HB, planeB, unhide HS, unhide HZ, unhide HPR, decide_eq_true hmp]
      simp
    have HMP := hide hmp
    clear hl hmp HB HS
    go_wp2_with fail
    refine (newTones wd ht m (by omega) (by omega) HN w2).mono ?_
    rintro e w3 ⟨g, rfl, hB3, hge, g3⟩
    have HB3 := hide hB3
    have G3 := hide (grown_trans (unhide G2) g3)
    have HGE : Hid (W.heap.size + 2 ≤ g) := by have h1 := (unhide G2).size; have h2 := unhide HS0; unfold Hid; omega
    have HGL : Hid (g < w3.heap.size) := hB3.lt
    clear hB3 g3 hge k0' k1' G2
    obtain ⟨W4, hW4⟩ : ∃ W4, w3.alloc (.cells #[.int .i64 (wd : Int), .int .i64 (ht : Int), .slice (some ⟨g, 0, none⟩) m m] 57) = W4 := ⟨_, rfl⟩
    have G4 : Hid (W0.grownBy W4 none) := by rw [← hW4]; exact grown_alloc (unhide G3) _
    have HB4 : Hid (Blk .u16 73 W4 g (List.replicate m 0)) := by rw [← hW4]; exact (unhide HB3).grown (World.grownBy_alloc _ _ _)
    have b6 : Hid (W4.heap[w3.heap.size]? = some (.cells #[.int .i64 (wd : Int), .int .i64 (ht : Int), .slice (some ⟨g, 0, none⟩) m m] 57 (0, 0))) := by rw [← hW4]; exact heap_alloc_new w3 _
    have HW4 := hide hW4
    clear hW4 HB3 G3
    go_wp2
    rw [unhide HW4]
    clear HW4
    generalize hs6 : w3.heap.size = s6 at *
    have HS6 := hide hs6
    clear hs6
    refine wp_region_noPanic ?_
    refine wp_region_tail (fun W => W.heap[s6]? = some (.cells #[.int .i64 (wd : Int), .int .i64 (ht : Int), .slice (some ⟨g, 0, none⟩) m m] 57 (0, 0))) [true, true, true, true, true, false, false, false] (by kernel_rfl) (fun _ _ _ _ _ h => h) rfl (by kernel_rfl) (show W4.drew.heap[s6]? = _ from unhide b6) ?_
    have G4X : Hid (W0.grownBy W4.drew none) := grown_drew (unhide G4)
    have HB4X : Hid (Blk .u16 73 W4.drew g (List.replicate m 0)) := unhide HB4
    have b6X : Hid (W4.drew.heap[s6]? = some (.cells #[.int .i64 (wd : Int), .int .i64 (ht : Int), .slice (some ⟨g, 0, none⟩) m m] 57 (0, 0))) := unhide b6
    generalize W4.drew = W4x at *
    clear G4 HB4 b6 W4
    refine heldF_take (v := .agg #[.int .i64 (wd : Int), .int .i64 (ht : Int), .slice (some ⟨g, 0, none⟩) m m]) (Or.inl ⟨by rfl, ?_⟩) ?_
    · intro w' hSw
      exact exec_row 57 _ rfl s6 rfl _ _ hSw _ Try.underlying57 rfl (by kernel_rfl)
    try simp only [Act.put, List.setIfInBounds_toArray, List.set_cons_zero, List.set_cons_succ]
    refine heldF_take (v := ?_) (Or.inl ⟨by rfl, ?_⟩) ?_
    rotate_left 1
    · intro w' hSw
      have k2 : w'.cell? ⟨s6, 2, none⟩ = some (.slice (some ⟨g, 0, none⟩) m m) := by rw [cell_of_row w' _ 2 _ _ (0, 0) hSw]; rfl
      go_simp
      try with_reducible rfl
    try simp only [Act.put, List.setIfInBounds_toArray, List.set_cons_zero, List.set_cons_succ]
    refine heldF_take (v := ?_) (Or.inl ⟨by rfl, ?_⟩) ?_
    rotate_left 1
    · intro w' hSw
      have k2 : w'.cell? ⟨s6, 2, none⟩ = some (.slice (some ⟨g, 0, none⟩) m m) := by rw [cell_of_row w' _ 2 _ _ (0, 0) hSw]; rfl
      go_simp
      try with_reducible rfl
    try simp only [Act.put, List.setIfInBounds_toArray, List.set_cons_zero, List.set_cons_succ]
    refine heldF_take (v := ?_) (Or.inl ⟨by rfl, ?_⟩) ?_
    rotate_left 1
    · intro w' hSw
      have k2 : w'.cell? ⟨s6, 2, none⟩ = some (.slice (some ⟨g, 0, none⟩) m m) := by rw [cell_of_row w' _ 2 _ _ (0, 0) hSw]; rfl
      go_simp
      try with_reducible rfl
    try simp only [Act.put, List.setIfInBounds_toArray, List.set_cons_zero, List.set_cons_succ]
    refine heldF_take (v := ?_) (Or.inl ⟨by rfl, ?_⟩) ?_
    rotate_left 1
    · intro w' hSw
      have k2 : w'.cell? ⟨s6, 2, none⟩ = some (.slice (some ⟨g, 0, none⟩) m m) := by rw [cell_of_row w' _ 2 _ _ (0, 0) hSw]; rfl
      go_simp
      try with_reducible rfl
    try simp only [Act.put, List.setIfInBounds_toArray, List.set_cons_zero, List.set_cons_succ]
    refine heldF_skip ?_
    refine heldF_skip ?_
    refine heldF_skip ?_
    refine heldF_nil ?_
    refine tailF_skip ?_
    refine tailF_skip ?_
    refine tailF_skip ?_
    refine tailF_skip ?_
    refine tailF_skip ?_
    refine tailF_step (fun K hK => ?_)
    go_simp
    refine (putTones 73 g m cap ao zs W4x ((unhide HR).grown (grown_trans (unhide HG0) (unhide G4X))) (unhide HB4X) (fun hm b off e => by have := (unhide HR).lt hm b off e; have := unhide HGE; omega) (by have := unhide HMB; omega) b HBZ).mono ?_
    rintro e w5 ⟨rfl, hP5, g5⟩
    have HP5 := hide hP5
    have S5 : w5.heap[s6]? = some (.cells #[.int .i64 (wd : Int), .int .i64 (ht : Int), .slice (some ⟨g, 0, none⟩) m m] 57 (0, 0)) := grown_atG g5 (unhide b6X) (by have := unhide HGL; simp; omega)
    clear hP5
    refine hK.out _ _ S5 ?_
    clear hK K
    try simp only [Act.put, List.setIfInBounds_toArray, List.set_cons_zero, List.set_cons_succ]
    refine tailF_step (fun K hK => ?_)
    refine step_store_row (by rfl) 57 _ _ rfl (W.heap.size + 1) rfl #[.int .i64 (wd : Int), .int .i64 (ht : Int), .slice (some ⟨g, 0, none⟩) m m] rfl _ 57 (grown_atG g5 (unhide FAILS W4x (unhide G4X)) (by have := unhide HGE; simp; omega)) rfl (by kernel_rfl) (by simp [Value.oneCell']) ?_
    intro w6 hB6 g6
    have hs3 := (unhide G4X).size
    have S6 : w6.heap[s6]? = some (.cells #[.int .i64 (wd : Int), .int .i64 (ht : Int), .slice (some ⟨g, 0, none⟩) m m] 57 (0, 0)) := grown_atG g6 S5 (by have := unhide HGL; have := unhide HGE; simp; omega)
    clear hs3
    refine hK.out _ _ S6 ?_
    clear hK K
    try simp only [Act.put]
    refine tailF_step (fun K hK => ?_)
    go_simp
    refine hK.out _ _ S6 ?_
    clear hK K
    try simp only [Act.put, List.setIfInBounds_toArray, List.set_cons_zero, List.set_cons_succ]
    refine tailF_nil (NoPanic.normal ?_)
    try simp only [Act.put]
    obtain ⟨L', hl', hb', hz'⟩ := unhide HP5
    have hgn := unhide HGE
    go_wp2
    refine bodyPost_ret (v := .tuple #[.agg #[.int .i64 (wd : Int), .int .i64 (ht : Int), .slice (some ⟨g, 0, none⟩) m m], .bool b]) ?_ rfl ⟨⟨_, rfl, ?_⟩, ?_⟩
    · exact results_c2 (p := 4) (q := 5) (ty := 57) rfl _ _ _ (W.heap.size + 1) rfl _ (run_loadVar_row w6 _ 57 57 _ (0, 0) _ hB6 Try.underlying57 rfl (by kernel_rfl))
    · cases b with
      | false => exact .inr ⟨rfl, _, _, _, _, _, rfl, by omega, by omega⟩
      | true =>
        obtain rfl := hz' rfl
        exact .inl ⟨rfl, wd, ht, g, m, rfl, rfl, unhide HN, rfl, hb'.beside g6 (by simp; omega), by omega⟩
    · exact grown_new (grown_new (grown_trans (unhide HG0) (unhide G4X)) g5 (fun q e => by simp at e; omega)) g6 (fun q e => by simp at e; omega)

end Go.Proofs.Ytkefpjbdkhifhaa
