/-
  GeoImpl, RangeOwn, Spots, RangeStop, Ints, TabKit, TabImpl, TabImpl2.
-/
import Derived.Deep.RegionHeld3
import Derived.RangeFuncNested
import Derived.RangeFuncBound
import Derived.RangeFuncCalls
import Derived.RangeFuncLeaves
import Derived.Shelf.Abstract
import Derived.WalkKit
import Derived.OwnWalkIn
import Derived.TacticsInMore
import Derived.LoopNIn
import Derived.LoopIn
import Derived.Shelf.RegionOpen
import Derived.OrdersIn
import Derived.Test.YtibgldanmhckiaaRows
import Derived.Deep.QuietTactic
import Derived.BigQuiet
import Derived.Deep.WholeRow
import Derived.Deep.MidRow
import Derived.ChangeKeysEq
import Derived.Laws.ResultCell
import Derived.Maps.AppendAt
import Derived.Test.YtibgldanmhckiaaMWb

namespace Go.Proofs.Ytibgldanmhckiaa
open Go.RowKit

theorem divUp (n d u : Int) (hn : 1 ≤ n ∧ n ≤ 1000000) (hd : 1 ≤ d ∧ d ≤ 1000000) (hu : Hid (upI n d = u)) (w : World) :
    Calls Try.prog 106 #[.int .i64 n, .int .i64 d] w fun e w' => e = .returned (.int .i64 u) ∧ w = w' := by
  have hd0 : (d == 0) = false := by simp; omega
  have hm1 : (d == -1) = false := by simp; omega
  have he : Hid ((n + d - 1) / d = u) := by rw [← unhide hu, upI, Int.tdiv_eq_ediv_of_nonneg (by omega)]; rfl
  go_enter Try.func106, Try.ntmps106
  go_wp2
  go_ret
  exact ⟨by simp [unhide he], rfl⟩

theorem areaCount (a b : Int) (ha : 0 ≤ a ∧ a ≤ 1024) (hb : 0 ≤ b ∧ b ≤ 1024) (w : World) :
    Calls Try.prog 100 #[.agg #[.int .i64 a, .int .i64 b]] w fun e w' => e = .returned (.int .i64 (a * b)) ∧ w.grownBy w' none := by
  have h0 : 0 ≤ a * b := Int.mul_nonneg ha.1 hb.1
  have h1 : a * b ≤ 1024 * 1024 := Int.mul_le_mul ha.2 hb.2 hb.1 (by omega)
  have hw := i64_in (a * b) (by omega)
  go_enter Try.func100, Try.ntmps100
  go_wp2
  go_ret
  exact ⟨rfl, grown_alloc (World.grownBy.refl _ _) _⟩

theorem shares (X : Array Value) (p wd ht rs n : Int) (C : Nat → Nat → Int) (hX : Fx X p wd ht rs n C) (c : Nat) (hc : c < 4) (w : World) :
    Calls Try.prog 110 #[.agg X, .int .i64 c] w fun e w' => e = .returned (.agg #[.int .i64 (C c 1), .int .i64 (C c 2)]) ∧ w.grownBy w' none := by
  have hs := hX.size
  have hc0 : (0 : Int) ≤ (c : Int) := by omega
  have hc4 : (c : Int) < 4 := by omega
  have HB : ∀ o, ((w.alloc (.cells X 73)).alloc o).heap[w.heap.size]? = some (.cells X 73 (0, 0)) := by
    intro o; rw [Below.heap_alloc _ _ _ (by simp)]; exact heap_alloc_new w _
  have K : Hid (∀ o, ((w.alloc (.cells X 73)).alloc o).cell? ⟨w.heap.size, 5 + c * 4 + 1, none⟩ = some (.int .i64 (C c 1)) ∧ ((w.alloc (.cells X 73)).alloc o).cell? ⟨w.heap.size, 5 + c * 4 + 2, none⟩ = some (.int .i64 (C c 2))) := fun o => ⟨fx_cell hX (HB o) c 1 (by omega) (by omega), fx_cell hX (HB o) c 2 (by omega) (by omega)⟩
  have h1 := (unhide K (.cells #[.int .i64 0, .int .i64 0] 115)).1
  have h2 := (unhide K (.cells #[.int .i64 0, .int .i64 0] 115)).2
  clear hX HB
  go_enter Try.func110, Try.ntmps110
  go_wp2
  go_region_held3 (fun w' => w'.cell? ⟨w.heap.size, 5 + c * 4 + 1, none⟩ = some (.int .i64 (C c 1)) ∧ w'.cell? ⟨w.heap.size, 5 + c * 4 + 2, none⟩ = some (.int .i64 (C c 2))) (first | exact ⟨h1, h2⟩ | exact unhide K _) (fail)
  go_wp2
  refine bodyPost_ret (v := .agg #[.int .i64 (C c 1), .int .i64 (C c 2)]) (by simp [results, Try.results110, go_sem]) rfl ⟨rfl, ?_⟩
  exact grown_drew (grown_alloc (grown_alloc (World.grownBy.refl _ _) _) _)

theorem areaCells {w : World} {g : Nat} {a b : Value} {t : TypeId} (hb : w.heap[g]? = some (.cells #[a, b] t (0, 0))) :
    w.cell? ⟨g, 0, none⟩ = some a ∧ w.cell? ⟨g, 1, none⟩ = some b ∧ w.frozen? ⟨g, 0, none⟩ = false ∧ w.frozen? ⟨g, 1, none⟩ = false :=
  ⟨by rw [cell_of_row w _ 0 _ _ (0, 0) hb]; rfl, by rw [cell_of_row w _ 1 _ _ (0, 0) hb]; rfl, frozen_of_row w g 0 _ _ hb, frozen_of_row w g 1 _ _ hb⟩
theorem grown_setNew {w w' : World} (h : w.grownBy w' none) (b j : Nat) (u : Value) (hb : w.heap.size ≤ b) : w.grownBy (w'.setCell ⟨b, j, none⟩ u) none := grown_new h (grown_set w' b j u) (fun g e => by simp at e; omega)
theorem loadArea {w : World} {g : Nat} {a b : Int} (hb : w.heap[g]? = some (.cells #[.int .i64 a, .int .i64 b] 115 (0, 0))) : (loadVar 115 ⟨g, 0, none⟩).run Try.prog w = .ok (.agg #[.int .i64 a, .int .i64 b]) w :=
  run_loadVar_row w g 115 115 _ (0, 0) _ hb Try.underlying115 rfl (by kernel_rfl)

set_option maxHeartbeats 1600000 in
theorem most (X : Array Value) (p wd ht rs : Int) (n : Nat) (C : Nat → Nat → Int) (hX : Fx X p wd ht rs n C) (hn : n ≤ 4) (mh mv : Int) (HH : Hid (mostA 0 C 1 n = mh)) (HV : Hid (mostA 0 C 2 n = mv)) (w : World) :
    Calls Try.prog 116 #[.agg X] w fun e w' => e = .returned (.agg #[.int .i64 mh, .int .i64 mv]) ∧ w.grownBy w' none := by
  have HX := hide hX
  have hs := hX.size
  have h4 := hX.c4
  have h4' : X[4] = .int .i64 n := by rw [Array.getElem?_eq_getElem (by omega)] at h4; simpa using h4
  obtain ⟨W0, hW0⟩ : ∃ W0, (((w.alloc (.cells X 73)).alloc (.cells #[.int .i64 0, .int .i64 0] 115)).alloc (.cells #[.int .i64 0, .int .i64 0] 115)) = W0 := ⟨_, rfl⟩
  have G0 : w.grownBy W0 none := by rw [← hW0]; exact grown_alloc (grown_alloc (grown_alloc (World.grownBy.refl _ _) _) _) _
  have b0 : W0.heap[w.heap.size]? = some (.cells X 73 (0, 0)) := by
    rw [← hW0, Below.heap_alloc _ _ _ (by simp; omega), Below.heap_alloc _ _ _ (by simp)]
    exact heap_alloc_new w _
  have b1 : W0.heap[w.heap.size + 1]? = some (.cells #[.int .i64 0, .int .i64 0] 115 (0, 0)) := by
    rw [← hW0, Below.heap_alloc _ _ _ (by simp)]
    have := heap_alloc_new (w.alloc (.cells X 73)) (.cells #[.int .i64 0, .int .i64 0] 115)
    simpa using this
  have b2 : W0.heap[w.heap.size + 1 + 1]? = some (.cells #[.int .i64 0, .int .i64 0] 115 (0, 0)) := by
    rw [← hW0]
    have := heap_alloc_new ((w.alloc (.cells X 73)).alloc (.cells #[.int .i64 0, .int .i64 0] 115)) (.cells #[.int .i64 0, .int .i64 0] 115)
    simpa using this
  have hsz : W0.heap.size = w.heap.size + 3 := by rw [← hW0]; simp
  have HW := hide hW0
  have B0 := hide b0
  have B1 := hide b1
  have B2 := hide b2
  have HG0 := hide G0
  clear hX hW0 b0 b1 b2 G0 h4
  go_enter Try.func116, Try.ntmps116
  go_wp2
  rw [unhide HW]
  clear HW
  go_loopw [9] (fun i wr => ∃ k : Nat, k ≤ n ∧ i = .int .i64 k ∧ wr.heap[w.heap.size + 1 + 1]? = some (.cells #[.int .i64 (mostA 0 C 1 k), .int .i64 (mostA 0 C 2 k)] 115 (0, 0)) ∧ W0.grownBy wr (some (w.heap.size + 1 + 1))) (fun i _ => n - (intOf i).toNat)
  case atStart => exact ⟨0, Nat.zero_le _, rfl, unhide B2, World.grownBy.refl _ _⟩
  case round =>
    obtain ⟨k, hk, rfl, hM, hgk⟩ := hrel
    have hB := (hgk.block w.heap.size (by omega) (by simp; omega)).trans (unhide B0)
    have hR := (hgk.block (w.heap.size + 1) (by omega) (by simp)).trans (unhide B1)
    have hsk := hgk.size
    by_cases hlt : k < n
    · have S1 : Hid (mostA 0 C 1 (k + 1) = max (mostA 0 C 1 k) (C k 1)) := rfl
      have S2 : Hid (mostA 0 C 2 (k + 1) = max (mostA 0 C 2 k) (C k 2)) := rfl
      generalize mostA 0 C 1 k = m1 at *
      generalize mostA 0 C 2 k = m2 at *
      go_wp2_with (refine wpList_load_row rfl 73 _ rfl w.heap.size rfl X 73 hB _ Try.underlying73 rfl (by rw [hs]; kernel_rfl) ?_)
      refine (shares X p wd ht rs n C (unhide HX) k (by omega) _).mono ?_
      rintro e w2 ⟨rfl, g2⟩
      have hM2 := (g2.block (w.heap.size + 1 + 1) (by omega) (by simp)).trans hM
      have s2 := g2.size
      have gA : w2.grownBy (w2.alloc (.cells #[.int .i64 (C k 1), .int .i64 (C k 2)] 115)) none := grown_alloc (World.grownBy.refl _ _) _
      have hM3 := (gA.block (w.heap.size + 1 + 1) (by omega) (by simp)).trans hM2
      have cm0 : (w2.alloc (.cells #[.int .i64 (C k 1), .int .i64 (C k 2)] 115)).cell? ⟨w.heap.size + 1 + 1, 0, none⟩ = some (.int .i64 m1) := by rw [cell_of_row _ _ 0 _ _ (0, 0) hM3]; rfl
      have cm1 : (w2.alloc (.cells #[.int .i64 (C k 1), .int .i64 (C k 2)] 115)).cell? ⟨w.heap.size + 1 + 1, 1, none⟩ = some (.int .i64 m2) := by rw [cell_of_row _ _ 1 _ _ (0, 0) hM3]; rfl
      have GA := hide (grown_trans g2 gA)
      have HM3 := hide hM3
      clear hM2 hM3 gA hM
      generalize C k 1 = c1 at *
      generalize C k 2 = c2 at *
      have fz0 := frozen_of_row _ _ 0 _ _ (unhide HM3)
      have fz1 := frozen_of_row _ _ 1 _ _ (unhide HM3)
      have ST : Hid (∀ u v : Int, (((w2.alloc (.cells #[.int .i64 c1, .int .i64 c2] 115)).setCell ⟨w.heap.size + 1 + 1, 0, none⟩ (.int .i64 u)).setCell ⟨w.heap.size + 1 + 1, 1, none⟩ (.int .i64 v)).heap[w.heap.size + 1 + 1]? = some (.cells #[.int .i64 u, .int .i64 v] 115 (0, 0)) ∧
          W0.grownBy (((w2.alloc (.cells #[.int .i64 c1, .int .i64 c2] 115)).setCell ⟨w.heap.size + 1 + 1, 0, none⟩ (.int .i64 u)).setCell ⟨w.heap.size + 1 + 1, 1, none⟩ (.int .i64 v)) (some (w.heap.size + 1 + 1))) := fun u v =>
        ⟨heap_setCell_same _ _ 1 _ _ _ (heap_setCell_same _ _ 0 _ _ _ (unhide HM3)), grown_trans (grown_trans (grown_trans hgk (grown_any (unhide GA))) (grown_set _ _ _ _)) (grown_set _ _ _ _)⟩
      by_cases q1 : m1 < c1 <;> by_cases q2 : m2 < c2
      all_goals
        go_wp2
        go_roundw
        case rel => exact ⟨k + 1, by omega, by go_num, by rw [unhide S1, unhide S2, ← show _ = max m1 c1 from by first | exact (Int.max_eq_right (by omega)).symm | exact (Int.max_eq_left (by omega)).symm, ← show _ = max m2 c2 from by first | exact (Int.max_eq_right (by omega)).symm | exact (Int.max_eq_left (by omega)).symm]; exact (unhide ST _ _).1, (unhide ST _ _).2⟩
        case measure => simp [intOf]; omega
    · have hkn : k = n := by omega
      subst hkn
      rw [unhide HH, unhide HV] at hM
      have cm := areaCells hM
      have cr := areaCells hR
      go_wp2
      refine bodyPost_ret (v := .agg #[.int .i64 mh, .int .i64 mv]) (by simp [results, Try.results116, go_sem, cr]) rfl ⟨rfl, ?_⟩
      exact grown_setNew (grown_setNew (grown_new (unhide HG0) hgk (fun g e => by simp at e; omega)) _ _ _ (by omega)) _ _ _ (by omega)

end Go.Proofs.Ytibgldanmhckiaa

namespace Go.Proofs.Ytibgldanmhckiaa
open Go.RowKit Go.Shelf

/-- All blocks lie as they lay, but those of O. -/
structure But (O : Nat → Prop) (W W' : World) : Prop where
  os : W'.os = W.os
  tape : W'.tape = W.tape
  output : W'.output = W.output
  size : W.heap.size ≤ W'.heap.size
  block : ∀ k, k < W.heap.size → ¬ O k → W'.heap[k]? = W.heap[k]?
theorem But.refl (O : Nat → Prop) (W : World) : But O W W := ⟨rfl, rfl, rfl, Nat.le_refl _, fun _ _ _ => rfl⟩
theorem But.trans {O : Nat → Prop} {A B C : World} (h : But O A B) (g : But O B C) : But O A C :=
  ⟨g.os.trans h.os, g.tape.trans h.tape, g.output.trans h.output, Nat.le_trans h.size g.size, fun k hk ho => (g.block k (Nat.lt_of_lt_of_le hk h.size) ho).trans (h.block k hk ho)⟩
theorem But.of_grown {O : Nat → Prop} {W W' : World} {row : Option Nat} (h : W.grownBy W' row) (hr : ∀ g, row = some g → O g) : But O W W' :=
  ⟨h.os, h.tape, h.output, h.size, fun k hk ho => h.block k hk (fun e => ho (hr k e.symm))⟩
theorem But.mono {O O' : Nat → Prop} {W W' : World} (h : But O W W') (ho : ∀ k, O k → O' k) : But O' W W' := ⟨h.os, h.tape, h.output, h.size, fun k hk hn => h.block k hk (fun e => hn (ho k e))⟩
theorem But.putObj {O : Nat → Prop} (W : World) (l : Nat) (o : Obj) (hl : O l) : But O W (W.putObj l o) := But.of_grown (grownBy_putObj' W l o) (fun g e => by cases e; exact hl)

/-- What speaks of the blocks of O alone. -/
def LocalJ {α : Type} (O : Nat → Prop) (J : List α → World → Prop) : Prop := ∀ pre W W', J pre W → (∀ k, O k → W'.heap[k]? = W.heap[k]?) → J pre W'

/-- What an iterator gives a loop whose body always goes on and writes into the blocks of O alone: all of S, in its order. -/
def Gives {α : Type} (P : Program) (g : Nat) (lb : Array Value) (encs : α → Array Value) (S : List α) (O : Nat → Prop) (w : World) : Prop :=
  ∀ (n l : Nat) (J : List α → World → Prop) (W : World), But O w W → (∀ k, O k → k < W.heap.size) → l < W.heap.size → ¬ O l → w.heap.size ≤ l → LocalJ (fun k => O k ∨ k = l) J →
    (∀ pre x W1 m, J pre W1 → But (fun k => O k ∨ k = l) W W1 → pre ++ [x] <+: S → YieldAt Fence.wide m P l (encs x) W1 fun e W' => e = .returned (.bool true) ∧ J (pre ++ [x]) W' ∧ But (fun k => O k ∨ k = l) W1 W') → J [] W →
    CallsIn Fence.wide n P g (#[.func (.yield l) #[] #[]] ++ lb) W fun e W' => (∃ v, e = .returned v) ∧ J S W' ∧ But (fun k => O k ∨ k = l) W W'

/-- How the body of a round is left. -/
def goesOn (R : World → Prop) : Exit → Act → World → Prop
  | .normal, _, W' => R W'
  | _, _, _ => False

theorem rangeFunc_gives {α : Type} {n : Nat} {P : Program} {g : Operand} {ps : Array Tmp} {assign body : Code} {Q : Exit → Act → World → Prop} {a : Act} {w : World}
    {gf : Nat} {lb : Array Value} (hg : a.eval g = .func (.func gf) #[] lb) (eg : ∀ args w, (callFunc gf args).run P w = .ok (.enter gf args) w)
    {encs : α → Array Value} {S : List α} {O : Nat → Prop} (hO : ∀ k, O k → k < w.heap.size) (hG : Gives P gf lb encs S O w) (hps : ∀ x, (encs x).size = ps.size)
    (I : List α → World → Prop) (hI : LocalJ O I) (h0 : I [] w) (a₁ : α → Act)
    (hassign : ∀ (l m : Nat) (x : α) (W : World) (K : Act → World → Prop), K (a₁ x) W →
      assign.wpIn (Fence.wide.inRound l) m P (Exit.then K (fun _ _ _ => False)) { tmps := (ps.zip (encs x)).foldl (fun t (p, v) => t.setIfInBounds p v) a.tmps, defers := [] } W)
    (hbody : ∀ (l m : Nat) (pre : List α) (x : α) (W : World), I pre W → But O w W → pre ++ [x] <+: S → body.wpIn (Fence.wide.inRound l) m P (goesOn fun W' => I (pre ++ [x]) W' ∧ But O W W') (a₁ x) W)
    (hdone : ∀ (D : Nat) (W : World), w.heap.size ≤ D → I S W → But O w W → W.heap[D]? = some (.deferred (some [])) → Q .normal { a with defers := { target := .collected D, args := #[] } :: a.defers } W) :
    (Code.rangeFunc g ps assign body).wpIn Fence.wide n P Q a w := by
  refine wpIn_rangeFunc ?_
  intro fn hfn
  obtain ⟨R, hR⟩ : ∃ R : LoopState → Loop, R = fun st => { state := st, pending := none, fn, tmps := a.tmps, params := ps, assign, body, defers := w.heap.size } := ⟨_, rfl⟩
  obtain ⟨l, hl⟩ : ∃ l, w.heap.size + 1 = l := ⟨_, rfl⟩
  obtain ⟨W1, hW1⟩ : ∃ W1, (w.alloc (.deferred (some []))).alloc (.loop (R .ready)) = W1 := ⟨_, rfl⟩
  have hs1 : W1.heap.size = w.heap.size + 2 := by rw [← hW1]; simp
  have hOl : ¬ O l := fun e => by have := hO l e; omega
  have hOD : ¬ O w.heap.size := fun e => by have := hO _ e; omega
  have hL1 : W1.heap[l]? = some (.loop (R .ready)) := by
    rw [← hW1, ← hl]; have := World.alloc_heap_new (w.alloc (.deferred (some []))) (.loop (R .ready)); rwa [World.size_alloc] at this
  have hD1 : W1.heap[w.heap.size]? = some (.deferred (some [])) := by
    rw [← hW1]; exact (Below.heap_alloc _ _ _ (by simp)).trans (World.alloc_heap_new w _)
  have b1 : ∀ O', But O' w W1 := fun O' => by
    rw [← hW1]; exact But.of_grown (grown_alloc (grown_alloc (World.grownBy.refl w none) _) _) (fun g e => by cases e)
  have hI1 : I [] W1 := hI _ _ _ h0 (fun k hk => (b1 (fun _ => False)).block k (hO k hk) (fun e => e))
  refine ⟨l, [{ target := .collected w.heap.size, args := #[] }], W1, { target := .fn (.func gf) lb, args := #[.func (.yield l) #[] #[]] }, W1, gf, #[.func (.yield l) #[] #[]] ++ lb, W1, ?_, ?_, fun _ _ => trivial, ?_, (fun h => by simp [Fence.wide] at h), ?_⟩
  · rw [← hW1, ← hl, hR]; exact run_enterLoop_outer _ _ _ _ _
  · simp only [resolve, hg]
    simp [go_sem]
  · simp [invoke, go_sem, eg]
  · have loc : LocalJ (fun k => O k ∨ k = l) (fun pre W => I pre W ∧ W.heap[l]? = some (.loop (R .ready))) := fun pre W W' h hk => ⟨hI _ _ _ h.1 (fun k ok => hk k (.inl ok)), (hk l (.inr rfl)).trans h.2⟩
    refine (hG (n - 1) l _ W1 (b1 O) (fun k hk => by have := hO k hk; omega) (by omega) hOl (by omega) loc ?_ ⟨hI1, hL1⟩).mono ?_
    · rintro pre x W m ⟨hi, hlW⟩ bW hlen
      have hlt : l < W.heap.size := (Array.getElem?_eq_some_iff.1 hlW).1
      have hy := run_yield (P := P) (args := encs x) hlW (by rw [hR]; exact hps x)
      rw [hR] at hy
      refine ⟨fn, _, assign, body, hy, roundIn_of_wpIn hfn (hassign l m x W _ ⟨_, run_beginRound hlW (by rw [hR]), ?_⟩)⟩
      clear hy
      obtain ⟨W2, hW2⟩ : ∃ W2, W.putObj l (.loop { R .ready with state := .busy }) = W2 := ⟨_, rfl⟩
      rw [hW2]
      have hl2 : W2.heap[l]? = some (.loop { R .ready with state := .busy }) := by rw [← hW2]; exact World.putObj_heap_same hlt
      have b2 : But (fun k => O k ∨ k = l) W W2 := by rw [← hW2]; exact But.putObj W l _ (.inr rfl)
      have hi2 : I pre W2 := hI _ _ _ hi (fun k hk => by rw [← hW2]; exact World.putObj_heap_other (fun e => hOl (by rw [← e]; exact hk)))
      have bw2 : But O w W2 := by
        have h := bW.trans b2
        exact ⟨h.os.trans (b1 O).os, h.tape.trans (b1 O).tape, h.output.trans (b1 O).output, Nat.le_trans (b1 O).size h.size, fun k hk ho => (h.block k (by omega) (fun e => by rcases e with e | e; exact ho e; omega)).trans ((b1 O).block k hk ho)⟩
      refine wpIn_mono (hbody l m pre x W2 hi2 bw2 hlen) ?_
      rintro e a3 W3 hp
      cases e with
      | normal =>
        obtain ⟨hi3, b3⟩ := hp
        have hl3 : W3.heap[l]? = some (.loop { R .ready with state := .busy }) := (b3.block l (Array.getElem?_eq_some_iff.1 hl2).1 hOl).trans hl2
        have hlt3 : l < W3.heap.size := (Array.getElem?_eq_some_iff.1 hl3).1
        have he := run_endRound (P := P) none hl3
        have hi4 : I (pre ++ [x]) (W3.putObj l (.loop (R .ready))) := hI _ _ _ hi3 (fun k hk => World.putObj_heap_other (fun e => hOl (by rw [← e]; exact hk)))
        have hl4 : (W3.putObj l (.loop (R .ready))).heap[l]? = some (.loop (R .ready)) := World.putObj_heap_same hlt3
        refine ⟨_, _, ?_, rfl, ⟨hi4, hl4⟩, (b2.trans (b3.mono (fun k hk => .inl hk))).trans (But.putObj W3 l _ (.inr rfl))⟩
        rw [hR] at he ⊢
        exact he
      | ret => exact hp.elim
      | exit id => exact hp.elim
      | goto t => exact hp.elim
      | panic ch => exact hp.elim
      | outgrown => exact hp.elim
    · rintro e W5 ⟨⟨v, rfl⟩, ⟨hi5, hl5⟩, b5⟩
      have hD5 : W5.heap[w.heap.size]? = some (.deferred (some [])) := (b5.block w.heap.size (by omega) (fun e => by rcases e with e | e; exact hOD e; omega)).trans hD1
      have he := run_endLoop (P := P) hl5 (by rw [hR]; simp)
      refine ⟨none, _, by rw [hR] at he; exact he, hdone w.heap.size _ (Nat.le_refl _) (hI _ _ _ hi5 (fun k hk => World.putObj_heap_other (fun e => hOl (by rw [← e]; exact hk)))) ?_ ((World.putObj_heap_other (by omega)).trans hD5)⟩
      have b6 : ∀ o, But (fun k => O k ∨ k = l) W1 (W5.putObj l o) := fun o => b5.trans (But.putObj W5 l o (.inr rfl))
      exact ⟨(b6 _).os.trans (b1 O).os, (b6 _).tape.trans (b1 O).tape, (b6 _).output.trans (b1 O).output, Nat.le_trans (b1 O).size (b6 _).size, fun k hk ho => ((b6 _).block k (by omega) (fun e => by rcases e with e | e; exact ho e; omega)).trans ((b1 O).block k hk ho)⟩

/-- The same inside a round of another loop. -/
theorem rangeFunc_gives_in {α : Type} {n : Nat} {P : Program} {g : Operand} {ps : Array Tmp} {assign body : Code} {Q : Exit → Act → World → Prop} {a : Act} {w : World} {l₀ : Nat} {r₀ : Loop} (hl₀ : w.heap[l₀]? = some (.loop r₀))
    {gf : Nat} {lb : Array Value} (hg : a.eval g = .func (.func gf) #[] lb) (eg : ∀ args w, (callFunc gf args).run P w = .ok (.enter gf args) w)
    {encs : α → Array Value} {S : List α} {O : Nat → Prop} (hO : ∀ k, O k → k < w.heap.size) (hG : Gives P gf lb encs S O w) (hps : ∀ x, (encs x).size = ps.size)
    (I : List α → World → Prop) (hI : LocalJ O I) (h0 : I [] w) (a₁ : α → Act)
    (hassign : ∀ (l m : Nat) (x : α) (W : World) (K : Act → World → Prop), K (a₁ x) W →
      assign.wpIn ((Fence.wide.inRound l₀).inRound l) m P (Exit.then K (fun _ _ _ => False)) { tmps := (ps.zip (encs x)).foldl (fun t (p, v) => t.setIfInBounds p v) a.tmps, defers := [] } W)
    (hbody : ∀ (l m : Nat) (pre : List α) (x : α) (W : World), I pre W → But O w W → pre ++ [x] <+: S → body.wpIn ((Fence.wide.inRound l₀).inRound l) m P (goesOn fun W' => I (pre ++ [x]) W' ∧ But O W W') (a₁ x) W)
    (hdone : ∀ (W : World), I S W → But O w W → Q .normal a W) :
    (Code.rangeFunc g ps assign body).wpIn (Fence.wide.inRound l₀) n P Q a w := by
  refine wpIn_rangeFunc ?_
  intro fn hfn
  obtain ⟨R, hR⟩ : ∃ R : LoopState → Loop, R = fun st => { state := st, pending := none, fn, tmps := a.tmps, params := ps, assign, body, defers := r₀.defers } := ⟨_, rfl⟩
  obtain ⟨l, hl⟩ : ∃ l, w.heap.size = l := ⟨_, rfl⟩
  obtain ⟨W1, hW1⟩ : ∃ W1, w.alloc (.loop (R .ready)) = W1 := ⟨_, rfl⟩
  have hs1 : W1.heap.size = w.heap.size + 1 := by rw [← hW1]; simp
  have hOl : ¬ O l := fun e => by have := hO l e; omega
  have hL1 : W1.heap[l]? = some (.loop (R .ready)) := by rw [← hW1, ← hl]; exact World.alloc_heap_new w _
  have b1 : ∀ O', But O' w W1 := fun O' => by
    rw [← hW1]; exact But.of_grown (grown_alloc (World.grownBy.refl w none) _) (fun g e => by cases e)
  have hI1 : I [] W1 := hI _ _ _ h0 (fun k hk => (b1 (fun _ => False)).block k (hO k hk) (fun e => e))
  refine ⟨l, [], W1, { target := .fn (.func gf) lb, args := #[.func (.yield l) #[] #[]] }, W1, gf, #[.func (.yield l) #[] #[]] ++ lb, W1, ?_, ?_, fun _ _ => trivial, ?_, (fun h => by simp [Fence.wide, Fence.inRound] at h), ?_⟩
  · rw [← hW1, ← hl, hR]; exact run_enterLoop_inner hl₀ _ _ _ _ _
  · simp only [resolve, hg]
    simp [go_sem]
  · simp [invoke, go_sem, eg]
  · have loc : LocalJ (fun k => O k ∨ k = l) (fun pre W => I pre W ∧ W.heap[l]? = some (.loop (R .ready))) := fun pre W W' h hk => ⟨hI _ _ _ h.1 (fun k ok => hk k (.inl ok)), (hk l (.inr rfl)).trans h.2⟩
    refine (CallsIn.inRound l₀ (hG (n - 1) l _ W1 (b1 O) (fun k hk => by have := hO k hk; omega) (by omega) hOl (by omega) loc ?_ ⟨hI1, hL1⟩)).mono ?_
    · rintro pre x W m ⟨hi, hlW⟩ bW hlen
      have hlt : l < W.heap.size := (Array.getElem?_eq_some_iff.1 hlW).1
      have hy := run_yield (P := P) (args := encs x) hlW (by rw [hR]; exact hps x)
      rw [hR] at hy
      refine ⟨fn, _, assign, body, hy, roundIn_of_wpIn (F := Fence.wide.inRound l₀) hfn (hassign l m x W _ ⟨_, run_beginRound hlW (by rw [hR]), ?_⟩)⟩
      clear hy
      obtain ⟨W2, hW2⟩ : ∃ W2, W.putObj l (.loop { R .ready with state := .busy }) = W2 := ⟨_, rfl⟩
      rw [hW2]
      have hl2 : W2.heap[l]? = some (.loop { R .ready with state := .busy }) := by rw [← hW2]; exact World.putObj_heap_same hlt
      have b2 : But (fun k => O k ∨ k = l) W W2 := by rw [← hW2]; exact But.putObj W l _ (.inr rfl)
      have hi2 : I pre W2 := hI _ _ _ hi (fun k hk => by rw [← hW2]; exact World.putObj_heap_other (fun e => hOl (by rw [← e]; exact hk)))
      have bw2 : But O w W2 := by
        have h := bW.trans b2
        exact ⟨h.os.trans (b1 O).os, h.tape.trans (b1 O).tape, h.output.trans (b1 O).output, Nat.le_trans (b1 O).size h.size, fun k hk ho => (h.block k (by omega) (fun e => by rcases e with e | e; exact ho e; omega)).trans ((b1 O).block k hk ho)⟩
      refine wpIn_mono (hbody l m pre x W2 hi2 bw2 hlen) ?_
      rintro e a3 W3 hp
      cases e with
      | normal =>
        obtain ⟨hi3, b3⟩ := hp
        have hl3 : W3.heap[l]? = some (.loop { R .ready with state := .busy }) := (b3.block l (Array.getElem?_eq_some_iff.1 hl2).1 hOl).trans hl2
        have hlt3 : l < W3.heap.size := (Array.getElem?_eq_some_iff.1 hl3).1
        have he := run_endRound (P := P) none hl3
        have hi4 : I (pre ++ [x]) (W3.putObj l (.loop (R .ready))) := hI _ _ _ hi3 (fun k hk => World.putObj_heap_other (fun e => hOl (by rw [← e]; exact hk)))
        have hl4 : (W3.putObj l (.loop (R .ready))).heap[l]? = some (.loop (R .ready)) := World.putObj_heap_same hlt3
        refine ⟨_, _, ?_, rfl, ⟨hi4, hl4⟩, (b2.trans (b3.mono (fun k hk => .inl hk))).trans (But.putObj W3 l _ (.inr rfl))⟩
        rw [hR] at he ⊢
        exact he
      | ret => exact hp.elim
      | exit id => exact hp.elim
      | goto t => exact hp.elim
      | panic ch => exact hp.elim
      | outgrown => exact hp.elim
    · rintro e W5 ⟨⟨v, rfl⟩, ⟨hi5, hl5⟩, b5⟩
      have he := run_endLoop (P := P) hl5 (by rw [hR]; simp)
      have b6 : ∀ o, But (fun k => O k ∨ k = l) W1 (W5.putObj l o) := fun o => b5.trans (But.putObj W5 l o (.inr rfl))
      exact ⟨none, _, by rw [hR] at he; exact he, hdone _ (hI _ _ _ hi5 (fun k hk => World.putObj_heap_other (fun e => hOl (by rw [← e]; exact hk))))
        ⟨(b6 _).os.trans (b1 O).os, (b6 _).tape.trans (b1 O).tape, (b6 _).output.trans (b1 O).output, Nat.le_trans (b1 O).size (b6 _).size, fun k hk ho => ((b6 _).block k (by omega) (fun e => by rcases e with e | e; exact ho e; omega)).trans ((b1 O).block k hk ho)⟩⟩

end Go.Proofs.Ytibgldanmhckiaa

namespace Go.Proofs.Ytibgldanmhckiaa
open Go.RowKit Go.Shelf

attribute [local go_sem] Oper.semAt_some

/-- The first k columns of a row. -/
def sCol (r : Nat) : Nat → List (Nat × Nat)
  | 0 => []
  | k + 1 => sCol r k ++ [(r, k)]
/-- The first r rows of W columns. -/
def sTo (W : Nat) : Nat → List (Nat × Nat)
  | 0 => []
  | r + 1 => sTo W r ++ sCol r W
theorem sCol_len (r : Nat) : ∀ k, (sCol r k).length = k
  | 0 => rfl
  | k + 1 => by simp [sCol, sCol_len r k]
theorem sTo_len (W : Nat) : ∀ r, (sTo W r).length = r * W
  | 0 => by simp [sTo]
  | r + 1 => by simp [sTo, sTo_len W r, sCol_len, Nat.succ_mul]
theorem sCol_pre (r : Nat) {k m : Nat} (h : k ≤ m) : sCol r k <+: sCol r m := by
  induction m with
  | zero => obtain rfl : k = 0 := by omega
            exact List.prefix_refl _
  | succ m ih =>
    by_cases e : k = m + 1
    · subst e; exact List.prefix_refl _
    · exact (ih (by omega)).trans (List.prefix_append _ _)
theorem sTo_pre (W : Nat) {k m : Nat} (h : k ≤ m) : sTo W k <+: sTo W m := by
  induction m with
  | zero => obtain rfl : k = 0 := by omega
            exact List.prefix_refl _
  | succ m ih =>
    by_cases e : k = m + 1
    · subst e; exact List.prefix_refl _
    · exact (ih (by omega)).trans (List.prefix_append _ _)
/-- Where a row is not at its end, what has come and one more is a beginning of all. -/
theorem spot_pre {W H r k : Nat} (hr : r < H) (hk : k < W) : sTo W r ++ sCol r k ++ [(r, k)] <+: sTo W H := by
  have h1 : sTo W r ++ sCol r (k + 1) <+: sTo W (r + 1) := (List.prefix_append_right_inj _).2 (sCol_pre r (by omega))
  rw [List.append_assoc]
  exact h1.trans (sTo_pre W (by omega))

theorem sCol_mem {r k : Nat} {x : Nat × Nat} : x ∈ sCol r k → x.1 = r ∧ x.2 < k := by
  induction k with
  | zero => intro h; simp [sCol] at h
  | succ k ih =>
    intro h
    simp only [sCol, List.mem_append, List.mem_singleton] at h
    rcases h with h | h
    · have := ih h; omega
    · subst h; simp
theorem sTo_mem {W r : Nat} {x : Nat × Nat} : x ∈ sTo W r → x.1 < r ∧ x.2 < W := by
  induction r with
  | zero => intro h; simp [sTo] at h
  | succ r ih =>
    intro h
    simp only [sTo, List.mem_append] at h
    rcases h with h | h
    · have := ih h; omega
    · have := sCol_mem h; omega

set_option maxRecDepth 100000 in
set_option maxHeartbeats 1600000 in
theorem spots1_in (F : Fence) (n : Nat) (hf : F.fn 115) (hro : F.round = none) (hn : 1 ≤ n) (l Bn wd ht : Nat) (hwd : wd ≤ 4096) (hht : ht ≤ 4096) (J Jx : List (Nat × Nat) → World → Prop)
    (hY : ∀ pre (x : Nat × Nat) W, J pre W → pre ++ [x] <+: sTo wd ht → YieldAt F (n - 1) Try.prog l #[.int .i64 (x.1 : Int), .int .i64 (x.2 : Int)] W fun e W' =>
      (e = .returned (.bool true) ∧ J (pre ++ [x]) W' ∧ W'.heap[Bn]? = W.heap[Bn]?) ∨ (e = .returned (.bool false) ∧ Jx (pre ++ [x]) W'))
    (W : World) (hBn : W.heap[Bn]? = some (.cells #[.int .i64 (wd : Int), .int .i64 (ht : Int)] 115 (0, 0))) (h0 : J [] W) :
    CallsIn F n Try.prog 115 #[.func (.yield l) #[] #[], .pointer (some ⟨Bn, 0, none⟩)] W fun e W' => (∃ v, e = .returned v) ∧
      ((∃ ys, ys = sTo wd ht ∧ J ys W') ∨ (∃ pre, pre <+: sTo wd ht ∧ Jx pre W')) := by
  refine callsIn_of_wp Try.func115 rfl hf ?_ hro
  simp only [Try.ntmps115, List.size_toArray, List.length_cons, List.length_nil, Nat.reduceAdd, Nat.reduceSub, Array.replicate_succ, Array.replicate_zero, List.push_toArray, List.append_toArray, List.nil_append, List.cons_append]
  have cb := areaCells hBn
  gi_wp2
  gi_loopw [7] (fun i wr => ∃ r : Nat, r ≤ ht ∧ i = .int .i64 r ∧ J (sTo wd r) wr ∧ wr.heap[Bn]? = some (.cells #[.int .i64 (wd : Int), .int .i64 (ht : Int)] 115 (0, 0))) (fun i _ => ht - (intOf i).toNat)
  case atStart => exact ⟨0, Nat.zero_le _, rfl, h0, hBn⟩
  case round =>
    obtain ⟨r, hr, rfl, hJr, hbr⟩ := hrel
    by_cases hlt : r < ht
    · have cr := areaCells hbr
      gi_wp2
      gi_loopw [12] (fun i wr => ∃ k : Nat, k ≤ wd ∧ i = .int .i64 k ∧ J (sTo wd r ++ sCol r k) wr ∧ wr.heap[Bn]? = some (.cells #[.int .i64 (wd : Int), .int .i64 (ht : Int)] 115 (0, 0))) (fun i _ => wd - (intOf i).toNat)
      case atStart => exact ⟨0, Nat.zero_le _, rfl, by rw [sCol, List.append_nil]; exact hJr, hbr⟩
      case round =>
        obtain ⟨k, hk, rfl, hJk, hbk⟩ := hrel
        by_cases hltk : k < wd
        · have hlen := spot_pre (W := wd) (H := ht) hlt hltk
          obtain ⟨fn, tmps, assign, body, hy, hR⟩ := hY (sTo wd r ++ sCol r k) (r, k) wr hJk hlen
          dsimp only at hy
          gi_wp2
          refine hR.mono ?_
          rintro e W3 (⟨rfl, hJ3, hk3⟩ | ⟨rfl, hJx3⟩)
          · have hb3 : W3.heap[Bn]? = some (.cells #[.int .i64 (wd : Int), .int .i64 (ht : Int)] 115 (0, 0)) := hk3.trans hbk
            gi_wp2
            go_roundw
            case rel => exact ⟨k + 1, by omega, by go_num, by rw [sCol, ← List.append_assoc]; exact hJ3, hb3⟩
            case measure => simp [intOf]; omega
          · gi_wp2
            refine bodyPost_ret (results_none rfl _ _ _) rfl ?_
            exact ⟨⟨_, rfl⟩, .inr ⟨_, spot_pre hlt hltk, hJx3⟩⟩
        · obtain rfl : k = wd := by omega
          gi_wp2
          go_roundw
          case rel => exact ⟨r + 1, by omega, by go_num, by rw [sTo]; exact hJk, hbk⟩
          case measure => simp [intOf]; omega
    · obtain rfl : r = ht := by omega
      gi_wp2
      go_end0
      exact ⟨⟨_, rfl⟩, .inl ⟨_, rfl, hJr⟩⟩

/-- The spots of an area, given to a loop whose body always goes on. -/
theorem spots_gives (Bn wd ht : Nat) (hwd : wd ≤ 4096) (hht : ht ≤ 4096) (O : Nat → Prop) (w : World) (hBn : w.heap[Bn]? = some (.cells #[.int .i64 (wd : Int), .int .i64 (ht : Int)] 115 (0, 0))) (hOB : ¬ O Bn) :
    Gives Try.prog 115 #[.pointer (some ⟨Bn, 0, none⟩)] (fun x : Nat × Nat => #[.int .i64 (x.1 : Int), .int .i64 (x.2 : Int)]) (sTo wd ht) O w := by
  intro n l J W hW _ hl hOl hwl hJ hY h0
  have hlt : Bn < w.heap.size := (Array.getElem?_eq_some_iff.1 hBn).1
  have hBW : W.heap[Bn]? = some (.cells #[.int .i64 (wd : Int), .int .i64 (ht : Int)] 115 (0, 0)) := (hW.block Bn hlt hOB).trans hBn
  have hltW : Bn < W.heap.size := (Array.getElem?_eq_some_iff.1 hBW).1
  have hn1 : ∀ m, CallsIn Fence.wide m Try.prog 115 (#[.func (.yield l) #[] #[]] ++ #[.pointer (some ⟨Bn, 0, none⟩)]) W (fun e W' => (∃ v, e = .returned v) ∧ J (sTo wd ht) W' ∧ But (fun k => O k ∨ k = l) W W') → CallsIn Fence.wide n Try.prog 115 (#[.func (.yield l) #[] #[]] ++ #[.pointer (some ⟨Bn, 0, none⟩)]) W (fun e W' => (∃ v, e = .returned v) ∧ J (sTo wd ht) W' ∧ But (fun k => O k ∨ k = l) W W') := fun m h => callsIn_wide.2 (callsIn_wide.1 h)
  refine hn1 1 ?_
  refine (spots1_in Fence.wide 1 trivial rfl (Nat.le_refl _) l Bn wd ht hwd hht (fun pre W1 => J pre W1 ∧ But (fun k => O k ∨ k = l) W W1) (fun _ _ => False) ?_ W hBW ⟨h0, But.refl _ _⟩).mono ?_
  · rintro pre x W1 ⟨hj, hb⟩ hlen
    obtain ⟨fn, tmps, assign, body, hy, hR⟩ := hY pre x W1 (1 - 1) hj hb hlen
    refine ⟨fn, tmps, assign, body, hy, hR.mono ?_⟩
    rintro e W' ⟨rfl, hj', hb'⟩
    exact .inl ⟨rfl, ⟨hj', hb.trans hb'⟩, hb'.block Bn (Nat.lt_of_lt_of_le hltW hb.size) (fun e => by rcases e with e | e; exact hOB e; omega)⟩
  · rintro e W' ⟨hv, (⟨ys, rfl, hj, hb⟩ | ⟨pre, _, hf⟩)⟩
    · exact ⟨hv, hj, hb⟩
    · exact hf.elim

/-- What makes the function. -/
theorem spots_in (F : Fence) (n : Nat) (hf : F.fn 101) (hro : F.round = none) (a b : Int) (w : World) :
    CallsIn F n Try.prog 101 #[.agg #[.int .i64 a, .int .i64 b]] w fun e w' => e = .returned (.func (.func 115) #[] #[.pointer (some ⟨w.heap.size, 0, none⟩)]) ∧ w' = w.alloc (.cells #[.int .i64 a, .int .i64 b] 115) := by
  refine callsIn_of_wp Try.func101 rfl hf ?_ hro
  simp only [Try.ntmps101, List.size_toArray, List.length_cons, List.length_nil, Nat.reduceAdd, Nat.reduceSub, Array.replicate_succ, Array.replicate_zero, List.push_toArray, List.append_toArray, List.nil_append, List.cons_append]
  gi_wp2
  go_ret
  exact ⟨rfl, rfl⟩

end Go.Proofs.Ytibgldanmhckiaa

namespace Go.Proofs.Ytibgldanmhckiaa
open Go.RowKit Go.Shelf

section
variable {P : Program} {ops : Array Oper} {md : Region.Mode} {Q : Exit → Act → World → Prop}

def noDefer : List Oper → Bool
  | [] => true
  | o :: r => (match o.op with | .defer _ => false | _ => true) && noDefer r
theorem noDefer_at : ∀ {l : List Oper}, noDefer l = true → ∀ (i : Nat) (o : Oper), l[i]? = some o → ∀ c, o.op ≠ .defer c
  | [], _, i, o, h, _ => by simp at h
  | x :: r, hn, i, o, h, c => by
    simp only [noDefer, Bool.and_eq_true] at hn
    cases i with
    | zero =>
      have e : x = o := by simpa using h
      subst e
      intro e2
      simp [e2] at hn
    | succ i => exact noDefer_at hn.2 i o (by simpa using h) c

theorem rows_round {row : String} {args : Array Value} {w : World} {R : Value → World → Prop} (l n : Nat) (h : Rows P row args w R) : RowsIn (Fence.wide.inRound l) n P row args w R := fun c cs _ => by
  obtain ⟨v, w', r, s⟩ := h c cs
  refine ⟨v, w', r, ?_⟩
  rw [fenced_inRound]
  exact stepsIn_wide.2 s

theorem wpOp_round {l n i : Nat} {K : Act → World → Prop} {a : Act} {w : World} (hnd : ∀ (i : Nat) (o : Oper), ops[i]? = some o → ∀ c, o.op ≠ .defer c) (hQ : ∀ a w, ¬ Q .outgrown a w) (h : wpOp P ops Q i K a w) : wpOpIn (Fence.wide.inRound l) n P ops Q i K a w := by
  unfold wpOp at h
  unfold wpOpIn
  cases ho : ops[i]? with
  | none => simp only [ho] at h; exact h
  | some o =>
    simp only [ho] at h
    by_cases hw : Region.wanted o (yielded ops a.tmps) = true
    · simp only [hw, if_true] at h ⊢
      rcases h with h | ⟨_, a0, w0, hq⟩
      · unfold Oper.wp at h
        refine ⟨fun _ _ => trivial, ?_⟩
        rw [Oper.semAt_eq _ _ _ (hnd i o ho)]
        generalize (execOp a.eval o).run P w = r at h ⊢
        cases r with
        | ok x w' =>
          cases x with
          | enter f args => exact ⟨fun e => by simp [Fence.wide, Fence.inRound] at e, CallsIn.inRound l (callsIn_wide.2 h)⟩
          | row rw' args => exact ⟨fun e => by simp [Fence.wide, Fence.inRound] at e, rows_round l _ h⟩
          | _ => first | exact h | exact h.elim
        | halt x w' => cases x <;> first | exact h | exact h.elim
      · exact (hQ _ _ hq).elim
    · simp only [hw, if_false, Bool.false_eq_true] at h ⊢
      exact ⟨fun _ _ => trivial, h⟩

theorem wpAny_round {l n : Nat} (hnd : ∀ (i : Nat) (o : Oper), ops[i]? = some o → ∀ c, o.op ≠ .defer c) (hQ : ∀ a w, ¬ Q .outgrown a w) : ∀ (fuel : Nat) (listed : Array Bool) (a : Act) (w : World), wpAny P md ops Q fuel listed a w → wpAnyIn (Fence.wide.inRound l) n P md ops Q fuel listed a w
  | 0, _, _, _, h => h
  | fuel + 1, _, _, _, h => ⟨h.1, fun i hi => wpOpIn_mono (fun a' w' h' => wpAny_round hnd hQ fuel _ a' w' h') (wpOp_round hnd hQ (h.2 i hi))⟩
end

/-- A region that draws its order, inside of a round. -/
theorem wpIn_raw {P : Program} {id l0 n : Nat} {Q : Exit → Act → World → Prop} {a : Act} {w : World} {l : List Oper} (S : World → Prop) (ms : List Bool) (hm : P.follows .mixedOrders = true) (hQo : ∀ a w, ¬ Q .outgrown a w) (hQ : ∀ c a d v w, Q (.panic c) (Act.put a d v) w → Q (.panic c) a w)
    (hl : l.length = ms.length) (hnd : noDefer l = true) (hB : (Region.noSelect l.toArray && lexRaw .any l.toArray ms 0 (Array.replicate l.length false)) = true)
    (hS : S w.drew) (h : heldF P l.toArray S (fun a' => wpAnyH P .any l.toArray Q S (leftF ms) (listedOf ms 0 (Array.replicate l.length false)) a' w.drew) l ms a) : (Code.region id l.toArray true).wpIn (Fence.wide.inRound l0) n P Q a w := by
  rw [Bool.and_eq_true] at hB
  have := anyH_raw (P := P) (ops := l.toArray) (md := .any) (S := S) (Q := Q) (leftF ms) hB.1 hQ l ms 0 (Array.replicate l.length false) a w.drew hl (fun j hj => by simp) hB.2 hS h
  rw [count_all ms, ← hl] at this
  refine wpIn_region_any hm (wpAny_round (fun i o ho c => noDefer_at hnd i o (by simpa using ho) c) hQo _ _ _ _ ?_)
  have h2 := wpAny_of_held _ _ _ _ this
  rw [List.size_toArray]
  exact h2

/-- What an iterator gives a loop whose body may also return: all of S, or a beginning of it. -/
def Stops {α : Type} (P : Program) (g : Nat) (lb : Array Value) (encs : α → Array Value) (S : List α) (O : Nat → Prop) (w : World) : Prop :=
  ∀ (n l : Nat) (J : List α → World → Prop) (Jx : World → Prop) (W : World), But O w W → (∀ k, O k → k < W.heap.size) → l < W.heap.size → ¬ O l → w.heap.size ≤ l → LocalJ (fun k => O k ∨ k = l) J →
    (∀ pre x W1 m, J pre W1 → But (fun k => O k ∨ k = l) W W1 → pre ++ [x] <+: S → YieldAt Fence.wide m P l (encs x) W1 fun e W' => ((e = .returned (.bool true) ∧ J (pre ++ [x]) W') ∨ (e = .returned (.bool false) ∧ Jx W')) ∧ But (fun k => O k ∨ k = l) W1 W') → J [] W →
    CallsIn Fence.wide n P g (#[.func (.yield l) #[] #[]] ++ lb) W fun e W' => (∃ v, e = .returned v) ∧ (J S W' ∨ Jx W') ∧ But (fun k => O k ∨ k = l) W W'

/-- How the body of a round is left. -/
def onOrRet (R Rx : World → Prop) : Exit → Act → World → Prop
  | .normal, _, W' => R W'
  | .ret, _, W' => Rx W'
  | _, _, _ => False

theorem rangeFunc_stops {α : Type} {n : Nat} {P : Program} {g : Operand} {ps : Array Tmp} {assign body : Code} {Q : Exit → Act → World → Prop} {a : Act} {w : World}
    {gf : Nat} {lb : Array Value} (hg : a.eval g = .func (.func gf) #[] lb) (eg : ∀ args w, (callFunc gf args).run P w = .ok (.enter gf args) w)
    {encs : α → Array Value} {S : List α} {O : Nat → Prop} (hO : ∀ k, O k → k < w.heap.size) (hG : Stops P gf lb encs S O w) (hps : ∀ x, (encs x).size = ps.size)
    (I : List α → World → Prop) (hI : LocalJ O I) (Ix : World → Prop) (hIx : ∀ W W', Ix W → (∀ k, O k → W'.heap[k]? = W.heap[k]?) → Ix W') (h0 : I [] w) (a₁ : α → Act)
    (hassign : ∀ (l m : Nat) (x : α) (W : World) (K : Act → World → Prop), K (a₁ x) W →
      assign.wpIn (Fence.wide.inRound l) m P (Exit.then K (fun _ _ _ => False)) { tmps := (ps.zip (encs x)).foldl (fun t (p, v) => t.setIfInBounds p v) a.tmps, defers := [] } W)
    (hbody : ∀ (l m : Nat) (pre : List α) (x : α) (W : World), I pre W → But O w W → pre ++ [x] <+: S → body.wpIn (Fence.wide.inRound l) m P (onOrRet (fun W' => I (pre ++ [x]) W' ∧ But O W W') (fun W' => Ix W' ∧ But O W W')) (a₁ x) W)
    (hdone : ∀ (D : Nat) (W : World), w.heap.size ≤ D → I S W → But O w W → W.heap[D]? = some (.deferred (some [])) → Q .normal { a with defers := { target := .collected D, args := #[] } :: a.defers } W)
    (hstop : ∀ (D : Nat) (W : World), w.heap.size ≤ D → Ix W → But O w W → W.heap[D]? = some (.deferred (some [])) → Q .ret { a with defers := { target := .collected D, args := #[] } :: a.defers } W) :
    (Code.rangeFunc g ps assign body).wpIn Fence.wide n P Q a w := by
  refine wpIn_rangeFunc ?_
  intro fn hfn
  obtain ⟨R, hR⟩ : ∃ R : LoopState → Option Code → Loop, R = fun st pe => { state := st, pending := pe, fn, tmps := a.tmps, params := ps, assign, body, defers := w.heap.size } := ⟨_, rfl⟩
  obtain ⟨l, hl⟩ : ∃ l, w.heap.size + 1 = l := ⟨_, rfl⟩
  obtain ⟨W1, hW1⟩ : ∃ W1, (w.alloc (.deferred (some []))).alloc (.loop (R .ready none)) = W1 := ⟨_, rfl⟩
  have hs1 : W1.heap.size = w.heap.size + 2 := by rw [← hW1]; simp
  have hOl : ¬ O l := fun e => by have := hO l e; omega
  have hOD : ¬ O w.heap.size := fun e => by have := hO _ e; omega
  have hL1 : W1.heap[l]? = some (.loop (R .ready none)) := by
    rw [← hW1, ← hl]; have := World.alloc_heap_new (w.alloc (.deferred (some []))) (.loop (R .ready none)); rwa [World.size_alloc] at this
  have hD1 : W1.heap[w.heap.size]? = some (.deferred (some [])) := by
    rw [← hW1]; exact (Below.heap_alloc _ _ _ (by simp)).trans (World.alloc_heap_new w _)
  have b1 : ∀ O', But O' w W1 := fun O' => by
    rw [← hW1]; exact But.of_grown (grown_alloc (grown_alloc (World.grownBy.refl w none) _) _) (fun g e => by cases e)
  have hI1 : I [] W1 := hI _ _ _ h0 (fun k hk => (b1 (fun _ => False)).block k (hO k hk) (fun e => e))
  refine ⟨l, [{ target := .collected w.heap.size, args := #[] }], W1, { target := .fn (.func gf) lb, args := #[.func (.yield l) #[] #[]] }, W1, gf, #[.func (.yield l) #[] #[]] ++ lb, W1, ?_, ?_, fun _ _ => trivial, ?_, (fun h => by simp [Fence.wide] at h), ?_⟩
  · rw [← hW1, ← hl, hR]; exact run_enterLoop_outer _ _ _ _ _
  · simp only [resolve, hg]
    simp [go_sem]
  · simp [invoke, go_sem, eg]
  · have loc : LocalJ (fun k => O k ∨ k = l) (fun pre W => I pre W ∧ W.heap[l]? = some (.loop (R .ready none))) := fun pre W W' h hk => ⟨hI _ _ _ h.1 (fun k ok => hk k (.inl ok)), (hk l (.inr rfl)).trans h.2⟩
    refine (hG (n - 1) l _ (fun W => Ix W ∧ W.heap[l]? = some (.loop (R .done (some .ret)))) W1 (b1 O) (fun k hk => by have := hO k hk; omega) (by omega) hOl (by omega) loc ?_ ⟨hI1, hL1⟩).mono ?_
    · rintro pre x W m ⟨hi, hlW⟩ bW hlen
      have hlt : l < W.heap.size := (Array.getElem?_eq_some_iff.1 hlW).1
      have hy := run_yield (P := P) (args := encs x) hlW (by rw [hR]; exact hps x)
      rw [hR] at hy
      refine ⟨fn, _, assign, body, hy, roundIn_of_wpIn hfn (hassign l m x W _ ⟨_, run_beginRound hlW (by rw [hR]), ?_⟩)⟩
      clear hy
      obtain ⟨W2, hW2⟩ : ∃ W2, W.putObj l (.loop { R .ready none with state := .busy }) = W2 := ⟨_, rfl⟩
      rw [hW2]
      have hl2 : W2.heap[l]? = some (.loop { R .ready none with state := .busy }) := by rw [← hW2]; exact World.putObj_heap_same hlt
      have b2 : But (fun k => O k ∨ k = l) W W2 := by rw [← hW2]; exact But.putObj W l _ (.inr rfl)
      have hi2 : I pre W2 := hI _ _ _ hi (fun k hk => by rw [← hW2]; exact World.putObj_heap_other (fun e => hOl (by rw [← e]; exact hk)))
      have bw2 : But O w W2 := by
        have h := bW.trans b2
        exact ⟨h.os.trans (b1 O).os, h.tape.trans (b1 O).tape, h.output.trans (b1 O).output, Nat.le_trans (b1 O).size h.size, fun k hk ho => (h.block k (by omega) (fun e => by rcases e with e | e; exact ho e; omega)).trans ((b1 O).block k hk ho)⟩
      refine wpIn_mono (hbody l m pre x W2 hi2 bw2 hlen) ?_
      rintro e a3 W3 hp
      cases e with
      | normal =>
        obtain ⟨hi3, b3⟩ := hp
        have hl3 : W3.heap[l]? = some (.loop { R .ready none with state := .busy }) := (b3.block l (Array.getElem?_eq_some_iff.1 hl2).1 hOl).trans hl2
        have hlt3 : l < W3.heap.size := (Array.getElem?_eq_some_iff.1 hl3).1
        have he := run_endRound (P := P) none hl3
        have hi4 : I (pre ++ [x]) (W3.putObj l (.loop (R .ready none))) := hI _ _ _ hi3 (fun k hk => World.putObj_heap_other (fun e => hOl (by rw [← e]; exact hk)))
        have hl4 : (W3.putObj l (.loop (R .ready none))).heap[l]? = some (.loop (R .ready none)) := World.putObj_heap_same hlt3
        refine ⟨_, _, ?_, .inl ⟨rfl, hi4, hl4⟩, (b2.trans (b3.mono (fun k hk => .inl hk))).trans (But.putObj W3 l _ (.inr rfl))⟩
        rw [hR] at he ⊢
        exact he
      | ret =>
        obtain ⟨hi3, b3⟩ := hp
        have hl3 : W3.heap[l]? = some (.loop { R .ready none with state := .busy }) := (b3.block l (Array.getElem?_eq_some_iff.1 hl2).1 hOl).trans hl2
        have hlt3 : l < W3.heap.size := (Array.getElem?_eq_some_iff.1 hl3).1
        have he := run_endRound (P := P) (some .ret) hl3
        have hi4 : Ix (W3.putObj l (.loop (R .done (some .ret)))) := hIx _ _ hi3 (fun k hk => World.putObj_heap_other (fun e => hOl (by rw [← e]; exact hk)))
        have hl4 : (W3.putObj l (.loop (R .done (some .ret)))).heap[l]? = some (.loop (R .done (some .ret))) := World.putObj_heap_same hlt3
        refine ⟨_, _, ?_, .inr ⟨rfl, hi4, hl4⟩, (b2.trans (b3.mono (fun k hk => .inl hk))).trans (But.putObj W3 l _ (.inr rfl))⟩
        rw [hR] at he ⊢
        exact he
      | exit id => exact hp.elim
      | goto t => exact hp.elim
      | panic ch => exact hp.elim
      | outgrown => exact hp.elim
    · rintro e W5 ⟨⟨v, rfl⟩, hor, b5⟩
      have hD5 : W5.heap[w.heap.size]? = some (.deferred (some [])) := (b5.block w.heap.size (by omega) (fun e => by rcases e with e | e; exact hOD e; omega)).trans hD1
      have b6 : ∀ o, But (fun k => O k ∨ k = l) W1 (W5.putObj l o) := fun o => b5.trans (But.putObj W5 l o (.inr rfl))
      have b7 : ∀ o, But O w (W5.putObj l o) := fun o => ⟨(b6 o).os.trans (b1 O).os, (b6 o).tape.trans (b1 O).tape, (b6 o).output.trans (b1 O).output, Nat.le_trans (b1 O).size (b6 o).size, fun k hk ho => ((b6 o).block k (by omega) (fun e => by rcases e with e | e; exact ho e; omega)).trans ((b1 O).block k hk ho)⟩
      rcases hor with ⟨hi5, hl5⟩ | ⟨hi5, hl5⟩
      · have he := run_endLoop (P := P) hl5 (by rw [hR]; simp)
        exact ⟨none, _, by rw [hR] at he; exact he, hdone w.heap.size _ (Nat.le_refl _) (hI _ _ _ hi5 (fun k hk => World.putObj_heap_other (fun e => hOl (by rw [← e]; exact hk)))) (b7 _) ((World.putObj_heap_other (by omega)).trans hD5)⟩
      · have he := run_endLoop (P := P) hl5 (by rw [hR]; simp)
        refine ⟨some .ret, _, by rw [hR] at he; exact he, ?_⟩
        refine wpIn_ret ?_
        exact hstop w.heap.size _ (Nat.le_refl _) (hIx _ _ hi5 (fun k hk => World.putObj_heap_other (fun e => hOl (by rw [← e]; exact hk)))) (b7 _) ((World.putObj_heap_other (by omega)).trans hD5)

end Go.Proofs.Ytibgldanmhckiaa

namespace Go.Proofs.Ytibgldanmhckiaa
open Go.RowKit

end Go.Proofs.Ytibgldanmhckiaa

namespace Go.Proofs.Ytibgldanmhckiaa
open Go.RowKit

theorem load_row {P : Program} {ops : Array Oper} {rest : List Oper} {op : Oper} {a : Act} {w : World} {Q : Exit → Act → World → Prop} (hw : Region.wanted op (yielded ops a.tmps) = true) (ty : TypeId) (x : Operand) (ho : op.op = .load ty x)
    (b : Nat) (hx : a.eval x = .pointer (some ⟨b, 0, none⟩)) (X : Array Value) (t : TypeId) (hb : w.heap[b]? = some (.cells X t (0, 0))) (d : TypeDesc)
    (hu : P.underlying ty = some d) (hd : d.isRow = true) (hi : (P.info? ty).map (·.size) = some X.size)
    (h : wpList P ops Q rest (a.put op.dst (.agg X)) w) : wpList P ops Q (op :: rest) a w :=
  BigFrame.wpList_want hw fun _ hK => wp_load_mid ty x ho b 0 hx X.toList d (fun j v hv => by rw [cell_of_row w b (0 + j) X t (0, 0) hb]; simpa using hv) hu hd (by simpa using hi) (hK _ _ (by simpa using h))
theorem exec_row {P : Program} {ev : Operand → Value} {op : Oper} {w : World} (ty : TypeId) (x : Operand) (ho : op.op = .load ty x) (b : Nat) (hx : ev x = .pointer (some ⟨b, 0, none⟩)) (X : Array Value) (t : TypeId) (hb : w.heap[b]? = some (.cells X t (0, 0))) (d : TypeDesc)
    (hu : P.underlying ty = some d) (hd : (match d with | .struct _ | .array _ _ => true | _ => false) = true) (hi : (P.info? ty).map (·.size) = some X.size) : (execOp ev op).run P w = .ok (.value (.agg X)) w := by
  unfold execOp
  simp only [ho, hx, Instr.loadAt, Instr.sureAddr, Sem.run_bind, Sem.run_pure, Result.andThen_ok, run_loadVar_row w b t ty X (0, 0) d hb hu hd hi]
theorem results_c1 {fn : Func} {p : Tmp} {ty : TypeId} (h : fn.results = #[.cell p ty]) (tmps : Array Value) (P : Program) (w : World) :
    (results fn tmps).run P w = ((asAddr (tmps.getD p undef)).run P w).andThen fun a w₁ => (loadVar ty a).run P w₁ := by
  simp only [results, h]
  simp [Sem.run_bind, Result.andThen]
theorem results_c2 {fn : Func} {p q : Tmp} {ty : TypeId} (h : fn.results = #[.cell p ty, .tmp q]) (tmps : Array Value) (P : Program) (w : World) (g : Nat) (hp : tmps.getD p undef = .pointer (some ⟨g, 0, none⟩)) (x : Value) (hl : (loadVar ty ⟨g, 0, none⟩).run P w = .ok x w) :
    (results fn tmps).run P w = .ok (.tuple #[x, tmps.getD q undef]) w := by
  simp only [results, h]
  have ha : (asAddr (.pointer (some ⟨g, 0, none⟩))).run P w = .ok ⟨g, 0, none⟩ w := by simp [asAddr]
  have hp' : tmps[p]?.getD undef = .pointer (some ⟨g, 0, none⟩) := by simpa using hp
  simp [Sem.run_bind, Result.andThen, hp', hl, ha]
theorem load_mid {P : Program} {ops : Array Oper} {rest : List Oper} {op : Oper} {a : Act} {w : World} {Q : Exit → Act → World → Prop} (hw : Region.wanted op (yielded ops a.tmps) = true) (ty : TypeId) (x : Operand) (ho : op.op = .load ty x)
    (b off : Nat) (hx : a.eval x = .pointer (some ⟨b, off, none⟩)) (X : Array Value) (hb : ∀ j v, X[j]? = some v → w.cell? ⟨b, off + j, none⟩ = some v) (d : TypeDesc)
    (hu : P.underlying ty = some d) (hd : d.isRow = true) (hi : (P.info? ty).map (·.size) = some X.size)
    (h : wpList P ops Q rest (a.put op.dst (.agg X)) w) : wpList P ops Q (op :: rest) a w :=
  BigFrame.wpList_want hw fun _ hK => wp_load_mid ty x ho b off hx X.toList d (fun j v hv => hb j v (by simpa using hv)) hu hd (by simpa using hi) (hK _ _ (by simpa using h))
theorem grown_row (w : World) (g : Nat) (X : Array Value) : w.grownBy (w.setRow g X) (some g) :=
  ⟨rfl, rfl, rfl, by simp [World.setRow], fun k _ hk => setRow_other w g k X (fun e => hk (by simp [e]))⟩
theorem step_store_row {P : Program} {op : Oper} {a : Act} {w : World} {K : Act → World → Prop} {Q : Exit → Act → World → Prop} {t0 : Bool} {Z : Prop} (hw : t0 = true) (ty : TypeId) (x y : Operand) (ho : op.op = .store ty x y)
    (b : Nat) (hx : a.eval x = .pointer (some ⟨b, 0, none⟩)) (X : Array Value) (hy : a.eval y = .agg X) (Y : Array Value) (t : TypeId) (hb : w.heap[b]? = some (.cells Y t (0, 0))) (hYX : Y.size = X.size)
    (hi : (P.info? ty).map (·.size) = some X.size) (h1 : X.all (·.oneCell') = true)
    (h : ∀ w', w'.heap[b]? = some (.cells X t (0, 0)) → w.grownBy w' (some b) → K (a.put op.dst undef) w') : if t0 = true then Oper.wp P op a w K Q else Z := by
  rw [if_pos hw]
  unfold Oper.wp execOp
  simp only [ho, hx, hy, Instr.storeAt, Instr.sureAddr, Sem.run_bind, Sem.run_pure, Result.andThen_ok, run_storeVar_row w b t ty Y X hb hi hYX h1]
  exact h _ (setRow_heap w b Y X t _ hb) (grown_row w b X)
theorem store_row {P : Program} {ops : Array Oper} {rest : List Oper} {op : Oper} {a : Act} {w : World} {Q : Exit → Act → World → Prop} (hw : Region.wanted op (yielded ops a.tmps) = true) (ty : TypeId) (x y : Operand) (ho : op.op = .store ty x y)
    (b : Nat) (hx : a.eval x = .pointer (some ⟨b, 0, none⟩)) (X : Array Value) (hy : a.eval y = .agg X) (Y : Array Value) (t : TypeId) (hb : w.heap[b]? = some (.cells Y t (0, 0))) (hYX : Y.size = X.size)
    (hi : (P.info? ty).map (·.size) = some X.size) (h1 : X.all (·.oneCell') = true)
    (h : ∀ w', w'.heap[b]? = some (.cells X t (0, 0)) → w.grownBy w' (some b) → wpList P ops Q rest (a.put op.dst undef) w') : wpList P ops Q (op :: rest) a w :=
  BigFrame.wpList_want hw fun K hK => by
    unfold Oper.wp execOp
    simp only [ho, hx, hy, Instr.storeAt, Instr.sureAddr, Sem.run_bind, Sem.run_pure, Result.andThen_ok, run_storeVar_row w b t ty Y X hb hi hYX h1]
    exact hK _ _ (h _ (setRow_heap w b Y X t _ hb) (grown_row w b X))

/-- The cells of numbers. -/
def sq (zs : List Int) : Array Value := (zs.map (Value.int .i64)).toArray
theorem sq_size (zs : List Int) : (sq zs).size = zs.length := by simp [sq]
theorem sq_one (zs : List Int) : (sq zs).all (·.oneCell') = true := by simp [sq, Value.oneCell']
theorem sq_at (zs : List Int) (i : Nat) (h : i < zs.length) : (sq zs)[i]? = some (.int .i64 (zs.getD i 0)) := by simp [sq, h]
/-- Sixty-four noughts. -/
def zs64 : List Int := List.replicate 64 0
theorem zs64_len : zs64.length = 64 := by simp [zs64]
theorem sq_z64 : sq zs64 = #[.int .i64 0, .int .i64 0, .int .i64 0, .int .i64 0, .int .i64 0, .int .i64 0, .int .i64 0, .int .i64 0, .int .i64 0, .int .i64 0, .int .i64 0, .int .i64 0, .int .i64 0, .int .i64 0, .int .i64 0, .int .i64 0, .int .i64 0, .int .i64 0, .int .i64 0, .int .i64 0, .int .i64 0, .int .i64 0, .int .i64 0, .int .i64 0, .int .i64 0, .int .i64 0, .int .i64 0, .int .i64 0, .int .i64 0, .int .i64 0, .int .i64 0, .int .i64 0, .int .i64 0, .int .i64 0, .int .i64 0, .int .i64 0, .int .i64 0, .int .i64 0, .int .i64 0, .int .i64 0, .int .i64 0, .int .i64 0, .int .i64 0, .int .i64 0, .int .i64 0, .int .i64 0, .int .i64 0, .int .i64 0, .int .i64 0, .int .i64 0, .int .i64 0, .int .i64 0, .int .i64 0, .int .i64 0, .int .i64 0, .int .i64 0, .int .i64 0, .int .i64 0, .int .i64 0, .int .i64 0, .int .i64 0, .int .i64 0, .int .i64 0, .int .i64 0] := by rfl
/-- A list whose first k numbers are f's. -/
def mix (f : Nat → Int) (zs : List Int) (k : Nat) : List Int := (List.range k).map f ++ zs.drop k
/-- Sixty-four numbers of f. -/
def made (f : Nat → Int) : List Int := (List.range 64).map f
theorem made_len (f : Nat → Int) : (made f).length = 64 := by simp [made]
theorem made_at (f : Nat → Int) (i : Nat) (h : i < 64) : (made f).getD i 0 = f i := by simp [made, h]
theorem made_take (f : Nat → Int) (k : Nat) (h : k < 64) (z : Int) (hz : z = f k) : (made f).take k ++ [z] = (made f).take (k + 1) := by
  subst hz
  rw [List.take_add_one]
  have : (made f)[k]? = some (f k) := by simp [made, h]
  rw [this]
  rfl
theorem made_take_all (f : Nat → Int) : (made f).take 64 = made f := List.take_of_length_le (by rw [made_len]; exact Nat.le_refl _)
theorem mix_zero (f : Nat → Int) (zs : List Int) : mix f zs 0 = zs := by simp [mix]
theorem mix_all (f : Nat → Int) (zs : List Int) (h : zs.length = 64) : mix f zs 64 = made f := by simp [mix, made, List.drop_eq_nil_of_le (Nat.le_of_eq h)]
theorem mix_len (f : Nat → Int) (zs : List Int) (k : Nat) (h : k ≤ zs.length) : (mix f zs k).length = zs.length := by simp [mix]; omega
theorem mix_set (f : Nat → Int) (zs : List Int) (k : Nat) (h : k < zs.length) : (sq (mix f zs k)).setIfInBounds k (.int .i64 (f k)) = sq (mix f zs (k + 1)) := by
  unfold sq mix
  apply Array.ext'
  simp only [List.setIfInBounds_toArray, List.map_append, List.range_succ, List.map_cons, List.map_nil, List.append_assoc]
  rw [List.set_append_right _ _ (by simp), List.drop_eq_getElem_cons h]
  simp only [List.map_cons, List.length_map, List.length_range, Nat.sub_self, List.set_cons_zero, List.cons_append, List.nil_append]
theorem made_congr {f g : Nat → Int} (h : ∀ p, p < 64 → f p = g p) : made f = made g := by
  unfold made
  apply List.map_congr_left
  intro p hp
  exact h p (by simpa using hp)
theorem made_set (f : Nat → Int) (j : Nat) (v : Int) (hj : j < 64) : (sq (made f)).setIfInBounds j (.int .i64 v) = sq (made (fun p => if p = j then v else f p)) := by
  apply Array.ext_getElem?
  intro i
  by_cases hi : i < 64
  · rw [Array.getElem?_setIfInBounds, sq_at _ i (by rw [made_len]; exact hi), sq_at _ i (by rw [made_len]; exact hi), sq_size, made_len, made_at _ i hi, made_at _ i hi]
    by_cases e : j = i
    · subst e; simp [hj]
    · simp [e, Ne.symm e]
  · rw [Array.getElem?_eq_none (by simp [sq_size, made_len]; omega), Array.getElem?_eq_none (by simp [sq_size, made_len]; omega)]
theorem sq_rd {w : World} {b off n : Nat} {zs : List Int} (h : Rd .i64 w (some ⟨b, off, none⟩) n zs) : ∀ j v, (sq zs)[j]? = some v → w.cell? ⟨b, off + j, none⟩ = some v := by
  intro j v hj
  have hjl : j < n := by
    have := (Array.getElem?_eq_some_iff.1 hj).1
    rw [sq_size, h.1] at this; exact this
  obtain ⟨b', off', e, hc⟩ := h.2 j hjl
  simp only [Option.some.injEq, Addr.mk.injEq, and_true] at e
  obtain ⟨rfl, rfl⟩ := e
  rw [hc, ← sq_at zs j (by rw [h.1]; exact hjl), hj]
theorem sq_cell {w : World} {g : Nat} {zs : List Int} {t : TypeId} (hb : w.heap[g]? = some (.cells (sq zs) t (0, 0))) (i : Nat) (h : i < zs.length) : w.cell? ⟨g, i, none⟩ = some (.int .i64 (zs.getD i 0)) := by
  rw [cell_of_row w _ i _ _ (0, 0) hb]; exact sq_at zs i h
theorem sq_frozen {w : World} {g : Nat} {zs : List Int} {t : TypeId} (hb : w.heap[g]? = some (.cells (sq zs) t (0, 0))) (i : Nat) : w.frozen? ⟨g, i, none⟩ = false := frozen_of_row w g i _ _ hb
/-- A number of an array that is held as a value. -/
theorem idx {zs : List Int} (hz : zs.length = 64) (k : Int) (h0 : 0 ≤ k) (h1 : k < 64) (w : World) : (Instr.index 80 (.agg (sq zs)) (.int .i64 k)).run Try.prog w = .ok (.int .i64 (zs.getD k.toNat 0)) w := by
  have h := sq_at zs k.toNat (by omega)
  simp [Instr.index, asIntOf, Sem.run_bind, run_underlying Try.underlying80, run_underlying Try.underlying3, Result.andThen_ok, h0, h1, Go.part, isAgg, h]

/-- One number more behind a row of one's own. -/
theorem append_int {w : World} {ops : Array Oper} {rest : List Oper} {o : Oper} {a : Act} {Q : Exit → Act → World → Prop} (hgd : o.guard = none) (s x : Operand)
    (ho : o.op = .call { callee := .builtin .append, args := #[s, x], argTypes := #[32, 32] })
    (B : World) (v : Value) (n : Nat) (xs : List Int) (hs : a.eval s = v) (hown : w.ownsRow B.heap.size 3 1 v n (xs.map (Value.int .i64))) (z : Int) (hx : a.eval x = .slice (some ⟨w.heap.size, 0, none⟩) 1 1)
    (hb : n + 1 ≤ 1000000) (hB : B.grownBy w none)
    (h : ∀ v' w', w'.ownsRow B.heap.size 3 1 v' (n + 1) ((xs ++ [z]).map (Value.int .i64)) → B.grownBy w' none → wpList Try.prog ops Q rest (a.put o.dst v') w') :
    wpList Try.prog ops Q (o :: rest) a (w.alloc (.cells #[.int .i64 z] 3)) := by
  obtain ⟨i0, hi, hz0, hz1, hz2⟩ := info_parts Try.info3
  refine wpList_append_own _ hgd s x 32 ho B.heap.size 3 i0 (.int .i64 0) 1 8 Try.underlying32 hi hz0 hz1 hz2 rfl (by decide) v n _ hs (hown.alloc _) ⟨w.heap.size, 0, none⟩ 1 1 [.int .i64 z] hx rfl (cell_one_new _ _ _) (by intro u hu; simp at hu; subst hu; rfl) (by unfold maxLen; omega) (by omega) (by have := hB.size; simp; omega) ?_
  intro v' w' h1 h2 _
  refine h v' w' (by rw [List.map_append]; exact h1) (grown_new (grown_alloc hB _) h2 (fun g e => (hown.lt g e).1))

/-- A row of one's own that grows from the block g0 on, all other blocks of S staying as they are. -/
structure OutI (B S : World) (g0 : Nat) (wr : World) (v : Value) (n : Nat) (xs : List Int) : Prop where
  own : wr.ownsRow B.heap.size 3 1 v n (xs.map (Value.int .i64))
  base : B.grownBy wr none
  kept : S.grownBy wr (some g0)
  lies : ∀ g, v.ownBlock = some g → g = g0 ∨ S.heap.size ≤ g
theorem append_out {w : World} {ops : Array Oper} {rest : List Oper} {o : Oper} {a : Act} {Q : Exit → Act → World → Prop} (hgd : o.guard = none) (s x : Operand)
    (ho : o.op = .call { callee := .builtin .append, args := #[s, x], argTypes := #[32, 32] })
    (B S : World) (g0 : Nat) (v : Value) (n : Nat) (xs : List Int) (hs : a.eval s = v) (hown : OutI B S g0 w v n xs) (z : Int) (hx : a.eval x = .slice (some ⟨w.heap.size, 0, none⟩) 1 1)
    (hb : n + 1 ≤ 1000000)
    (h : ∀ v' w', OutI B S g0 w' v' (n + 1) (xs ++ [z]) → wpList Try.prog ops Q rest (a.put o.dst v') w') :
    wpList Try.prog ops Q (o :: rest) a (w.alloc (.cells #[.int .i64 z] 3)) := by
  obtain ⟨i0, hi, hz0, hz1, hz2⟩ := info_parts Try.info3
  refine wpList_append_own_at _ hgd s x 32 ho B.heap.size 3 i0 (.int .i64 0) 1 8 Try.underlying32 hi hz0 hz1 hz2 rfl (by decide) v n _ hs (hown.own.alloc _) ⟨w.heap.size, 0, none⟩ 1 1 [.int .i64 z] hx rfl (cell_one_new _ _ _) (by intro u hu; simp at hu; subst hu; rfl) (by unfold maxLen; omega) (by omega) (by have := hown.base.size; simp; omega) ?_
  intro v' w' h1 h2 _ h4
  have hsz := hown.kept.size
  refine h v' w' ⟨by rw [List.map_append]; exact h1, grown_new (grown_alloc hown.base _) h2 (fun g e => (hown.own.lt g e).1), ?_, ?_⟩
  · have hA : S.grownBy (w.alloc (.cells #[.int .i64 z] 3)) (some g0) := grown_trans hown.kept (World.grownBy_alloc _ _ _)
    refine ⟨h2.os.trans hA.os, h2.tape.trans hA.tape, h2.output.trans hA.output, Nat.le_trans hA.size h2.size, fun k hk hne => (h2.block k (Nat.lt_of_lt_of_le hk hA.size) ?_).trans (hA.block k hk hne)⟩
    intro e
    rcases hown.lies k e.symm with e2 | e2
    · exact hne (by rw [e2])
    · omega
  · intro g e
    rcases h4 with h4 | h4
    · exact hown.lies g (by rw [← h4]; exact e)
    · rw [h4] at e
      simp at e
      right; omega

/-- Squares compared. -/
theorem eqSq {zs ys : List Int} (hz : zs.length = 64) (hy : ys.length = 64) (w : World) : (Op.equalIn 10000 80 (.agg (sq zs)) (.agg (sq ys))).run Try.prog w = .ok (zs == ys) w := by
  obtain ⟨i0, hi, _⟩ := info_parts Try.info3
  rw [run_equalIn_array w 9999 (sq zs) (sq ys) Try.underlying80 hi]
  have hc : Try.prog.cellsOf 3 = 1 := by kernel_rfl
  rw [hc]
  have key : ∀ (l : List Nat), (∀ i ∈ l, i < 64) → (Op.eqItems 9999 3 1 (sq zs) (sq ys) l).run Try.prog w = .ok (l.all fun i => zs.getD i 0 == ys.getD i 0) w := by
    intro l hl
    induction l with
    | nil => simp [Op.eqItems]
    | cons i l ih =>
      have hi : i < 64 := hl i (by simp)
      have h1 := sq_at zs i (by omega)
      have h2 := sq_at ys i (by omega)
      have px : (Go.part 3 (sq zs) (i * 1)).run Try.prog w = .ok (.int .i64 (zs.getD i 0)) w := by
        rw [Nat.mul_one]; simp [Go.part, isAgg, run_underlying Try.underlying3, h1]
      have py : (Go.part 3 (sq ys) (i * 1)).run Try.prog w = .ok (.int .i64 (ys.getD i 0)) w := by
        rw [Nat.mul_one]; simp [Go.part, isAgg, run_underlying Try.underlying3, h2]
      simp only [Op.eqItems, Sem.run_bind, px, py, Result.andThen_ok, run_equalIn_int w 9998 3 .i64 .i64 _ _ Try.underlying3, List.all_cons]
      cases hb : (zs.getD i 0 == ys.getD i 0)
      · simp
      · simp only [Bool.not_true, Bool.false_eq_true, if_false, Bool.true_and]
        exact ih fun j hj => hl j (by simp [hj])
  rw [key _ (fun i hi => by simpa using hi)]
  refine congrArg (fun b => Result.ok b w) ?_
  generalize hN : (64 : Nat) = N at *
  rw [Bool.eq_iff_iff]
  simp only [List.all_eq_true, List.mem_range, beq_iff_eq]
  constructor
  · intro h
    apply List.ext_getElem?
    intro i
    by_cases hi : i < N
    · have := h i hi
      rw [List.getElem?_eq_getElem (by omega), List.getElem?_eq_getElem (by omega)]
      simpa [List.getD_eq_getElem?_getD, show i < zs.length by omega, show i < ys.length by omega] using this
    · rw [List.getElem?_eq_none (by omega), List.getElem?_eq_none (by omega)]
  · rintro rfl i _; rfl

end Go.Proofs.Ytibgldanmhckiaa

namespace Go.Proofs.Ytibgldanmhckiaa
open Go.RowKit

set_option maxRecDepth 20000 in
set_option maxHeartbeats 800000 in
theorem each (zs : List Int) (hz : zs.length = 64) (f : Nat → Int) (g : Nat) (lb : Array Value) (eg : ∀ args w, (callFunc g args).run Try.prog w = .ok (.enter g args) w) (w : World)
    (HC : Hid (∀ k, k < 64 → ∀ W, w.grownBy W none → Calls Try.prog g (#[.int .i64 (zs.getD k 0)] ++ lb) W fun e W' => e = .returned (.int .i64 (f k)) ∧ W.grownBy W' none)) :
    Calls Try.prog 103 #[.agg (sq zs), .func (.func g) #[] lb] w fun e w' => e = .returned (.agg (sq (made f))) ∧ w.grownBy w' none := by
  have hs : (sq zs).size = 64 := by rw [sq_size, hz]
  obtain ⟨W0, hW0⟩ : ∃ W0, ((w.alloc (.cells (sq zs) 80)).alloc (.cells #[.int .i64 0, .int .i64 0, .int .i64 0, .int .i64 0, .int .i64 0, .int .i64 0, .int .i64 0, .int .i64 0, .int .i64 0, .int .i64 0, .int .i64 0, .int .i64 0, .int .i64 0, .int .i64 0, .int .i64 0, .int .i64 0, .int .i64 0, .int .i64 0, .int .i64 0, .int .i64 0, .int .i64 0, .int .i64 0, .int .i64 0, .int .i64 0, .int .i64 0, .int .i64 0, .int .i64 0, .int .i64 0, .int .i64 0, .int .i64 0, .int .i64 0, .int .i64 0, .int .i64 0, .int .i64 0, .int .i64 0, .int .i64 0, .int .i64 0, .int .i64 0, .int .i64 0, .int .i64 0, .int .i64 0, .int .i64 0, .int .i64 0, .int .i64 0, .int .i64 0, .int .i64 0, .int .i64 0, .int .i64 0, .int .i64 0, .int .i64 0, .int .i64 0, .int .i64 0, .int .i64 0, .int .i64 0, .int .i64 0, .int .i64 0, .int .i64 0, .int .i64 0, .int .i64 0, .int .i64 0, .int .i64 0, .int .i64 0, .int .i64 0, .int .i64 0] 80)) = W0 := ⟨_, rfl⟩
  have b0 : W0.heap[w.heap.size]? = some (.cells (sq zs) 80 (0, 0)) := by
    rw [← hW0, Below.heap_alloc _ _ _ (by simp)]
    exact heap_alloc_new w _
  have b1 : W0.heap[w.heap.size + 1]? = some (.cells (sq zs64) 80 (0, 0)) := by
    rw [← hW0, sq_z64]
    have := heap_alloc_new (w.alloc (.cells (sq zs) 80)) (.cells #[.int .i64 0, .int .i64 0, .int .i64 0, .int .i64 0, .int .i64 0, .int .i64 0, .int .i64 0, .int .i64 0, .int .i64 0, .int .i64 0, .int .i64 0, .int .i64 0, .int .i64 0, .int .i64 0, .int .i64 0, .int .i64 0, .int .i64 0, .int .i64 0, .int .i64 0, .int .i64 0, .int .i64 0, .int .i64 0, .int .i64 0, .int .i64 0, .int .i64 0, .int .i64 0, .int .i64 0, .int .i64 0, .int .i64 0, .int .i64 0, .int .i64 0, .int .i64 0, .int .i64 0, .int .i64 0, .int .i64 0, .int .i64 0, .int .i64 0, .int .i64 0, .int .i64 0, .int .i64 0, .int .i64 0, .int .i64 0, .int .i64 0, .int .i64 0, .int .i64 0, .int .i64 0, .int .i64 0, .int .i64 0, .int .i64 0, .int .i64 0, .int .i64 0, .int .i64 0, .int .i64 0, .int .i64 0, .int .i64 0, .int .i64 0, .int .i64 0, .int .i64 0, .int .i64 0, .int .i64 0, .int .i64 0, .int .i64 0, .int .i64 0, .int .i64 0] 80)
    simpa using this
  have hsz : W0.heap.size = w.heap.size + 2 := by rw [← hW0]; simp
  have G0 : Hid (w.grownBy W0 none) := by rw [← hW0]; exact grown_alloc (grown_alloc (World.grownBy.refl _ _) _) _
  have HW := hide hW0
  have B0 := hide b0
  have B1 := hide b1
  have HS := hide hs
  have HZ := hide hz
  clear hW0 b0 b1 hz
  go_enter Try.func103, Try.ntmps103
  go_wp2_with (rw [unhide HW]; refine load_row rfl 80 _ rfl w.heap.size rfl (sq zs) 80 (unhide B0) _ Try.underlying80 rfl (by rw [unhide HS]; kernel_rfl) ?_)
  clear HW hs
  go_loopw [8] (fun i wr => ∃ k : Nat, k ≤ 64 ∧ i = .int .i64 k ∧ wr.heap[w.heap.size]? = some (.cells (sq (mix f zs k)) 80 (0, 0)) ∧ W0.grownBy wr (some w.heap.size)) (fun i _ => 64 - (intOf i).toNat)
  case atStart => exact ⟨0, Nat.zero_le _, rfl, by rw [mix_zero]; exact unhide B0, World.grownBy.refl _ _⟩
  case round =>
    obtain ⟨k, hk, rfl, hM, hgk⟩ := hrel
    by_cases hlt : k < 64
    · have hat := fun w => idx (unhide HZ) (k : Int) (by omega) (by omega) w
      simp only [Int.toNat_natCast] at hat
      have hl : (mix f zs k).length = 64 := (mix_len f zs k (by have := unhide HZ; omega)).trans (unhide HZ)
      have G1 : Hid (w.grownBy wr none) := grown_new (unhide G0) hgk (fun g e => by simp at e; omega)
      go_wp2_with fail
      refine (unhide HC k hlt wr (unhide G1)).mono ?_
      rintro e W2 ⟨rfl, g2⟩
      have hM2 := (g2.block w.heap.size (by have := hgk.size; omega) (by simp)).trans hM
      have c2 := sq_cell hM2 k (by omega)
      have f2 := sq_frozen hM2 k
      have hM3 := heap_setCell_same W2 w.heap.size k _ _ (.int .i64 (f k)) hM2
      rw [mix_set f zs k (by have := unhide HZ; omega)] at hM3
      have hg3 := grown_trans (grown_trans hgk (grown_any g2)) (grown_set W2 w.heap.size k (.int .i64 (f k)))
      have H3 := hide hM3
      have HG3 := hide hg3
      clear hM hM2 hM3 hg3 hgk g2 hat
      go_wp2
      go_roundw
      case rel => exact ⟨k + 1, by omega, by go_num, unhide H3, unhide HG3⟩
      case measure => simp [intOf]; omega
    · obtain rfl : k = 64 := by omega
      rw [mix_all f zs (unhide HZ)] at hM
      have hbr := (hgk.block (w.heap.size + 1) (by omega) (by simp)).trans (unhide B1)
      have hms : (sq (made f)).size = 64 := by rw [sq_size, made_len]
      have HM := hide hM
      have HBR := hide hbr
      have HMS := hide hms
      clear hM hbr hms
      go_wp2_with (first | (refine load_row rfl 80 _ rfl w.heap.size rfl (sq (made f)) 80 (unhide HM) _ Try.underlying80 rfl (by rw [unhide HMS]; kernel_rfl) ?_) | (refine store_row rfl 80 _ _ rfl (w.heap.size + 1) rfl (sq (made f)) rfl (sq zs64) 80 (unhide HBR) (by rw [unhide HMS, sq_size, zs64_len]) (by rw [unhide HMS]; kernel_rfl) (sq_one _) ?_; intro w3 hB3 g3))
      refine bodyPost_ret (v := .agg (sq (made f))) ?_ rfl ⟨rfl, ?_⟩
      · rw [results_c1 rfl]
        exact run_loadVar_row w3 _ 80 80 _ (0, 0) _ hB3 Try.underlying80 rfl (by rw [unhide HMS]; kernel_rfl)
      · exact grown_new (grown_new (unhide G0) hgk (fun g e => by simp at e; omega)) g3 (fun g e => by simp at e; omega)

theorem ints_one (zs : List Int) : ∀ u ∈ zs.map (Value.int .i64), u.oneCell' = true := by
  intro u hu
  obtain ⟨y, _, rfl⟩ := List.mem_map.1 hu
  rfl
theorem rd_newsI {w : World} {x : Addr} {m : Nat} {zs : List Int} (h : Rd .i64 w (some x) m zs) : ∀ j u, (zs.map (Value.int .i64))[j]? = some u → w.cell? (x.add j) = some u := by
  intro j u hj
  have hl := h.1
  have hjl : j < m := by
    have := (List.getElem?_eq_some_iff.1 hj).1
    simp at this; omega
  obtain ⟨b, off, e, hc⟩ := h.2 j hjl
  simp only [Option.some.injEq] at e
  subst e
  rw [Addr.add_lit, hc]
  rw [List.getElem?_map] at hj
  have hj2 : j < zs.length := by omega
  simp [hj2] at hj ⊢
  exact hj

set_option maxRecDepth 20000 in
theorem clone (ad : Addr) (cap : Nat) (zs : List Int) (w : World) (hr : Rd .i64 w (some ad) 64 zs) :
    Calls Try.prog 88 #[.slice (some ad) 64 cap] w fun e w' => ∃ v, e = .returned v ∧ w'.ownsRow w.heap.size 3 1 v 64 (zs.map (Value.int .i64)) ∧ w.grownBy w' none := by
  obtain ⟨i0, hi, hz0, hz1, hz2⟩ := info_parts Try.info3
  have HR := hide hr
  clear hr
  have hne : ∀ w, (binOp .eql 32 (.slice (some ad) 64 cap) (.slice none 0 0)).run Try.prog w = .ok (.bool false) w := fun w => by kernel_rfl
  go_enter Try.func88, Try.ntmps88
  go_wp2_with (at_builtin; refine wpList_append_own _ rfl _ _ 32 rfl w.heap.size 3 i0 (.int .i64 0) 1 8 Try.underlying32 hi hz0 hz1 hz2 rfl (by decide) _ 0 [] rfl (World.ownsRow_lit w #[] 0 (Nat.le_refl _) (by decide) rfl) ad 64 cap (zs.map (Value.int .i64)) rfl (by simp [(unhide HR).1]) (rd_newsI ((unhide HR).grown (World.grownBy_alloc _ _ _))) (ints_one zs) (by decide) (by decide) (by simp) ?_)
  intro v' w' hown hg _
  go_wp2
  go_ret
  exact ⟨_, rfl, hown, grown_new (World.grownBy_alloc _ _ _) hg (fun g e => by simp [Value.ownBlock] at e; omega)⟩

theorem list (zs : List Int) (hz : zs.length = 64) (w : World) :
    Calls Try.prog 55 #[.agg (sq zs)] w fun e w' => ∃ v, e = .returned v ∧ w'.ownsRow w.heap.size 3 1 v 64 (zs.map (Value.int .i64)) ∧ w.grownBy w' none := by
  have hr : Rd .i64 (w.alloc (.cells (sq zs) 80)) (some ⟨w.heap.size, 0, none⟩) 64 zs :=
    ⟨hz, fun i hi => ⟨_, _, rfl, by rw [Nat.zero_add]; exact sq_cell (heap_alloc_new w _) i (by omega)⟩⟩
  go_enter Try.func55, Try.ntmps55
  go_wp2_with fail
  refine (clone _ _ zs _ hr).mono ?_
  rintro e w1 ⟨v, rfl, ho, hg⟩
  go_wp2
  go_ret
  exact ⟨_, rfl, own_base ho (by simp), grown_trans (grown_alloc (World.grownBy.refl _ _) _) hg⟩

end Go.Proofs.Ytibgldanmhckiaa

namespace Go.Proofs.Ytibgldanmhckiaa
open Go.RowKit Go.Shelf

theorem z64_one : (#[.int .i64 0, .int .i64 0, .int .i64 0, .int .i64 0, .int .i64 0, .int .i64 0, .int .i64 0, .int .i64 0, .int .i64 0, .int .i64 0, .int .i64 0, .int .i64 0, .int .i64 0, .int .i64 0, .int .i64 0, .int .i64 0, .int .i64 0, .int .i64 0, .int .i64 0, .int .i64 0, .int .i64 0, .int .i64 0, .int .i64 0, .int .i64 0, .int .i64 0, .int .i64 0, .int .i64 0, .int .i64 0, .int .i64 0, .int .i64 0, .int .i64 0, .int .i64 0, .int .i64 0, .int .i64 0, .int .i64 0, .int .i64 0, .int .i64 0, .int .i64 0, .int .i64 0, .int .i64 0, .int .i64 0, .int .i64 0, .int .i64 0, .int .i64 0, .int .i64 0, .int .i64 0, .int .i64 0, .int .i64 0, .int .i64 0, .int .i64 0, .int .i64 0, .int .i64 0, .int .i64 0, .int .i64 0, .int .i64 0, .int .i64 0, .int .i64 0, .int .i64 0, .int .i64 0, .int .i64 0, .int .i64 0, .int .i64 0, .int .i64 0, .int .i64 0] : Array Value).all (·.oneCell') = true := by rw [← sq_z64]; exact sq_one _

set_option maxRecDepth 20000 in
set_option maxHeartbeats 800000 in
/-- A list that is no square. -/
theorem fixSquare_no (ao : Option Addr) (n cap : Nat) (g : Value) (w : World) (h : n ≠ 64) :
    Calls Try.prog 76 #[.slice ao n cap, g] w fun e w' => e = .returned (.tuple #[.agg (sq zs64), .bool false]) ∧ w.grownBy w' none := by
  have hne : ((n : Int) != 64) = true := by simp; omega
  clear h
  go_enter Try.func76, Try.ntmps76
  go_wp2_with (refine store_row rfl 80 _ _ rfl w.heap.size rfl #[.int .i64 0, .int .i64 0, .int .i64 0, .int .i64 0, .int .i64 0, .int .i64 0, .int .i64 0, .int .i64 0, .int .i64 0, .int .i64 0, .int .i64 0, .int .i64 0, .int .i64 0, .int .i64 0, .int .i64 0, .int .i64 0, .int .i64 0, .int .i64 0, .int .i64 0, .int .i64 0, .int .i64 0, .int .i64 0, .int .i64 0, .int .i64 0, .int .i64 0, .int .i64 0, .int .i64 0, .int .i64 0, .int .i64 0, .int .i64 0, .int .i64 0, .int .i64 0, .int .i64 0, .int .i64 0, .int .i64 0, .int .i64 0, .int .i64 0, .int .i64 0, .int .i64 0, .int .i64 0, .int .i64 0, .int .i64 0, .int .i64 0, .int .i64 0, .int .i64 0, .int .i64 0, .int .i64 0, .int .i64 0, .int .i64 0, .int .i64 0, .int .i64 0, .int .i64 0, .int .i64 0, .int .i64 0, .int .i64 0, .int .i64 0, .int .i64 0, .int .i64 0, .int .i64 0, .int .i64 0, .int .i64 0, .int .i64 0, .int .i64 0, .int .i64 0] rfl #[.int .i64 0, .int .i64 0, .int .i64 0, .int .i64 0, .int .i64 0, .int .i64 0, .int .i64 0, .int .i64 0, .int .i64 0, .int .i64 0, .int .i64 0, .int .i64 0, .int .i64 0, .int .i64 0, .int .i64 0, .int .i64 0, .int .i64 0, .int .i64 0, .int .i64 0, .int .i64 0, .int .i64 0, .int .i64 0, .int .i64 0, .int .i64 0, .int .i64 0, .int .i64 0, .int .i64 0, .int .i64 0, .int .i64 0, .int .i64 0, .int .i64 0, .int .i64 0, .int .i64 0, .int .i64 0, .int .i64 0, .int .i64 0, .int .i64 0, .int .i64 0, .int .i64 0, .int .i64 0, .int .i64 0, .int .i64 0, .int .i64 0, .int .i64 0, .int .i64 0, .int .i64 0, .int .i64 0, .int .i64 0, .int .i64 0, .int .i64 0, .int .i64 0, .int .i64 0, .int .i64 0, .int .i64 0, .int .i64 0, .int .i64 0, .int .i64 0, .int .i64 0, .int .i64 0, .int .i64 0, .int .i64 0, .int .i64 0, .int .i64 0, .int .i64 0] 80 (heap_alloc_new _ _) rfl (by kernel_rfl) z64_one ?_; intro w3 hB3 g3)
  rw [← sq_z64] at hB3
  refine bodyPost_ret (v := .tuple #[.agg (sq zs64), .bool false]) ?_ rfl ⟨rfl, ?_⟩
  · exact results_c2 (p := 4) (q := 5) (ty := 80) rfl _ _ _ w.heap.size rfl _ (run_loadVar_row w3 _ 80 80 _ (0, 0) _ hB3 Try.underlying80 rfl (by rw [sq_size, zs64_len]; kernel_rfl))
  · exact grown_new (World.grownBy_alloc _ _ _) g3 (fun g e => by simp at e; omega)

set_option maxRecDepth 20000 in
set_option maxHeartbeats 800000 in
/-- A list as a square, and whether f leaves each of its numbers. -/
theorem fixSquare_yes (b off cap : Nat) (zs : List Int) (w : World) (hr : Rd .i64 w (some ⟨b, off, none⟩) 64 zs) (f : Nat → Int) (g : Nat) (lb : Array Value) (eg : ∀ args w, (callFunc g args).run Try.prog w = .ok (.enter g args) w)
    (HC : Hid (∀ k, k < 64 → ∀ W, w.grownBy W none → Calls Try.prog g (#[.int .i64 (zs.getD k 0)] ++ lb) W fun e W' => e = .returned (.int .i64 (f k)) ∧ W.grownBy W' none)) :
    Calls Try.prog 76 #[.slice (some ⟨b, off, none⟩) 64 cap, .func (.func g) #[] lb] w fun e w' => e = .returned (.tuple #[.agg (sq zs), .bool (zs == made f)]) ∧ w.grownBy w' none := by
  have hz : zs.length = 64 := hr.1
  have HR := hide hr
  clear hr
  have HZ := hide hz
  clear hz
  have har : ∀ w, (Instr.arrayAt 80 (.slice (some ⟨b, off, none⟩) 64 cap)).run Try.prog w = .ok (.pointer (some ⟨b, off, none⟩)) w := fun w => by kernel_rfl
  have HSL : Hid ((sq zs).size = 64) := by unfold Hid; rw [sq_size, unhide HZ]
  have HLD : ∀ (w : World) (g : Nat), w.heap[g]? = some (.cells (sq zs) 80 (0, 0)) → (loadVar 80 ⟨g, 0, none⟩).run Try.prog w = .ok (.agg (sq zs)) w := fun w g h => run_loadVar_row w g 80 80 _ (0, 0) _ h Try.underlying80 rfl (by rw [unhide HSL]; kernel_rfl)
  have HLD' := hide HLD
  clear HLD
  obtain ⟨W0, hW0⟩ : ∃ W0, (w.alloc (.cells #[.int .i64 0, .int .i64 0, .int .i64 0, .int .i64 0, .int .i64 0, .int .i64 0, .int .i64 0, .int .i64 0, .int .i64 0, .int .i64 0, .int .i64 0, .int .i64 0, .int .i64 0, .int .i64 0, .int .i64 0, .int .i64 0, .int .i64 0, .int .i64 0, .int .i64 0, .int .i64 0, .int .i64 0, .int .i64 0, .int .i64 0, .int .i64 0, .int .i64 0, .int .i64 0, .int .i64 0, .int .i64 0, .int .i64 0, .int .i64 0, .int .i64 0, .int .i64 0, .int .i64 0, .int .i64 0, .int .i64 0, .int .i64 0, .int .i64 0, .int .i64 0, .int .i64 0, .int .i64 0, .int .i64 0, .int .i64 0, .int .i64 0, .int .i64 0, .int .i64 0, .int .i64 0, .int .i64 0, .int .i64 0, .int .i64 0, .int .i64 0, .int .i64 0, .int .i64 0, .int .i64 0, .int .i64 0, .int .i64 0, .int .i64 0, .int .i64 0, .int .i64 0, .int .i64 0, .int .i64 0, .int .i64 0, .int .i64 0, .int .i64 0, .int .i64 0] 80)).alloc (.cells #[.int .i64 0, .int .i64 0, .int .i64 0, .int .i64 0, .int .i64 0, .int .i64 0, .int .i64 0, .int .i64 0, .int .i64 0, .int .i64 0, .int .i64 0, .int .i64 0, .int .i64 0, .int .i64 0, .int .i64 0, .int .i64 0, .int .i64 0, .int .i64 0, .int .i64 0, .int .i64 0, .int .i64 0, .int .i64 0, .int .i64 0, .int .i64 0, .int .i64 0, .int .i64 0, .int .i64 0, .int .i64 0, .int .i64 0, .int .i64 0, .int .i64 0, .int .i64 0, .int .i64 0, .int .i64 0, .int .i64 0, .int .i64 0, .int .i64 0, .int .i64 0, .int .i64 0, .int .i64 0, .int .i64 0, .int .i64 0, .int .i64 0, .int .i64 0, .int .i64 0, .int .i64 0, .int .i64 0, .int .i64 0, .int .i64 0, .int .i64 0, .int .i64 0, .int .i64 0, .int .i64 0, .int .i64 0, .int .i64 0, .int .i64 0, .int .i64 0, .int .i64 0, .int .i64 0, .int .i64 0, .int .i64 0, .int .i64 0, .int .i64 0, .int .i64 0] 80) = W0 := ⟨_, rfl⟩
  have G0 : w.grownBy W0 none := by rw [← hW0]; exact grown_alloc (World.grownBy_alloc _ _ _) _
  have b0 : W0.heap[w.heap.size]? = some (.cells (sq zs64) 80 (0, 0)) := by rw [← hW0, sq_z64, Below.heap_alloc _ _ _ (by simp)]; exact heap_alloc_new w _
  have b1 : W0.heap[w.heap.size + 1]? = some (.cells (sq zs64) 80 (0, 0)) := by
    rw [← hW0, sq_z64]
    have := heap_alloc_new (w.alloc (.cells #[.int .i64 0, .int .i64 0, .int .i64 0, .int .i64 0, .int .i64 0, .int .i64 0, .int .i64 0, .int .i64 0, .int .i64 0, .int .i64 0, .int .i64 0, .int .i64 0, .int .i64 0, .int .i64 0, .int .i64 0, .int .i64 0, .int .i64 0, .int .i64 0, .int .i64 0, .int .i64 0, .int .i64 0, .int .i64 0, .int .i64 0, .int .i64 0, .int .i64 0, .int .i64 0, .int .i64 0, .int .i64 0, .int .i64 0, .int .i64 0, .int .i64 0, .int .i64 0, .int .i64 0, .int .i64 0, .int .i64 0, .int .i64 0, .int .i64 0, .int .i64 0, .int .i64 0, .int .i64 0, .int .i64 0, .int .i64 0, .int .i64 0, .int .i64 0, .int .i64 0, .int .i64 0, .int .i64 0, .int .i64 0, .int .i64 0, .int .i64 0, .int .i64 0, .int .i64 0, .int .i64 0, .int .i64 0, .int .i64 0, .int .i64 0, .int .i64 0, .int .i64 0, .int .i64 0, .int .i64 0, .int .i64 0, .int .i64 0, .int .i64 0, .int .i64 0] 80)) (.cells #[.int .i64 0, .int .i64 0, .int .i64 0, .int .i64 0, .int .i64 0, .int .i64 0, .int .i64 0, .int .i64 0, .int .i64 0, .int .i64 0, .int .i64 0, .int .i64 0, .int .i64 0, .int .i64 0, .int .i64 0, .int .i64 0, .int .i64 0, .int .i64 0, .int .i64 0, .int .i64 0, .int .i64 0, .int .i64 0, .int .i64 0, .int .i64 0, .int .i64 0, .int .i64 0, .int .i64 0, .int .i64 0, .int .i64 0, .int .i64 0, .int .i64 0, .int .i64 0, .int .i64 0, .int .i64 0, .int .i64 0, .int .i64 0, .int .i64 0, .int .i64 0, .int .i64 0, .int .i64 0, .int .i64 0, .int .i64 0, .int .i64 0, .int .i64 0, .int .i64 0, .int .i64 0, .int .i64 0, .int .i64 0, .int .i64 0, .int .i64 0, .int .i64 0, .int .i64 0, .int .i64 0, .int .i64 0, .int .i64 0, .int .i64 0, .int .i64 0, .int .i64 0, .int .i64 0, .int .i64 0, .int .i64 0, .int .i64 0, .int .i64 0, .int .i64 0] 80)
    simpa using this
  have s0 : W0.heap.size = w.heap.size + 2 := by rw [← hW0]; simp
  have HW := hide hW0
  have B0 := hide b0
  have B1 := hide b1
  have HG0 := hide G0
  clear hW0 b0 b1 G0
  go_enter Try.func76, Try.ntmps76
  go_wp2_with (first | (refine load_mid rfl 80 _ rfl b off rfl (sq zs) (sq_rd ((unhide HR).grown (World.grownBy_alloc _ _ _))) _ Try.underlying80 rfl (by rw [unhide HSL]; kernel_rfl) ?_) | (rw [unhide HW]; clear HW; refine store_row rfl 80 _ _ rfl (w.heap.size + 1) rfl (sq zs) rfl (sq zs64) 80 (unhide B1) (by rw [unhide HSL, sq_size, zs64_len]) (by rw [unhide HSL]; kernel_rfl) (sq_one zs) ?_; intro w3 hB3 g3))
  have hG3 : w.grownBy w3 none := grown_new (unhide HG0) g3 (fun g e => by simp at e; omega)
  have hR3 := (g3.block w.heap.size (by omega) (by simp)).trans (unhide B0)
  have s3 := g3.size
  have HSQ := hide (eqSq (zs := zs) (ys := made f) (unhide HZ) (made_len f))
  refine wp_region_noPanic ?_
  refine wp_region_raw (fun w' => w'.heap[w.heap.size + 1]? = some (.cells (sq zs) 80 (0, 0))) [true, true, true, true, false, false, false, false] (by kernel_rfl) (fun _ _ _ _ _ h => h) rfl (by kernel_rfl) hB3 ?_
  iterate 3
    refine heldF_take (v := .agg (sq zs)) (Or.inl ⟨by rfl, ?_⟩) ?_
    · intro w' hSw
      exact exec_row 80 _ rfl (w.heap.size + 1) rfl (sq zs) 80 hSw _ Try.underlying80 rfl (by rw [unhide HSL]; kernel_rfl)
    simp only [Act.put, List.setIfInBounds_toArray, List.set_cons_zero, List.set_cons_succ]
  refine heldF_take (v := ?_) (Or.inl ⟨by rfl, ?_⟩) ?_
  rotate_left 1
  · intro w' hSw
    go_simp
    try with_reducible rfl
  simp only [Act.put, List.setIfInBounds_toArray, List.set_cons_zero, List.set_cons_succ]
  refine heldF_skip (heldF_skip (heldF_skip (heldF_skip (heldF_nil ?_))))
  refine anyH_step1 (i := 4) rfl (by kernel_rfl) (fun K hK => ?_)
  go_simp
  refine (each zs (unhide HZ) f g lb eg _ (fun k hk W hW => unhide HC k hk W (grown_trans (grown_drew hG3) hW))).mono ?_
  rintro e w4 ⟨rfl, g4⟩
  have hB4 := (g4.block (w.heap.size + 1) (by show w.heap.size + 1 < w3.heap.size; omega) (by simp)).trans hB3
  have hR4 := (g4.block w.heap.size (by show w.heap.size < w3.heap.size; omega) (by simp)).trans hR3
  have hG4 : w.grownBy w4 none := grown_trans (grown_drew hG3) g4
  refine hK.out _ _ hB4 ?_
  clear hK K
  try simp only [Act.put, List.setIfInBounds_toArray, List.set_cons_zero, List.set_cons_succ]
  refine anyH_step2 (i := 5) (j := 6) rfl rfl (by kernel_rfl) (fun K hK => ?_) (fun K hK => ?_)
  · have hsq := unhide HSQ
    go_simp
    refine hK.out _ _ hB4 ?_
    clear hK K hsq
    try simp only [Act.put, List.setIfInBounds_toArray, List.set_cons_zero, List.set_cons_succ]
    refine anyH_step1 (i := 6) rfl (by kernel_rfl) (fun K hK => ?_)
    refine step_store_row (by rfl) 80 _ _ rfl w.heap.size rfl (sq zs) rfl (sq zs64) 80 hR4 (by rw [unhide HSL, sq_size, zs64_len]) (by rw [unhide HSL]; kernel_rfl) (sq_one zs) ?_
    intro w5 hB5 g5
    have hB5' := (g5.block (w.heap.size + 1) (Array.getElem?_eq_some_iff.1 hB4).1 (by simp)).trans hB4
    refine hK.out _ _ hB5' ?_
    clear hK K
    try simp only [Act.put]
    refine anyH_step1 (i := 7) rfl (by kernel_rfl) (fun K hK => ?_)
    go_simp
    refine hK.out _ _ hB5' ?_
    clear hK K
    try simp only [Act.put, List.setIfInBounds_toArray, List.set_cons_zero, List.set_cons_succ]
    refine wpAnyH_done (by kernel_rfl) (NoPanic.normal ?_) _
    go_wp2
    refine bodyPost_ret (v := .tuple #[.agg (sq zs), .bool (zs == made f)]) ?_ rfl ⟨rfl, ?_⟩
    · exact results_c2 (p := 4) (q := 5) (ty := 80) rfl _ _ _ w.heap.size rfl _ (unhide HLD' _ _ hB5)
    · exact grown_new hG4 g5 (fun g e => by simp at e; omega)
  · refine step_store_row (by rfl) 80 _ _ rfl w.heap.size rfl (sq zs) rfl (sq zs64) 80 hR4 (by rw [unhide HSL, sq_size, zs64_len]) (by rw [unhide HSL]; kernel_rfl) (sq_one zs) ?_
    intro w5 hB5 g5
    have hB5' := (g5.block (w.heap.size + 1) (Array.getElem?_eq_some_iff.1 hB4).1 (by simp)).trans hB4
    refine hK.out _ _ hB5' ?_
    clear hK K
    try simp only [Act.put]
    refine anyH_step1 (i := 5) rfl (by kernel_rfl) (fun K hK => ?_)
    have hsq := unhide HSQ
    go_simp
    refine hK.out _ _ hB5' ?_
    clear hK K hsq
    try simp only [Act.put, List.setIfInBounds_toArray, List.set_cons_zero, List.set_cons_succ]
    refine anyH_step1 (i := 7) rfl (by kernel_rfl) (fun K hK => ?_)
    go_simp
    refine hK.out _ _ hB5' ?_
    clear hK K
    try simp only [Act.put, List.setIfInBounds_toArray, List.set_cons_zero, List.set_cons_succ]
    refine wpAnyH_done (by kernel_rfl) (NoPanic.normal ?_) _
    go_wp2
    refine bodyPost_ret (v := .tuple #[.agg (sq zs), .bool (zs == made f)]) ?_ rfl ⟨rfl, ?_⟩
    · exact results_c2 (p := 4) (q := 5) (ty := 80) rfl _ _ _ w.heap.size rfl _ (unhide HLD' _ _ hB5)
    · exact grown_new hG4 g5 (fun g e => by simp at e; omega)

/-- A block that is ok, a table that is ok. -/
def numsB (lo hi : Int) (zs : List Int) : Bool := decide (zs.length = 64) && zs.all (fun n => decide (lo ≤ n ∧ n ≤ hi))
theorem clip_same {lo hi : Int} (h : lo ≤ hi) (zs : List Int) (hz : zs.length = 64) : (zs == made (fun k => min (max (zs.getD k 0) lo) hi)) = numsB lo hi zs := by
  rw [Bool.eq_iff_iff]
  simp only [numsB, hz, decide_true, Bool.true_and, beq_iff_eq, List.all_eq_true, decide_eq_true_eq]
  constructor
  · intro e n hn
    obtain ⟨i, hi', rfl⟩ := List.getElem_of_mem hn
    have h1 : zs.getD i 0 = (made (fun k => min (max (zs.getD k 0) lo) hi)).getD i 0 := by rw [← e]
    rw [made_at _ i (by omega)] at h1
    have h2 : zs.getD i 0 = zs[i] := by simp [hi']
    rw [h2] at h1
    omega
  · intro hall
    apply List.ext_getElem?
    intro i
    by_cases hi' : i < zs.length
    · have h1 := hall zs[i] (List.getElem_mem hi')
      rw [List.getElem?_eq_getElem hi', List.getElem?_eq_getElem (by rw [made_len]; omega)]
      simp only [made, List.getElem_map, List.getElem_range, Option.some.injEq]
      have h2 : zs.getD i 0 = zs[i] := by simp [hi']
      rw [h2]
      omega
    · rw [List.getElem?_eq_none (by omega), List.getElem?_eq_none (by rw [made_len]; omega)]

end Go.Proofs.Ytibgldanmhckiaa
