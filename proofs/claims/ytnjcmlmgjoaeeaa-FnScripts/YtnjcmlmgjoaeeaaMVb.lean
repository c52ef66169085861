/-
  ScanRows, FramePure, GeoPure, GeoOrd, FrameImpl, FrameImpl2, FrameImpl3, Between, FrameSpec, GeoSpec, GeoCompsS, ScanSpec.
-/
import Derived.Deep.RegionHeld3
import Derived.Test.YtnjcmlmgjoaeeaaRows
import Derived.Deep.WholeRow
import Derived.Deep.MidRow
import Derived.Laws.CopyOwn
import Derived.Laws.ResultCell
import Derived.Test.YtnjcmlmgjoaeeaaMVa

namespace Go.Proofs.Ytnjcmlmgjoaeeaa
open Go.RowKit

structure Scn where
  cs : List Int
  fr : Int
  to : Int
  hi : Int
  lo : Int
def Scn.zero : Scn := ⟨[], 0, 0, 0, 0⟩
def scC (c : Nat → Value) (a : Scn) : Prop := c 1 = .int .i64 a.fr ∧ c 2 = .int .i64 a.to ∧ c 3 = .int .i64 a.hi ∧ c 4 = .int .i64 a.lo
def scV (v : Value) (a : Scn) : Value := .agg #[v, .int .i64 a.fr, .int .i64 a.to, .int .i64 a.hi, .int .i64 a.lo]
def szSc (a : Scn) : Nat := lenI a.cs
/-- A scan that is read, and one that is owned. -/
def RdSc (w : World) (u : Value) (a : Scn) : Prop := ∃ v, u = scV v a ∧ RdI .i64 w v a.cs
def OwSc (w : World) (u : Value) (a : Scn) (F : List Nat) : Prop := ∃ v, u = scV v a ∧ OwI .i64 3 w v a.cs F
theorem RdSc.st : StR RdSc := fun _ _ _ _ ⟨v, e, h⟩ g => ⟨v, e, RdI.st .i64 _ _ _ _ h g⟩
theorem OwSc.rd {w : World} {u : Value} {a : Scn} {F : List Nat} (h : OwSc w u a F) : RdSc w u a := by obtain ⟨v, e, h⟩ := h; exact ⟨v, e, h.rd⟩
/-- The same in a row. -/
def RdScE (w : World) (c : Nat → Value) (a : Scn) : Prop := scC c a ∧ RdI .i64 w (c 0) a.cs
def OwScE (w : World) (c : Nat → Value) (a : Scn) (F : List Nat) : Prop := scC c a ∧ OwI .i64 3 w (c 0) a.cs F
theorem RdScE.st : StG RdScE := fun _ _ _ _ ⟨e, h⟩ g => ⟨e, RdI.st .i64 _ _ _ _ h g⟩
theorem OwScE.ok : OkG OwScE := ⟨fun _ _ _ _ _ h hs => ⟨h.1, ok1.same _ _ _ _ _ h.2 hs⟩, fun _ _ _ _ h => ok1.lt _ _ _ _ h.2⟩
abbrev RdSs := RdG 5 RdScE
abbrev OwSs := OwG 38 5 OwScE
theorem RdSs.st : StR RdSs := RdG.st RdScE.st
theorem OwSs.ok : OwOk OwSs := OwG.ok OwScE.ok
theorem OwSs.rd {w : World} {v : Value} {L : List Scn} {F : List Nat} (h : OwSs w v L F) : RdSs w v L := OwG.rd (fun _ _ _ _ h => ⟨h.1, h.2.rd⟩) h

theorem scanCells {w : World} {g : Nat} {a b c d v : Value} {t : TypeId} (hb : w.heap[g]? = some (.cells #[v, a, b, c, d] t (0, 0))) :
    w.cell? ⟨g, 0, none⟩ = some v ∧ w.cell? ⟨g, 1, none⟩ = some a ∧ w.cell? ⟨g, 2, none⟩ = some b ∧ w.cell? ⟨g, 3, none⟩ = some c ∧ w.cell? ⟨g, 4, none⟩ = some d :=
  ⟨by rw [cell_of_row w g 0 _ _ (0, 0) hb]; rfl, by rw [cell_of_row w g 1 _ _ (0, 0) hb]; rfl, by rw [cell_of_row w g 2 _ _ (0, 0) hb]; rfl, by rw [cell_of_row w g 3 _ _ (0, 0) hb]; rfl, by rw [cell_of_row w g 4 _ _ (0, 0) hb]; rfl⟩

theorem at_rowS {a b : World} {row : Option Nat} {k : Nat} {o : Obj} (g : a.grownBy b row) (h : a.heap[k]? = some o) (hne : row ≠ some k) : b.heap[k]? = some o :=
  (g.block k (Array.getElem?_eq_some_iff.1 h).1 (fun e => hne e.symm)).trans h

set_option maxHeartbeats 1600000 in
theorem eqScanC : EqC 25 RdSc szSc := by
  intro w u u' a hq hq' hs
  obtain ⟨v, rfl, hv⟩ := hq
  obtain ⟨v', rfl, hv'⟩ := hq'
  obtain ⟨cs, fr, to, hi, lo⟩ := a
  obtain ⟨vo, vc, rfl, hr⟩ := id hv
  obtain ⟨vo', vc', rfl, hr'⟩ := id hv'
  clear hr hr'
  dsimp only at hv hv' ⊢
  obtain ⟨vn, HVN⟩ : ∃ vn, Hid (cs.length = vn) := ⟨_, rfl⟩
  rw [unhide HVN] at hv hv' ⊢
  obtain ⟨W2, HW2⟩ : ∃ W2, Hid ((w.alloc (.cells #[.slice vo vn vc, .int .i64 fr, .int .i64 to, .int .i64 hi, .int .i64 lo] 38)).alloc (.cells #[.slice vo' vn vc', .int .i64 fr, .int .i64 to, .int .i64 hi, .int .i64 lo] 38) = W2) := ⟨_, rfl⟩
  have G0 : w.grownBy W2 none := by rw [← unhide HW2]; exact grown_alloc (grown_alloc (World.grownBy.refl _ _) _) _
  have B0 : W2.heap[w.heap.size]? = some (.cells #[.slice vo vn vc, .int .i64 fr, .int .i64 to, .int .i64 hi, .int .i64 lo] 38 (0, 0)) := by
    rw [← unhide HW2]
    exact at_rowS (World.grownBy_alloc _ _ none) (heap_alloc_new w _) (by simp)
  have B1 : W2.heap[w.heap.size + 1]? = some (.cells #[.slice vo' vn vc', .int .i64 fr, .int .i64 to, .int .i64 hi, .int .i64 lo] 38 (0, 0)) := by
    rw [← unhide HW2]
    have := heap_alloc_new (w.alloc (.cells #[.slice vo vn vc, .int .i64 fr, .int .i64 to, .int .i64 hi, .int .i64 lo] 38)) (.cells #[.slice vo' vn vc', .int .i64 fr, .int .i64 to, .int .i64 hi, .int .i64 lo] 38)
    simpa using this
  have HEQ := hide (eqIntSC W2 (.slice vo vn vc) (.slice vo' vn vc') cs (RdI.st .i64 _ _ _ _ hv G0) (RdI.st .i64 _ _ _ _ hv' G0) hs)
  have HB0 := hide B0
  have HB1 := hide B1
  have HG0 := hide G0
  have n1 : (fr != fr) = false := by simp
  have n2 : (to != to) = false := by simp
  have n3 : (hi != hi) = false := by simp
  have n4 : (lo != lo) = false := by simp
  have a0 := unhide HB0
  rw [← unhide HW2] at a0 B1
  obtain ⟨c0, c1, c2, c3, c4⟩ := scanCells a0
  obtain ⟨d0, d1, d2, d3, d4⟩ := scanCells B1
  clear hv hv' hs G0 B0 B1 a0
  unfold scV
  dsimp only
  go_enter Try.func25, Try.ntmps25
  go_wp2_with fail
  rw [unhide HW2]
  clear HW2 c0 c1 c2 c3 c4 d0 d1 d2 d3 d4
  refine (unhide HEQ).mono ?_
  rintro e w3 ⟨rfl, g3⟩
  obtain ⟨c0, c1, c2, c3, c4⟩ := scanCells (at_rowS g3 (unhide HB0) (by simp))
  obtain ⟨d0, d1, d2, d3, d4⟩ := scanCells (at_rowS g3 (unhide HB1) (by simp))
  have HG3 := hide (grown_trans (unhide HG0) g3)
  clear g3 HEQ HB0 HB1 HG0
  go_wp2
  go_ret
  exact ⟨rfl, unhide HG3⟩

theorem rowScan {w : World} {b off i : Nat} {c : Nat → Value} {a : Scn} (h : ∀ j, j < 5 → w.cell? ⟨b, off + i * 5 + j, none⟩ = some (c j)) (hc : scC c a) :
    w.cell? ⟨b, off + i * 5, none⟩ = some (c 0) ∧ w.cell? ⟨b, off + i * 5 + 1, none⟩ = some (.int .i64 a.fr) ∧ w.cell? ⟨b, off + i * 5 + 2, none⟩ = some (.int .i64 a.to) ∧ w.cell? ⟨b, off + i * 5 + 3, none⟩ = some (.int .i64 a.hi) ∧ w.cell? ⟨b, off + i * 5 + 4, none⟩ = some (.int .i64 a.lo) := by
  obtain ⟨e1, e2, e3, e4⟩ := hc
  exact ⟨h 0 (by omega), by rw [h 1 (by omega), e1], by rw [h 2 (by omega), e2], by rw [h 3 (by omega), e3], by rw [h 4 (by omega), e4]⟩

set_option maxRecDepth 20000 in
set_option maxHeartbeats 1600000 in
theorem eqScanSC : EqC 29 RdSs (szR szSc) := by
  intro w u u' a hq hq' hs
  obtain ⟨ao, cap, rfl, hel⟩ := hq
  obtain ⟨bo, cap', rfl, hel'⟩ := hq'
  have HEL := hide hel
  have HEM := hide hel'
  have hlen := szR_len szSc a
  have HSE := hide (fun i h => (szR_el szSc a i h).2)
  obtain ⟨n, HN⟩ : ∃ n, Hid (a.length = n) := ⟨_, rfl⟩
  have hn : n ≤ 1048576 := by have := unhide HN; omega
  have HS := hide hs
  rw [unhide HN]
  have hne : ((n : Int) != n) = false := by simp
  clear hel hel' hs hlen
  go_enter Try.func29, Try.ntmps29
  go_wp2
  go_loopw [5] (fun iv wr => ∃ i : Nat, i ≤ n ∧ iv = .int .i64 i ∧ Hid (w.grownBy wr none)) (fun iv _ => n - (intOf iv).toNat)
  case atStart => exact ⟨0, Nat.zero_le _, rfl, World.grownBy.refl _ _⟩
  case round =>
    obtain ⟨i, hin, rfl, hg⟩ := hrel
    by_cases hlt : i < n
    · have hia : i < a.length := by rw [unhide HN]; exact hlt
      obtain ⟨b, off, c, rfl, k0, k1, q0⟩ := unhide HEL i hia
      obtain ⟨b', off', c', rfl, k0', k1', q0'⟩ := unhide HEM i hia
      have d0 := rowScan (fun j hj => (unhide hg).cell (k0 j hj) (by simp)) k1
      have d1 := rowScan (fun j hj => (unhide hg).cell (k0' j hj) (by simp)) k1'
      have HD := hide (And.intro d0 d1)
      have HT : Hid (∀ W, wr.grownBy W none → Calls Try.prog 25 #[scV (c 0) a[i], scV (c' 0) a[i]] W fun e w' => e = .returned (.bool true) ∧ W.grownBy w' none) := fun W gW => eqScanC W _ _ a[i] ⟨_, rfl, RdI.st .i64 _ _ _ _ q0 (grown_trans (unhide hg) gW)⟩ ⟨_, rfl, RdI.st .i64 _ _ _ _ q0' (grown_trans (unhide hg) gW)⟩ (Nat.le_trans (unhide HSE i hia) (unhide HS))
      have hiI : (i : Int) < (n : Int) := by omega
      unfold scV at HT
      obtain ⟨vo, vc, ev, -⟩ := q0
      obtain ⟨vo', vc', ev', -⟩ := q0'
      rw [ev, ev'] at HT
      rw [ev, ev'] at HD
      generalize a[i].cs.length = vn at *
      generalize a[i].fr = fr at *
      generalize a[i].to = to at *
      generalize a[i].hi = hi at *
      generalize a[i].lo = lo at *
      clear k0 k1 k0' k1' d0 d1 ev ev'
      go_wp2
      refine wp_region_noPanic ?_
      refine wp_region_tailL 20 (fun w' => (w'.cell? ⟨b, off + i * 5, none⟩ = some (.slice vo vn vc) ∧ w'.cell? ⟨b, off + i * 5 + 1, none⟩ = some (.int .i64 fr) ∧ w'.cell? ⟨b, off + i * 5 + 2, none⟩ = some (.int .i64 to) ∧ w'.cell? ⟨b, off + i * 5 + 3, none⟩ = some (.int .i64 hi) ∧ w'.cell? ⟨b, off + i * 5 + 4, none⟩ = some (.int .i64 lo)) ∧ (w'.cell? ⟨b', off' + i * 5, none⟩ = some (.slice vo' vn vc') ∧ w'.cell? ⟨b', off' + i * 5 + 1, none⟩ = some (.int .i64 fr) ∧ w'.cell? ⟨b', off' + i * 5 + 2, none⟩ = some (.int .i64 to) ∧ w'.cell? ⟨b', off' + i * 5 + 3, none⟩ = some (.int .i64 hi) ∧ w'.cell? ⟨b', off' + i * 5 + 4, none⟩ = some (.int .i64 lo))) [true, true, true, true, true, true, true, true, false, false] (by kernel_rfl) (fun _ _ _ _ _ h => h) rfl (by decide) (by kernel_rfl) (unhide HD) ?_
      iterate 8
        refine heldF_take (v := ?_) (Or.inl ⟨by rfl, ?_⟩) ?_
        rotate_left 1
        · intro w' hSw
          try dsimp only at hSw
          obtain ⟨⟨z0, z1, z2, z3, z4⟩, y0, y1, y2, y3, y4⟩ := hSw
          go_simp
          try with_reducible rfl
        simp only [Act.put, List.setIfInBounds_toArray, List.set_cons_zero, List.set_cons_succ]
      iterate 2 refine heldF_skip ?_
      refine heldF_nil ?_
      iterate 8 refine tailL_skip ?_
      refine tailL_step (fun K hK => ?_)
      go_simp
      refine (unhide HT _ (grown_drew (World.grownBy.refl _ _))).mono ?_
      rintro e w2 ⟨rfl, g2⟩
      have g3 := grown_trans (grown_drew (World.grownBy.refl wr none)) g2
      obtain ⟨⟨z0, z1, z2, z3, z4⟩, y0, y1, y2, y3, y4⟩ := unhide HD
      have HD2 := hide (And.intro (And.intro (g3.cell z0 (by simp)) (And.intro (g3.cell z1 (by simp)) (And.intro (g3.cell z2 (by simp)) (And.intro (g3.cell z3 (by simp)) (g3.cell z4 (by simp)))))) (And.intro (g3.cell y0 (by simp)) (And.intro (g3.cell y1 (by simp)) (And.intro (g3.cell y2 (by simp)) (And.intro (g3.cell y3 (by simp)) (g3.cell y4 (by simp)))))))
      have HG3 := hide (grown_trans (unhide hg) g3)
      clear g2 g3 hg HT HD z0 z1 z2 z3 z4 y0 y1 y2 y3 y4
      go_simp
      refine hK.out _ _ (.inr (unhide HD2)) ?_
      clear hK K
      refine tailL_step (fun K hK => ?_)
      go_simp
      refine hK.out _ _ (.inl rfl) ?_
      clear hK K HD2
      refine tailL_nil (NoPanic.normal ?_)
      go_wp2
      go_roundw
      case rel => exact ⟨i + 1, by omega, by go_num, HG3⟩
      case measure => simp [intOf]; omega
    · obtain rfl : i = n := by omega
      go_wp2
      go_ret
      exact ⟨rfl, unhide hg⟩

end Go.Proofs.Ytnjcmlmgjoaeeaa

namespace Go.Proofs.Ytnjcmlmgjoaeeaa
open Go.RowKit

def compB (c : Nat → Int) : Bool := decide (0 ≤ c 0 ∧ c 0 ≤ 255) && (decide (1 ≤ c 1 ∧ c 1 ≤ 4) && (decide (1 ≤ c 2 ∧ c 2 ≤ 4) && decide (0 ≤ c 3 ∧ c 3 ≤ 3)))
/-- Whether one of the first m components has the Id of component k. -/
def idIn (C : Nat → Nat → Int) (k : Nat) : Nat → Bool
  | 0 => false
  | m + 1 => idIn C k m || (C m 0 == C k 0)
def okTo (C : Nat → Nat → Int) : Nat → Bool
  | 0 => true
  | k + 1 => okTo C k && (compB (C k) && !idIn C k k)
def sumHV (C : Nat → Nat → Int) : Nat → Int
  | 0 => 0
  | k + 1 => sumHV C k + C k 1 * C k 2
def headB (p wd ht rs : Int) : Bool := (p == 8 || p == 12) && (decide (1 ≤ wd ∧ wd ≤ 256) && (decide (1 ≤ ht ∧ ht ≤ 256) && (decide (wd * ht ≤ 16384) && decide (0 ≤ rs ∧ rs ≤ 255))))
def compsB (n : Nat) (C : Nat → Nat → Int) : Bool := decide (1 ≤ (n : Int) ∧ (n : Int) ≤ 4) && (okTo C n && decide (sumHV C n ≤ 10))
def frameB (p wd ht rs : Int) (n : Nat) (C : Nat → Nat → Int) : Bool := headB p wd ht rs && compsB n C

theorem okTo_false {C : Nat → Nat → Int} {k : Nat} (h : okTo C k = false) : ∀ n, k ≤ n → okTo C n = false := by
  intro n hn
  induction n with
  | zero => obtain rfl : k = 0 := by omega
            exact h
  | succ n ih =>
    by_cases e : k = n + 1
    · subst e; exact h
    · simp [okTo, ih (by omega)]
theorem okTo_true {C : Nat → Nat → Int} {n : Nat} (h : okTo C n = true) : ∀ k, k ≤ n → okTo C k = true := by
  intro k hk
  cases hc : okTo C k with
  | true => rfl
  | false => rw [okTo_false hc n hk] at h; exact h
theorem compB_bounds {c : Nat → Int} (h : compB c = true) : (0 ≤ c 0 ∧ c 0 ≤ 255) ∧ (1 ≤ c 1 ∧ c 1 ≤ 4) ∧ (1 ≤ c 2 ∧ c 2 ≤ 4) ∧ 0 ≤ c 3 ∧ c 3 ≤ 3 := by
  simpa [compB] using h
theorem mul_small {a b : Int} (ha : 1 ≤ a ∧ a ≤ 4) (hb : 1 ≤ b ∧ b ≤ 4) : 1 ≤ a * b ∧ a * b ≤ 16 := by
  obtain ⟨a0, a1⟩ := ha
  have : a = 1 ∨ a = 2 ∨ a = 3 ∨ a = 4 := by omega
  rcases this with rfl | rfl | rfl | rfl <;> omega
theorem mul_side {a b : Int} (ha : 1 ≤ a ∧ a ≤ 256) (hb : 1 ≤ b ∧ b ≤ 256) : 1 ≤ a * b ∧ a * b ≤ 65536 := by
  obtain ⟨a0, a1⟩ := ha
  obtain ⟨b0, b1⟩ := hb
  have h1 : 1 * 1 ≤ a * b := Int.mul_le_mul a0 b0 (by omega) (by omega)
  have h2 : a * b ≤ 256 * 256 := Int.mul_le_mul a1 b1 (by omega) (by omega)
  omega
theorem sumHV_bounds {C : Nat → Nat → Int} : ∀ k, okTo C k = true → 0 ≤ sumHV C k ∧ sumHV C k ≤ 16 * k
  | 0, _ => by simp [sumHV]
  | k + 1, h => by
    simp only [okTo, Bool.and_eq_true] at h
    have ih := sumHV_bounds k h.1
    obtain ⟨_, h1, h2, _⟩ := compB_bounds h.2.1
    have := mul_small h1 h2
    simp only [sumHV]
    omega
theorem idIn_congr {C D : Nat → Nat → Int} {k : Nat} (hk : C k = D k) : ∀ m, (∀ i, i < m → C i = D i) → idIn C k m = idIn D k m
  | 0, _ => rfl
  | m + 1, h => by simp only [idIn]; rw [idIn_congr hk m (fun i hi => h i (by omega)), h m (by omega), hk]
theorem okTo_congr {C D : Nat → Nat → Int} : ∀ k, (∀ i, i < k → C i = D i) → okTo C k = okTo D k
  | 0, _ => rfl
  | k + 1, h => by
    simp only [okTo]
    rw [okTo_congr k (fun i hi => h i (by omega)), h k (by omega), idIn_congr (h k (by omega)) k (fun i hi => h i (by omega))]
theorem sumHV_congr {C D : Nat → Nat → Int} : ∀ k, (∀ i, i < k → C i = D i) → sumHV C k = sumHV D k
  | 0, _ => rfl
  | k + 1, h => by simp only [sumHV]; rw [sumHV_congr k (fun i hi => h i (by omega)), h k (by omega)]
theorem compsB_congr {C D : Nat → Nat → Int} {n : Nat} (h : n ≤ 4 → ∀ i, i < n → C i = D i) : compsB n C = compsB n D := by
  by_cases hn : n ≤ 4
  · simp only [compsB]; rw [okTo_congr n (h hn), sumHV_congr n (h hn)]
  · have e : decide (1 ≤ (n : Int) ∧ (n : Int) ≤ 4) = false := by simp; omega
    simp only [compsB, e, Bool.false_and]
theorem idIn_true {C : Nat → Nat → Int} {k m : Nat} (h : (C m 0 == C k 0) = true) : ∀ n, m < n → idIn C k n = true := by
  intro n hn
  induction n with
  | zero => omega
  | succ n ih =>
    by_cases e : m = n
    · subst e; simp only [idIn, h, Bool.or_true]
    · simp only [idIn, ih (by omega), Bool.true_or]
theorem headB_facts {p wd ht rs : Int} (h : headB p wd ht rs = true) : (p = 8 ∨ p = 12) ∧ (1 ≤ wd ∧ wd ≤ 256) ∧ (1 ≤ ht ∧ ht ≤ 256) ∧ wd * ht ≤ 16384 ∧ 0 ≤ rs ∧ rs ≤ 255 := by
  simpa [headB] using h

end Go.Proofs.Ytnjcmlmgjoaeeaa

namespace Go.Proofs.Ytnjcmlmgjoaeeaa

/-- The greatest of the numbers j of the first k components, at least a. -/
def mostA (a : Int) (C : Nat → Nat → Int) (j : Nat) : Nat → Int
  | 0 => a
  | k + 1 => max (mostA a C j k) (C k j)
/-- n by d, rounded up. -/
def upI (n d : Int) : Int := (n + d - 1).tdiv d

theorem upI_pos {n d : Int} (hn : 1 ≤ n) (hd : 1 ≤ d) : 1 ≤ upI n d ∧ upI n d ≤ n := by
  unfold upI
  rw [Int.tdiv_eq_ediv_of_nonneg (by omega)]
  constructor
  · exact (Int.le_ediv_iff_mul_le (by omega)).2 (by omega)
  · refine Int.le_of_lt_add_one ((Int.ediv_lt_iff_lt_mul (by omega)).2 ?_)
    have h1 : 0 ≤ (n - 1) * (d - 1) := Int.mul_nonneg (by omega) (by omega)
    have e : (n + 1) * d = (n - 1) * (d - 1) + n + 2 * d - 1 := by
      rw [Int.add_mul, Int.sub_mul, Int.mul_sub, Int.mul_sub]; omega
    omega

theorem upI_eight {n : Int} (h0 : 1 ≤ n) (h1 : n ≤ 8192) : 1 ≤ upI n 8 ∧ upI n 8 ≤ 1024 := by
  unfold upI
  rw [Int.tdiv_eq_ediv_of_nonneg (by omega)]
  omega

theorem mostA_congr {a : Int} {C D : Nat → Nat → Int} {j : Nat} : ∀ k, (∀ i, i < k → C i = D i) → mostA a C j k = mostA a D j k
  | 0, _ => rfl
  | k + 1, h => by simp only [mostA]; rw [mostA_congr k (fun i hi => h i (by omega)), h k (by omega)]
theorem mostA_le {a : Int} {C : Nat → Nat → Int} {j : Nat} {m : Int} (ha : a ≤ m) : ∀ k, (∀ i, i < k → C i j ≤ m) → mostA a C j k ≤ m
  | 0, _ => ha
  | k + 1, h => by simp only [mostA]; have := mostA_le ha k (fun i hi => h i (by omega)); have := h k (by omega); omega
theorem mostA_ge {a : Int} {C : Nat → Nat → Int} {j : Nat} : ∀ k, a ≤ mostA a C j k
  | 0 => Int.le_refl _
  | k + 1 => by simp only [mostA]; have := mostA_ge (a := a) (C := C) (j := j) k; omega
theorem mostA_at {a : Int} {C : Nat → Nat → Int} {j : Nat} : ∀ k i, i < k → C i j ≤ mostA a C j k
  | k + 1, i, h => by
    simp only [mostA]
    by_cases e : i = k
    · subst e; omega
    · have := mostA_at (a := a) (C := C) (j := j) k i (by omega); omega
/-- From 0 or from 1 on: the same where a component has at least 1. -/
theorem mostA_one {C : Nat → Nat → Int} {j : Nat} : ∀ k, 1 ≤ k → (∀ i, i < k → 1 ≤ C i j) → mostA 0 C j k = mostA 1 C j k
  | 1, _, h => by simp only [mostA]; have := h 0 (by omega); omega
  | k + 2, _, h => by
    have ih := mostA_one (k + 1) (by omega) (fun i hi => h i (by omega))
    show max (mostA 0 C j (k + 1)) (C (k + 1) j) = max (mostA 1 C j (k + 1)) (C (k + 1) j)
    rw [ih]

theorem okTo_comp {C : Nat → Nat → Int} : ∀ {n : Nat}, okTo C n = true → ∀ i, i < n → compB (C i) = true
  | n + 1, h, i, hi => by
    simp only [okTo, Bool.and_eq_true] at h
    by_cases e : i = n
    · subst e; exact h.2.1
    · exact okTo_comp h.1 i (by omega)

/-- What is so of a frame that is ok. -/
structure Geo (wd ht : Int) (n : Nat) (C : Nat → Nat → Int) (mh mv : Int) : Prop where
  n1 : 1 ≤ n
  n4 : n ≤ 4
  wd : 1 ≤ wd ∧ wd ≤ 256
  ht : 1 ≤ ht ∧ ht ≤ 256
  ch : ∀ i, i < n → 1 ≤ C i 1 ∧ C i 1 ≤ 4
  cv : ∀ i, i < n → 1 ≤ C i 2 ∧ C i 2 ≤ 4
  h0 : mostA 0 C 1 n = mh
  h1 : mostA 1 C 1 n = mh
  v0 : mostA 0 C 2 n = mv
  v1 : mostA 1 C 2 n = mv
  hb : 1 ≤ mh ∧ mh ≤ 4
  vb : 1 ≤ mv ∧ mv ≤ 4

theorem geo_of {p wd ht rs : Int} {n : Nat} {C : Nat → Nat → Int} (h : frameB p wd ht rs n C = true) : Geo wd ht n C (mostA 1 C 1 n) (mostA 1 C 2 n) := by
  simp only [frameB, Bool.and_eq_true] at h
  obtain ⟨hh, hc⟩ := h
  obtain ⟨_, hw, hht, _, _⟩ := headB_facts hh
  simp only [compsB, Bool.and_eq_true, decide_eq_true_eq] at hc
  obtain ⟨hn, hok, _⟩ := hc
  have ch : ∀ i, i < n → 1 ≤ C i 1 ∧ C i 1 ≤ 4 := fun i hi => (compB_bounds (okTo_comp hok i hi)).2.1
  have cv : ∀ i, i < n → 1 ≤ C i 2 ∧ C i 2 ≤ 4 := fun i hi => (compB_bounds (okTo_comp hok i hi)).2.2.1
  exact ⟨by omega, by omega, hw, hht, ch, cv, mostA_one n (by omega) (fun i hi => (ch i hi).1), rfl, mostA_one n (by omega) (fun i hi => (cv i hi).1), rfl,
    ⟨mostA_ge n, mostA_le (by omega) n (fun i hi => (ch i hi).2)⟩, ⟨mostA_ge n, mostA_le (by omega) n (fun i hi => (cv i hi).2)⟩⟩
theorem Geo.congr {wd ht : Int} {n : Nat} {C D : Nat → Nat → Int} {mh mv : Int} (h : Geo wd ht n C mh mv) (e : ∀ i, i < n → D i = C i) : Geo wd ht n D mh mv :=
  ⟨h.n1, h.n4, h.wd, h.ht, fun i hi => by rw [e i hi]; exact h.ch i hi, fun i hi => by rw [e i hi]; exact h.cv i hi, (mostA_congr n e).trans h.h0, (mostA_congr n e).trans h.h1, (mostA_congr n e).trans h.v0, (mostA_congr n e).trans h.v1, h.hb, h.vb⟩

/-- A side times a share of it. -/
theorem mul_share {a b : Int} (ha : 1 ≤ a ∧ a ≤ 1024) (hb : 1 ≤ b ∧ b ≤ 4) : 1 ≤ a * b ∧ a * b ≤ 4096 := by
  obtain ⟨b0, b1⟩ := hb
  have : b = 1 ∨ b = 2 ∨ b = 3 ∨ b = 4 := by omega
  rcases this with rfl | rfl | rfl | rfl <;> omega

end Go.Proofs.Ytnjcmlmgjoaeeaa

namespace Go.Proofs.Ytnjcmlmgjoaeeaa

/-- The first k numbers are components of n, rising. -/
def compsTo (n : Nat) (cs : List Int) : Nat → Bool
  | 0 => true
  | k + 1 => compsTo n cs k && (decide (0 ≤ cs.getD k 0 ∧ cs.getD k 0 ≤ (n : Int) - 1) && decide (k = 0 ∨ cs.getD (k - 1) 0 < cs.getD k 0))
def okComps (n : Nat) (cs : List Int) : Bool := compsTo n cs cs.length && decide (0 < cs.length)

theorem compsTo_false {n : Nat} {cs : List Int} {k : Nat} (h : compsTo n cs k = false) : ∀ m, k ≤ m → compsTo n cs m = false := by
  intro m hm
  induction m with
  | zero => obtain rfl : k = 0 := by omega
            exact h
  | succ m ih =>
    by_cases e : k = m + 1
    · subst e; exact h
    · simp [compsTo, ih (by omega)]
theorem compsTo_true {n : Nat} {cs : List Int} {m : Nat} (h : compsTo n cs m = true) : ∀ k, k ≤ m → compsTo n cs k = true := by
  intro k hk
  cases hc : compsTo n cs k with
  | true => rfl
  | false => rw [compsTo_false hc m hk] at h; exact h
theorem compsTo_at {n : Nat} {cs : List Int} {m : Nat} (h : compsTo n cs m = true) (k : Nat) (hk : k < m) : (0 ≤ cs.getD k 0 ∧ cs.getD k 0 ≤ (n : Int) - 1) ∧ (k = 0 ∨ cs.getD (k - 1) 0 < cs.getD k 0) := by
  have := compsTo_true h (k + 1) (by omega)
  simp only [compsTo, Bool.and_eq_true, decide_eq_true_eq] at this
  exact this.2
theorem compsTo_ge {n : Nat} {cs : List Int} {m : Nat} (h : compsTo n cs m = true) : ∀ k, k < m → (k : Int) ≤ cs.getD k 0
  | 0, hk => (compsTo_at h 0 hk).1.1
  | k + 1, hk => by
    have ih := compsTo_ge h k (by omega)
    rcases (compsTo_at h (k + 1) hk).2 with e | e
    · omega
    · simp only [Nat.add_sub_cancel] at e; omega
theorem compsTo_len {n : Nat} {cs : List Int} {m : Nat} (h : compsTo n cs m = true) : m ≤ n := by
  cases m with
  | zero => omega
  | succ m =>
    have h1 := compsTo_ge h m (by omega)
    have h2 := (compsTo_at h m (by omega)).1.2
    omega

/-- A place: a component, a row, a column. -/
abbrev Pl := Int × Int × Int
/-- z places of a row from a column on. -/
def zTo (c a b : Int) : Nat → List Pl
  | 0 => []
  | z + 1 => zTo c a b z ++ [(c, a, b + z)]
/-- y rows of H places. -/
def yTo (c a b : Int) (H : Nat) : Nat → List Pl
  | 0 => []
  | y + 1 => yTo c a b H y ++ zTo c (a + y) b H
/-- A unit's places of its first i components. -/
def iTo (C : Nat → Nat → Int) (cs : List Int) (r k : Nat) : Nat → List Pl
  | 0 => []
  | i + 1 => iTo C cs r k i ++ yTo (cs.getD i 0) (r * C (cs.getD i 0).toNat 2) (k * C (cs.getD i 0).toNat 1) (C (cs.getD i 0).toNat 1).toNat (C (cs.getD i 0).toNat 2).toNat
def kTo (C : Nat → Nat → Int) (cs : List Int) (r : Nat) : Nat → List (List Pl)
  | 0 => []
  | k + 1 => kTo C cs r k ++ [iTo C cs r k cs.length]
def rTo (C : Nat → Nat → Int) (cs : List Int) (W : Nat) : Nat → List (List Pl)
  | 0 => []
  | r + 1 => rTo C cs W r ++ kTo C cs r W
def k1To (c : Int) (r : Nat) : Nat → List (List Pl)
  | 0 => []
  | k + 1 => k1To c r k ++ [[(c, (r : Int), (k : Int))]]
def r1To (c : Int) (W : Nat) : Nat → List (List Pl)
  | 0 => []
  | r + 1 => r1To c W r ++ k1To c r W
/-- The units of an order. -/
def unitsG (wd ht : Int) (n : Nat) (C : Nat → Nat → Int) (cs : List Int) : List (List Pl) :=
  if cs.length = 1 then r1To (cs.getD 0 0) (upI (upI (wd * C (cs.getD 0 0).toNat 1) (mostA 1 C 1 n)) 8).toNat (upI (upI (ht * C (cs.getD 0 0).toNat 2) (mostA 1 C 2 n)) 8).toNat
  else rTo C cs (upI wd (8 * mostA 1 C 1 n)).toNat (upI ht (8 * mostA 1 C 2 n)).toNat
/-- The order of a frame and components, whatever they are. -/
def orderG (b : Bool) (wd ht : Int) (n : Nat) (C : Nat → Nat → Int) (cs : List Int) : List (List Pl) := if b && okComps n cs then unitsG wd ht n C cs else []

theorem zTo_len (c a b : Int) : ∀ z, (zTo c a b z).length = z
  | 0 => rfl
  | z + 1 => by simp [zTo, zTo_len c a b z]
theorem yTo_len (c a b : Int) (H : Nat) : ∀ y, (yTo c a b H y).length = y * H
  | 0 => by simp [yTo]
  | y + 1 => by simp [yTo, yTo_len c a b H y, zTo_len, Nat.succ_mul]
theorem kTo_len (C : Nat → Nat → Int) (cs : List Int) (r : Nat) : ∀ k, (kTo C cs r k).length = k
  | 0 => rfl
  | k + 1 => by simp [kTo, kTo_len C cs r k]
theorem rTo_len (C : Nat → Nat → Int) (cs : List Int) (W : Nat) : ∀ r, (rTo C cs W r).length = r * W
  | 0 => by simp [rTo]
  | r + 1 => by simp [rTo, rTo_len C cs W r, kTo_len, Nat.succ_mul]
theorem k1To_len (c : Int) (r : Nat) : ∀ k, (k1To c r k).length = k
  | 0 => rfl
  | k + 1 => by simp [k1To, k1To_len c r k]
theorem r1To_len (c : Int) (W : Nat) : ∀ r, (r1To c W r).length = r * W
  | 0 => by simp [r1To]
  | r + 1 => by simp [r1To, r1To_len c W r, k1To_len, Nat.succ_mul]

/-- The cells of places. -/
def plCells : List Pl → List Value
  | [] => []
  | p :: ps => .int .i64 p.1 :: .int .i64 p.2.1 :: .int .i64 p.2.2 :: plCells ps
theorem plCells_app : ∀ (xs ys : List Pl), plCells (xs ++ ys) = plCells xs ++ plCells ys
  | [], ys => rfl
  | p :: xs, ys => by simp [plCells, plCells_app xs ys]
theorem plCells_len : ∀ xs : List Pl, (plCells xs).length = xs.length * 3
  | [] => rfl
  | p :: xs => by simp [plCells, plCells_len xs]; omega
theorem plCells_one : ∀ xs : List Pl, ∀ v ∈ plCells xs, v.oneCell' = true
  | [], v, h => by simp [plCells] at h
  | p :: xs, v, h => by
    simp [plCells] at h
    rcases h with rfl | rfl | rfl | h
    · rfl
    · rfl
    · rfl
    · exact plCells_one xs v h
theorem plCells_at : ∀ (xs : List Pl) (i : Nat) (h : i < xs.length), (plCells xs)[i * 3]? = some (.int .i64 (xs[i].1)) ∧ (plCells xs)[i * 3 + 1]? = some (.int .i64 (xs[i].2.1)) ∧ (plCells xs)[i * 3 + 2]? = some (.int .i64 (xs[i].2.2))
  | p :: xs, 0, _ => ⟨rfl, rfl, rfl⟩
  | p :: xs, i + 1, h => by
    have ih := plCells_at xs i (by simpa using h)
    simp only [plCells, Nat.succ_mul]
    refine ⟨?_, ?_, ?_⟩
    · simpa using ih.1
    · have e : i * 3 + 3 + 1 = (i * 3 + 1) + 1 + 1 + 1 := by omega
      rw [e]; simpa using ih.2.1
    · have e : i * 3 + 3 + 2 = (i * 3 + 2) + 1 + 1 + 1 := by omega
      rw [e]; simpa using ih.2.2

end Go.Proofs.Ytnjcmlmgjoaeeaa

namespace Go.Proofs.Ytnjcmlmgjoaeeaa
open Go.RowKit

theorem wpList_load_row {P : Program} {ops : Array Oper} {rest : List Oper} {op : Oper} {a : Act} {w : World} {Q : Exit → Act → World → Prop} (hw : Region.wanted op (yielded ops a.tmps) = true) (ty : TypeId) (x : Operand) (ho : op.op = .load ty x)
    (b : Nat) (hx : a.eval x = .pointer (some ⟨b, 0, none⟩)) (X : Array Value) (t : TypeId) (hb : w.heap[b]? = some (.cells X t (0, 0))) (d : TypeDesc)
    (hu : P.underlying ty = some d) (hd : d.isRow = true) (hi : (P.info? ty).map (·.size) = some X.size)
    (h : wpList P ops Q rest (a.put op.dst (.agg X)) w) : wpList P ops Q (op :: rest) a w :=
  BigFrame.wpList_want hw fun _ hK => wp_load_mid ty x ho b 0 hx X.toList d (fun j v hv => by rw [cell_of_row w b (0 + j) X t (0, 0) hb]; simpa using hv) hu hd (by simpa using hi) (hK _ _ (by simpa using h))

/-- The cells of a frame with its components inside. -/
structure Fx (X : Array Value) (p wd ht rs n : Int) (C : Nat → Nat → Int) : Prop where
  size : X.size = 21
  c0 : X[0]? = some (.int .i64 p)
  c1 : X[1]? = some (.int .i64 wd)
  c2 : X[2]? = some (.int .i64 ht)
  c3 : X[3]? = some (.int .i64 rs)
  c4 : X[4]? = some (.int .i64 n)
  comp : ∀ i j, i < 4 → j < 4 → X[5 + i * 4 + j]? = some (.int .i64 (C i j))

theorem inRange (n lo hi : Int) (t : Bool) (ht : Hid (decide (lo ≤ n ∧ n ≤ hi) = t)) (w : World) :
    Calls Try.prog 88 #[.int .i64 n, .int .i64 lo, .int .i64 hi] w fun e w' => e = .returned (.bool t) ∧ w = w' := by
  by_cases h1 : lo ≤ n
  · by_cases h2 : n ≤ hi
    · have e : t = true := by rw [← unhide ht]; simp [h1, h2]
      subst e
      go_enter Try.func88, Try.ntmps88
      go_wp2
      go_ret
      exact ⟨by simp, rfl⟩
    · have e : t = false := by rw [← unhide ht]; simp [h2]
      subst e
      go_enter Try.func88, Try.ntmps88
      go_wp2
      go_ret
      exact ⟨by simp, rfl⟩
  · have e : t = false := by rw [← unhide ht]; simp [h1]
    subst e
    have hd : decide (lo ≤ n) = false := by simpa using h1
    go_enter Try.func88, Try.ntmps88
    go_wp2
    go_ret
    exact ⟨rfl, rfl⟩

set_option maxHeartbeats 800000 in
theorem isNone_no (X : Array Value) (p wd ht rs n : Int) (C : Nat → Nat → Int) (hX : Fx X p wd ht rs n C) (hp : (p == 0) = false) (w : World) :
    Calls Try.prog 43 #[.agg X] w fun e w' => e = .returned (.bool false) ∧ w.grownBy w' none := by
  have hs := hX.size
  have h0 := hX.c0
  have h0' : X[0] = .int .i64 p := by rw [Array.getElem?_eq_getElem (by omega)] at h0; simpa using h0
  go_enter Try.func43, Try.ntmps43
  go_wp2_with (refine wpList_load_row rfl 71 _ rfl w.heap.size rfl X 71 (heap_alloc_new _ _) _ Try.underlying71 rfl (by rw [hs]; kernel_rfl) ?_)
  go_ret
  exact ⟨rfl, grown_alloc (World.grownBy.refl _ _) _⟩

theorem eqComps (w : World) : (Op.equalIn 9999 69 (.agg #[.int .i64 0, .int .i64 0, .int .i64 0, .int .i64 0, .int .i64 0, .int .i64 0, .int .i64 0, .int .i64 0, .int .i64 0, .int .i64 0, .int .i64 0, .int .i64 0, .int .i64 0, .int .i64 0, .int .i64 0, .int .i64 0]) (.agg #[.int .i64 0, .int .i64 0, .int .i64 0, .int .i64 0, .int .i64 0, .int .i64 0, .int .i64 0, .int .i64 0, .int .i64 0, .int .i64 0, .int .i64 0, .int .i64 0, .int .i64 0, .int .i64 0, .int .i64 0, .int .i64 0])).run Try.prog w = .ok true w := by kernel_rfl
theorem eqNought (w : World) : (Op.equalIn 9999 3 (.int .i64 0) (.int .i64 0)).run Try.prog w = .ok true w := by kernel_rfl

set_option maxHeartbeats 800000 in
theorem isNone_yes (w : World) :
    Calls Try.prog 43 #[.agg #[.int .i64 0, .int .i64 0, .int .i64 0, .int .i64 0, .int .i64 0, .int .i64 0, .int .i64 0, .int .i64 0, .int .i64 0, .int .i64 0, .int .i64 0, .int .i64 0, .int .i64 0, .int .i64 0, .int .i64 0, .int .i64 0, .int .i64 0, .int .i64 0, .int .i64 0, .int .i64 0, .int .i64 0]] w fun e w' => e = .returned (.bool true) ∧ w.grownBy w' none := by
  obtain ⟨X, hX⟩ : ∃ X, X = (#[.int .i64 0, .int .i64 0, .int .i64 0, .int .i64 0, .int .i64 0, .int .i64 0, .int .i64 0, .int .i64 0, .int .i64 0, .int .i64 0, .int .i64 0, .int .i64 0, .int .i64 0, .int .i64 0, .int .i64 0, .int .i64 0, .int .i64 0, .int .i64 0, .int .i64 0, .int .i64 0, .int .i64 0] : Array Value) := ⟨_, rfl⟩
  have hs : X.size = 21 := by rw [hX]; rfl
  have h0 : X[0] = .int .i64 0 := by subst hX; rfl
  have h1 : X[1] = .int .i64 0 := by subst hX; rfl
  have h2 : X[2] = .int .i64 0 := by subst hX; rfl
  have h3 : X[3] = .int .i64 0 := by subst hX; rfl
  have h4 : X[4] = .int .i64 0 := by subst hX; rfl
  have h5 : X.extract 5 21 = #[.int .i64 0, .int .i64 0, .int .i64 0, .int .i64 0, .int .i64 0, .int .i64 0, .int .i64 0, .int .i64 0, .int .i64 0, .int .i64 0, .int .i64 0, .int .i64 0, .int .i64 0, .int .i64 0, .int .i64 0, .int .i64 0] := by subst hX; rfl
  have e3 := eqNought
  have e48 := eqComps
  rw [← hX]
  clear hX
  go_enter Try.func43, Try.ntmps43
  go_wp2_with (refine wpList_load_row rfl 71 _ rfl w.heap.size rfl X 71 (heap_alloc_new _ _) _ Try.underlying71 rfl (by rw [hs]; kernel_rfl) ?_)
  go_ret
  exact ⟨rfl, grown_alloc (World.grownBy.refl _ _) _⟩

set_option maxHeartbeats 800000 in
theorem headOk (X : Array Value) (p wd ht rs n : Int) (C : Nat → Nat → Int) (hX : Fx X p wd ht rs n C) (t : Bool) (HT : Hid (headB p wd ht rs = t)) (w : World) :
    Calls Try.prog 79 #[.agg X] w fun e w' => e = .returned (.bool t) ∧ w.grownBy w' none := by
  have hs := hX.size
  have h0 := hX.c0
  have h1 := hX.c1
  have h2 := hX.c2
  have h3 := hX.c3
  have h0' : X[0] = .int .i64 p := by rw [Array.getElem?_eq_getElem (by omega)] at h0; simpa using h0
  have h1' : X[1] = .int .i64 wd := by rw [Array.getElem?_eq_getElem (by omega)] at h1; simpa using h1
  have h2' : X[2] = .int .i64 ht := by rw [Array.getElem?_eq_getElem (by omega)] at h2; simpa using h2
  have h3' : X[3] = .int .i64 rs := by rw [Array.getElem?_eq_getElem (by omega)] at h3; simpa using h3
  have hcase : (p = 8 ∨ p = 12) ∨ ((p != 8) = true ∧ (p != 12) = true ∧ (p == 8) = false ∧ (p == 12) = false) := by
    by_cases e8 : p = 8
    · exact .inl (.inl e8)
    · by_cases e12 : p = 12
      · exact .inl (.inr e12)
      · exact .inr (by simp [e8, e12])
  rcases hcase with hp | ⟨n8, n12, m8, m12⟩
  · obtain ⟨t1, HT1⟩ : ∃ t1, Hid (decide (1 ≤ wd ∧ wd ≤ 256) = t1) := ⟨_, rfl⟩
    obtain ⟨t2, HT2⟩ : ∃ t2, Hid (decide (1 ≤ ht ∧ ht ≤ 256) = t2) := ⟨_, rfl⟩
    obtain ⟨t4, HT4⟩ : ∃ t4, Hid (decide (0 ≤ rs ∧ rs ≤ 255) = t4) := ⟨_, rfl⟩
    have HP : Hid (t = (t1 && (t2 && (decide (wd * ht ≤ 16384) && t4)))) := by
      have e : (p == 8 || p == 12) = true := by rcases hp with rfl | rfl <;> rfl
      unfold Hid; rw [← unhide HT, headB, e, unhide HT1, unhide HT2, unhide HT4, Bool.true_and]
    clear HT
    cases t1
    · rcases hp with rfl | rfl
      all_goals
        go_enter Try.func79, Try.ntmps79
        go_wp2_with fail
        refine (inRange wd 1 256 _ HT1 _).mono ?_
        rintro e w1 ⟨rfl, rfl⟩
        go_wp2
        go_ret
        exact ⟨ret_bool (by rw [unhide HP]; rfl), grown_alloc (World.grownBy.refl _ _) _⟩
    · cases t2
      · rcases hp with rfl | rfl
        all_goals
          go_enter Try.func79, Try.ntmps79
          go_wp2_with fail
          refine (inRange wd 1 256 _ HT1 _).mono ?_
          rintro e w1 ⟨rfl, rfl⟩
          go_wp2_with fail
          refine (inRange ht 1 256 _ HT2 _).mono ?_
          rintro e w1 ⟨rfl, rfl⟩
          go_wp2
          go_ret
          exact ⟨ret_bool (by rw [unhide HP]; rfl), grown_alloc (World.grownBy.refl _ _) _⟩
      · have hb1 := of_decide_eq_true (unhide HT1)
        have hb2 := of_decide_eq_true (unhide HT2)
        have hm := mul_side hb1 hb2
        have hwr := i64_in (wd * ht) (by omega)
        clear hm hb1 hb2
        cases t3 : decide (wd * ht ≤ 16384)
        · rw [t3] at HP
          rcases hp with rfl | rfl
          all_goals
            go_enter Try.func79, Try.ntmps79
            go_wp2_with fail
            refine (inRange wd 1 256 _ HT1 _).mono ?_
            rintro e w1 ⟨rfl, rfl⟩
            go_wp2_with fail
            refine (inRange ht 1 256 _ HT2 _).mono ?_
            rintro e w1 ⟨rfl, rfl⟩
            go_wp2
            go_ret
            exact ⟨ret_bool (by rw [unhide HP]; rfl), grown_alloc (World.grownBy.refl _ _) _⟩
        · rw [t3] at HP
          rcases hp with rfl | rfl
          all_goals
            go_enter Try.func79, Try.ntmps79
            go_wp2_with fail
            refine (inRange wd 1 256 _ HT1 _).mono ?_
            rintro e w1 ⟨rfl, rfl⟩
            go_wp2_with fail
            refine (inRange ht 1 256 _ HT2 _).mono ?_
            rintro e w1 ⟨rfl, rfl⟩
            go_wp2_with fail
            refine (inRange rs 0 255 _ HT4 _).mono ?_
            rintro e w1 ⟨rfl, rfl⟩
            go_wp2
            go_ret
            exact ⟨ret_bool (by rw [unhide HP]; rfl), grown_alloc (World.grownBy.refl _ _) _⟩
  · have HP : Hid (t = false) := by unfold Hid; rw [← unhide HT, headB, m8, m12]; rfl
    clear HT m8 m12
    go_enter Try.func79, Try.ntmps79
    go_wp2
    go_ret
    exact ⟨ret_bool (by rw [unhide HP]), grown_alloc (World.grownBy.refl _ _) _⟩

set_option maxHeartbeats 800000 in
theorem compOk (c : Nat → Int) (t : Bool) (HT : Hid (compB c = t)) (w : World) :
    Calls Try.prog 89 #[.agg #[.int .i64 (c 0), .int .i64 (c 1), .int .i64 (c 2), .int .i64 (c 3)]] w fun e w' => e = .returned (.bool t) ∧ w.grownBy w' none := by
  obtain ⟨t1, HT1⟩ : ∃ t1, Hid (decide (0 ≤ c 0 ∧ c 0 ≤ 255) = t1) := ⟨_, rfl⟩
  obtain ⟨t2, HT2⟩ : ∃ t2, Hid (decide (1 ≤ c 1 ∧ c 1 ≤ 4) = t2) := ⟨_, rfl⟩
  obtain ⟨t3, HT3⟩ : ∃ t3, Hid (decide (1 ≤ c 2 ∧ c 2 ≤ 4) = t3) := ⟨_, rfl⟩
  obtain ⟨t4, HT4⟩ : ∃ t4, Hid (decide (0 ≤ c 3 ∧ c 3 ≤ 3) = t4) := ⟨_, rfl⟩
  have HP : Hid (t = (t1 && (t2 && (t3 && t4)))) := by unfold Hid; rw [← unhide HT, compB, unhide HT1, unhide HT2, unhide HT3, unhide HT4]
  clear HT
  generalize c 0 = c0 at *
  generalize c 1 = c1 at *
  generalize c 2 = c2 at *
  generalize c 3 = c3 at *
  cases t1
  · go_enter Try.func89, Try.ntmps89
    go_wp2_with fail
    refine (inRange c0 0 255 _ HT1 _).mono ?_
    rintro e w1 ⟨rfl, rfl⟩
    go_wp2
    go_ret
    exact ⟨ret_bool (by rw [unhide HP]; rfl), grown_alloc (World.grownBy.refl _ _) _⟩
  · cases t2
    · go_enter Try.func89, Try.ntmps89
      go_wp2_with fail
      refine (inRange c0 0 255 _ HT1 _).mono ?_
      rintro e w1 ⟨rfl, rfl⟩
      go_wp2_with fail
      refine (inRange c1 1 4 _ HT2 _).mono ?_
      rintro e w1 ⟨rfl, rfl⟩
      go_wp2
      go_ret
      exact ⟨ret_bool (by rw [unhide HP]; rfl), grown_alloc (World.grownBy.refl _ _) _⟩
    · cases t3
      · go_enter Try.func89, Try.ntmps89
        go_wp2_with fail
        refine (inRange c0 0 255 _ HT1 _).mono ?_
        rintro e w1 ⟨rfl, rfl⟩
        go_wp2_with fail
        refine (inRange c1 1 4 _ HT2 _).mono ?_
        rintro e w1 ⟨rfl, rfl⟩
        go_wp2_with fail
        refine (inRange c2 1 4 _ HT3 _).mono ?_
        rintro e w1 ⟨rfl, rfl⟩
        go_wp2
        go_ret
        exact ⟨ret_bool (by rw [unhide HP]; rfl), grown_alloc (World.grownBy.refl _ _) _⟩
      · go_enter Try.func89, Try.ntmps89
        go_wp2_with fail
        refine (inRange c0 0 255 _ HT1 _).mono ?_
        rintro e w1 ⟨rfl, rfl⟩
        go_wp2_with fail
        refine (inRange c1 1 4 _ HT2 _).mono ?_
        rintro e w1 ⟨rfl, rfl⟩
        go_wp2_with fail
        refine (inRange c2 1 4 _ HT3 _).mono ?_
        rintro e w1 ⟨rfl, rfl⟩
        go_wp2_with fail
        refine (inRange c3 0 3 _ HT4 _).mono ?_
        rintro e w1 ⟨rfl, rfl⟩
        go_wp2
        go_ret
        exact ⟨ret_bool (by rw [unhide HP]; rfl), grown_alloc (World.grownBy.refl _ _) _⟩

end Go.Proofs.Ytnjcmlmgjoaeeaa

namespace Go.Proofs.Ytnjcmlmgjoaeeaa
open Go.RowKit

/-- The cells of component i, where the frame lies. -/
theorem fx_cell {X : Array Value} {p wd ht rs n : Int} {C : Nat → Nat → Int} (hX : Fx X p wd ht rs n C) {w : World} {g : Nat} {t : TypeId} (hb : w.heap[g]? = some (.cells X t (0, 0))) (i j : Nat) (hi : i < 4) (hj : j < 4) :
    w.cell? ⟨g, 5 + i * 4 + j, none⟩ = some (.int .i64 (C i j)) := by rw [cell_of_row w g _ X t (0, 0) hb]; exact hX.comp i j hi hj

set_option maxHeartbeats 800000 in
theorem idAhead (X : Array Value) (p wd ht rs n : Int) (C : Nat → Nat → Int) (hX : Fx X p wd ht rs n C) (m : Nat) (hm : m < 4) (t : Bool) (HT : Hid (idIn C m m = t)) (w : World) :
    Calls Try.prog 90 #[.agg X, .int .i64 m] w fun e w' => e = .returned (.bool t) ∧ w.grownBy w' none := by
  have HX := hide hX
  have hs := hX.size
  have HB := hide (heap_alloc_new w (.cells X 71))
  have G0 : Hid (w.grownBy (w.alloc (.cells X 71)) none) := grown_alloc (World.grownBy.refl _ _) _
  have hgs : w.heap.size < (w.alloc (.cells X 71)).heap.size := by simp
  clear hX
  go_enter Try.func90, Try.ntmps90
  go_wp2
  generalize (w.alloc (.cells X 71)) = wx at *
  go_loopw [7] (fun i wr => ∃ k : Nat, k ≤ m ∧ i = .int .i64 k ∧ idIn C m k = false ∧ wx.grownBy wr none) (fun i _ => m - (intOf i).toNat)
  case atStart => exact ⟨0, Nat.zero_le _, rfl, rfl, World.grownBy.refl _ _⟩
  case round =>
    obtain ⟨k, hk, rfl, hid, hgk⟩ := hrel
    by_cases hlt : k < m
    · have hB := (hgk.block w.heap.size hgs (by simp)).trans (unhide HB)
      have hck := fx_cell (unhide HX) hB k 0 (by omega) (by omega)
      have hcm := fx_cell (unhide HX) hB m 0 (by omega) (by omega)
      rw [Nat.add_zero] at hck hcm
      have HST : Hid (idIn C m (k + 1) = (idIn C m k || (C k 0 == C m 0))) := rfl
      have HTR : Hid ((C k 0 == C m 0) = true → t = true) := fun h => by rw [← unhide HT]; exact idIn_true h m hlt
      have HID := hide hid
      clear hB hid
      generalize C k 0 = x at *
      generalize C m 0 = y at *
      cases hxy : (x == y) with
      | false =>
        have HXY := hide hxy
        go_wp2
        go_quiet (fail)
        go_wp2
        go_roundw
        case rel => exact ⟨k + 1, by omega, by go_num, by rw [unhide HST, unhide HID, unhide HXY]; rfl, grown_drewN hgk _⟩
        case measure => simp [intOf]; omega
      | true =>
        have HXY := hide hxy
        go_wp2
        go_quiet (fail)
        go_wp2
        go_ret
        exact ⟨ret_bool (by rw [unhide HTR (unhide HXY)]), grown_trans (unhide G0) (grown_drewN hgk _)⟩
    · have hkm : k = m := by omega
      subst hkm
      have HF : Hid (t = false) := by unfold Hid; rw [← unhide HT, hid]
      clear hid
      go_wp2
      go_ret
      exact ⟨ret_bool (by rw [unhide HF]), grown_trans (unhide G0) hgk⟩

set_option maxHeartbeats 1600000 in
theorem compsOk (X : Array Value) (p wd ht rs : Int) (n : Nat) (C : Nat → Nat → Int) (hX : Fx X p wd ht rs n C) (t : Bool) (HT : Hid (compsB n C = t)) (w : World) :
    Calls Try.prog 80 #[.agg X] w fun e w' => e = .returned (.bool t) ∧ w.grownBy w' none := by
  have HX := hide hX
  have hs := hX.size
  have h4 := hX.c4
  have h4' : X[4] = .int .i64 n := by rw [Array.getElem?_eq_getElem (by omega)] at h4; simpa using h4
  have HB := hide (heap_alloc_new w (.cells X 71))
  have G0 : Hid (w.grownBy (w.alloc (.cells X 71)) none) := grown_alloc (World.grownBy.refl _ _) _
  have hgs : w.heap.size < (w.alloc (.cells X 71)).heap.size := by simp
  clear hX
  by_cases hn : 1 ≤ (n : Int) ∧ (n : Int) ≤ 4
  · have HN : Hid (decide (1 ≤ (n : Int) ∧ (n : Int) ≤ 4) = true) := decide_eq_true hn
    have HR : Hid (t = (okTo C n && decide (sumHV C n ≤ 10))) := by unfold Hid; rw [← unhide HT, compsB, unhide HN, Bool.true_and]
    clear HT
    have hn4 : n ≤ 4 := by omega
    go_enter Try.func80, Try.ntmps80
    go_wp2_with fail
    refine (inRange n 1 4 _ HN _).mono ?_
    rintro e w1 ⟨rfl, rfl⟩
    go_wp2
    generalize (w.alloc (.cells X 71)) = wx at *
    go_loopw [3, 12] (fun b i wr => ∃ k : Nat, k ≤ n ∧ i = .int .i64 k ∧ b = .int .i64 (sumHV C k) ∧ okTo C k = true ∧ wx.grownBy wr none) (fun _ i _ => n - (intOf i).toNat)
    case atStart => exact ⟨0, Nat.zero_le _, rfl, rfl, rfl, World.grownBy.refl _ _⟩
    case round =>
      obtain ⟨k, hk, rfl, rfl, hok, hgk⟩ := hrel
      by_cases hlt : k < n
      · have hB := (hgk.block w.heap.size hgs (by simp)).trans (unhide HB)
        have h0 := fx_cell (unhide HX) hB k 0 (by omega) (by omega)
        have h1 := fx_cell (unhide HX) hB k 1 (by omega) (by omega)
        have h2 := fx_cell (unhide HX) hB k 2 (by omega) (by omega)
        have h3 := fx_cell (unhide HX) hB k 3 (by omega) (by omega)
        rw [Nat.add_zero] at h0
        have HBK := hide hB
        have HOK := hide hok
        have HSB := hide (sumHV_bounds k hok)
        have HS1 : Hid (okTo C (k + 1) = (okTo C k && (compB (C k) && !idIn C k k))) := rfl
        have HS2 : Hid (sumHV C (k + 1) = sumHV C k + C k 1 * C k 2) := rfl
        have STOP : Hid ((compB (C k) && !idIn C k k) = false → t = false) := fun h => by rw [unhide HR, okTo_false (k := k + 1) (by rw [unhide HS1, h, Bool.and_false]) n hlt]; rfl
        have hsz := hgk.size
        obtain ⟨t1, HT1⟩ : ∃ t1, Hid (compB (C k) = t1) := ⟨_, rfl⟩
        obtain ⟨t2, HT2⟩ : ∃ t2, Hid (idIn C k k = t2) := ⟨_, rfl⟩
        rw [unhide HT1, unhide HT2] at STOP HS1
        have HCK := hide (heap_alloc_new wr (.cells #[.int .i64 (C k 0), .int .i64 (C k 1), .int .i64 (C k 2), .int .i64 (C k 3)] 68))
        have GK : Hid (wr.grownBy (wr.alloc (.cells #[.int .i64 (C k 0), .int .i64 (C k 1), .int .i64 (C k 2), .int .i64 (C k 3)] 68)) none) := grown_alloc (World.grownBy.refl _ _) _
        have hgz : wr.heap.size < (wr.alloc (.cells #[.int .i64 (C k 0), .int .i64 (C k 1), .int .i64 (C k 2), .int .i64 (C k 3)] 68)).heap.size := by simp
        clear hB hok
        go_wp2_with fail
        refine (compOk (C k) t1 HT1 _).mono ?_
        generalize (wr.alloc (.cells #[.int .i64 (C k 0), .int .i64 (C k 1), .int .i64 (C k 2), .int .i64 (C k 3)] 68)) = wy at *
        rintro e w2 ⟨rfl, g2⟩
        have G2 := grown_trans hgk (grown_trans (unhide GK) g2)
        cases t1
        · go_wp2
          go_ret
          exact ⟨ret_bool (by rw [unhide STOP rfl]), grown_trans (unhide G0) G2⟩
        · have hB2 := (G2.block w.heap.size hgs (by simp)).trans (unhide HB)
          go_wp2_with (refine wpList_load_row rfl 71 _ rfl w.heap.size rfl X 71 hB2 _ Try.underlying71 rfl (by rw [hs]; kernel_rfl) ?_)
          refine (idAhead X p wd ht rs n C (unhide HX) k (by omega) t2 HT2 _).mono ?_
          rintro e w3 ⟨rfl, g3⟩
          have G3 := grown_trans G2 g3
          cases t2
          · have hbk := (grown_trans g2 g3).block wr.heap.size hgz (by simp)
            have hbk' := hbk.trans (unhide HCK)
            have c1 : w3.cell? ⟨wr.heap.size, 1, none⟩ = some (.int .i64 (C k 1)) := by rw [cell_of_row w3 _ 1 _ _ (0, 0) hbk']; rfl
            have c2 : w3.cell? ⟨wr.heap.size, 2, none⟩ = some (.int .i64 (C k 2)) := by rw [cell_of_row w3 _ 2 _ _ (0, 0) hbk']; rfl
            obtain ⟨_, hb1, hb2, _⟩ := compB_bounds (unhide HT1)
            have hmul := mul_small hb1 hb2
            have hsb := unhide HSB
            clear hbk hbk' hb1 hb2 hB2 h0 h1 h2 h3
            generalize C k 1 = x at *
            generalize C k 2 = y at *
            have hw1 := i64_in (x * y) (by omega)
            have hw2 := i64_in (sumHV C k + x * y) (by omega)
            generalize hxy : x * y = z at *
            have HXY := hide hxy
            clear hxy
            generalize sumHV C k = sm at *
            go_wp2
            go_roundw
            case rel => exact ⟨k + 1, by omega, by go_num, by rw [unhide HXY, IntWalk.wrap64_in z (by omega), IntWalk.wrap64_in (sm + z) (by omega), unhide HS2], by rw [unhide HS1, unhide HOK]; rfl, G3⟩
            case measure => simp [intOf]; omega
          · go_wp2
            go_ret
            exact ⟨ret_bool (by rw [unhide STOP rfl]), grown_trans (unhide G0) G3⟩
      · have hkn : k = n := by omega
        subst hkn
        have HF : Hid (t = decide (sumHV C k ≤ 10)) := by unfold Hid; rw [unhide HR, hok, Bool.true_and]
        have hsb := sumHV_bounds k hok
        clear hok
        go_wp2
        go_ret
        exact ⟨ret_bool (by rw [unhide HF]), grown_trans (unhide G0) hgk⟩
  · have HN : Hid (decide (1 ≤ (n : Int) ∧ (n : Int) ≤ 4) = false) := decide_eq_false hn
    have HF : Hid (t = false) := by unfold Hid; rw [← unhide HT, compsB, unhide HN, Bool.false_and]
    clear HT hn
    go_enter Try.func80, Try.ntmps80
    go_wp2_with fail
    refine (inRange n 1 4 _ HN _).mono ?_
    rintro e w1 ⟨rfl, rfl⟩
    go_wp2
    go_ret
    exact ⟨ret_bool (by rw [unhide HF]), unhide G0⟩

end Go.Proofs.Ytnjcmlmgjoaeeaa

namespace Go.Proofs.Ytnjcmlmgjoaeeaa
open Go.RowKit

theorem grown_setRow (w : World) (g : Nat) (X : Array Value) : w.grownBy (w.setRow g X) (some g) :=
  ⟨rfl, rfl, rfl, by simp [World.setRow], fun k _ hk => setRow_other w g k X (fun e => hk (by simp [e]))⟩

theorem wpList_store_row {P : Program} {ops : Array Oper} {rest : List Oper} {op : Oper} {a : Act} {w : World} {Q : Exit → Act → World → Prop} (hw : Region.wanted op (yielded ops a.tmps) = true) (ty : TypeId) (x y : Operand) (ho : op.op = .store ty x y)
    (b : Nat) (hx : a.eval x = .pointer (some ⟨b, 0, none⟩)) (X : Array Value) (hy : a.eval y = .agg X) (Y : Array Value) (t : TypeId) (hb : w.heap[b]? = some (.cells Y t (0, 0))) (hYX : Y.size = X.size)
    (hi : (P.info? ty).map (·.size) = some X.size) (h1 : X.all (·.oneCell') = true)
    (h : ∀ w', w'.heap[b]? = some (.cells X t (0, 0)) → w.grownBy w' (some b) → wpList P ops Q rest (a.put op.dst undef) w') : wpList P ops Q (op :: rest) a w :=
  BigFrame.wpList_want hw fun K hK => by
    unfold Oper.wp execOp
    simp only [ho, hx, hy, Instr.storeAt, Instr.sureAddr, Sem.run_bind, Sem.run_pure, Result.andThen_ok, run_storeVar_row w b t ty Y X hb hi hYX h1]
    exact hK _ _ (h _ (setRow_heap w b Y X t _ hb) (grown_setRow w b X))

/-- Copying elements of so many cells each. -/
theorem run_copyK {P : Program} (w : World) (dT sT ty elem : TypeId) (sz : Nat) (g off dLen dCap : Nat) (sp : Option Addr) (sLen sCap : Nat) (cur : Array Value) (t : TypeId) (cs : List Value)
    (hu : P.underlying dT = some (.slice elem)) (hs : (P.info? elem).map (·.size) = some sz) (hg : w.heap[g]? = some (.cells cur t (0, 0))) (hn : cs.length = Nat.min sLen dLen * sz)
    (hpos : 0 < cs.length → ∃ ad, sp = some ad ∧ ∀ j v, cs[j]? = some v → w.cell? (ad.add j) = some v) (hfit : off + cs.length ≤ cur.size) (h1 : ∀ v ∈ cs, v.oneCell' = true) :
    (Builtin.copy_ #[dT, sT] ty #[.slice (some ⟨g, off, none⟩) dLen dCap, .slice sp sLen sCap]).run P w = .ok (goInt (Nat.min sLen dLen)) (w.setRow g (cur.toList.take off ++ cs ++ cur.toList.drop (off + cs.length)).toArray) := by
  have hst := run_storeCells_at P g off t cs 0 cur w hg (by simpa using hfit) h1
  cases hq : P.info? elem with
  | none => simp [hq] at hs
  | some i =>
    have hi : i.size = sz := by simpa [hq] using hs
    by_cases h0 : cs.length = 0
    · obtain rfl : cs = [] := List.eq_nil_of_length_eq_zero h0
      have hz : Nat.min sLen dLen * sz = 0 := by simpa using hn.symm
      have hl : ∀ (x : Addr), (loadCells x 0).run P w = .ok #[] w := fun x => by simpa using run_loadCells_list (P := P) w x [] (by simp)
      have hst' : (storeCells ⟨g, off, none⟩ [] 0).run P w = .ok () (w.setRow g cur) := by simpa using hst
      cases sp <;> simp [Builtin.copy_, run_underlying hu, Builtin.lenOf, Builtin.firstCells, sizeOf, typeInfo, hq, hi, hz, hl, hst']
    · obtain ⟨ad, rfl, hsrc⟩ := hpos (by omega)
      have hl := run_loadCells_list (P := P) w ad cs hsrc
      simp [Builtin.copy_, run_underlying hu, Builtin.lenOf, Builtin.firstCells, sizeOf, typeInfo, hq, hi, ← hn, hl, hst]

theorem step_copyK {P : Program} {ops : Array Oper} {o : Oper} {a : Act} {w : World} {K : Act → World → Prop} {Q : Exit → Act → World → Prop} {E : Prop} (hgd : o.guard = none) (d s : Operand) (dT sT : TypeId)
    (ho : o.op = .call { callee := .builtin .copy, args := #[d, s], argTypes := #[dT, sT] }) (elem : TypeId) (hu : P.underlying dT = some (.slice elem)) (sz : Nat) (hsz : (P.info? elem).map (·.size) = some sz)
    (g off dLen dCap : Nat) (sp : Option Addr) (sLen sCap : Nat) (hd : a.eval d = .slice (some ⟨g, off, none⟩) dLen dCap) (hs : a.eval s = .slice sp sLen sCap)
    (cur : Array Value) (t : TypeId) (hg : w.heap[g]? = some (.cells cur t (0, 0))) (cs : List Value) (hn : cs.length = Nat.min sLen dLen * sz)
    (hpos : 0 < cs.length → ∃ ad, sp = some ad ∧ ∀ j v, cs[j]? = some v → w.cell? (ad.add j) = some v) (hfit : off + cs.length ≤ cur.size) (h1 : ∀ v ∈ cs, v.oneCell' = true)
    (h : ∀ w', Hid (w'.heap[g]? = some (.cells (cur.toList.take off ++ cs ++ cur.toList.drop (off + cs.length)).toArray t (0, 0))) → w.grownBy w' (some g) → K (a.put o.dst (goInt (Nat.min sLen dLen))) w') :
    if Region.wanted o (yielded ops a.tmps) = true then Oper.wp P o a w K Q else E := by
  have hw : Region.wanted o (yielded ops a.tmps) = true := by simp [Region.wanted, hgd]
  rw [if_pos hw]
  have hrun := run_copyK (P := P) w dT sT o.type elem sz g off dLen dCap sp sLen sCap cur t cs hu hsz hg hn hpos hfit h1
  unfold Oper.wp
  simp only [execOp, ho, resolve, invoke, builtin, Sem.run_bind, Sem.run_pure, Result.andThen_ok, List.map_toArray, List.map_cons, List.map_nil, hd, hs, hrun]
  exact h _ (setRow_heap w g _ _ t _ hg) (grown_setRow w g _)

theorem Fx.one {X : Array Value} {p wd ht rs n : Int} {C : Nat → Nat → Int} (hX : Fx X p wd ht rs n C) : X.all (·.oneCell') = true := by
  rw [Array.all_eq_true]
  intro i hi
  have hs := hX.size
  have key : ∀ v, X[i]? = some v → v.oneCell' = true → (X[i]).oneCell' = true := by
    intro v hv h
    rw [Array.getElem?_eq_getElem hi] at hv
    simp at hv
    rw [hv]; exact h
  by_cases h5 : i < 5
  · have : i = 0 ∨ i = 1 ∨ i = 2 ∨ i = 3 ∨ i = 4 := by omega
    rcases this with rfl | rfl | rfl | rfl | rfl
    · exact key _ hX.c0 rfl
    · exact key _ hX.c1 rfl
    · exact key _ hX.c2 rfl
    · exact key _ hX.c3 rfl
    · exact key _ hX.c4 rfl
  · have e : i = 5 + (i - 5) / 4 * 4 + (i - 5) % 4 := by omega
    have hc := hX.comp ((i - 5) / 4) ((i - 5) % 4) (by omega) (by omega)
    rw [← e] at hc
    exact key _ hc rfl

theorem loadFx {w : World} {g : Nat} {X : Array Value} (hs : X.size = 21) (hb : w.heap[g]? = some (.cells X 71 (0, 0))) : (loadVar 71 ⟨g, 0, none⟩).run Try.prog w = .ok (.agg X) w :=
  run_loadVar_row w g 71 71 X (0, 0) _ hb Try.underlying71 rfl (by rw [hs]; kernel_rfl)

theorem results_cell1 {fn : Func} {p : Tmp} {ty : TypeId} (h : fn.results = #[.cell p ty]) (tmps : Array Value) (P : Program) (w : World) :
    (results fn tmps).run P w = ((asAddr (tmps.getD p undef)).run P w).andThen fun a w₁ => (loadVar ty a).run P w₁ := by
  simp only [results, h]
  simp [Sem.run_bind, Result.andThen]

set_option maxRecDepth 100000 in
set_option maxHeartbeats 1600000 in
theorem orNone (X : Array Value) (p wd ht rs : Int) (n : Nat) (C : Nat → Nat → Int) (hX : Fx X p wd ht rs n C) (R : Array Value) (HR : Hid ((if frameB p wd ht rs n C = true then X else #[.int .i64 0, .int .i64 0, .int .i64 0, .int .i64 0, .int .i64 0, .int .i64 0, .int .i64 0, .int .i64 0, .int .i64 0, .int .i64 0, .int .i64 0, .int .i64 0, .int .i64 0, .int .i64 0, .int .i64 0, .int .i64 0, .int .i64 0, .int .i64 0, .int .i64 0, .int .i64 0, .int .i64 0]) = R)) (w : World) :
    Calls Try.prog 68 #[.agg X] w fun e w' => e = .returned (.agg R) ∧ w.grownBy w' none := by
  have HX := hide hX
  have hs := hX.size
  obtain ⟨t1, HT1⟩ : ∃ t1, Hid (headB p wd ht rs = t1) := ⟨_, rfl⟩
  obtain ⟨t2, HT2⟩ : ∃ t2, Hid (compsB n C = t2) := ⟨_, rfl⟩
  have HH : Hid (frameB p wd ht rs n C = (t1 && t2)) := by unfold Hid; rw [frameB, unhide HT1, unhide HT2]
  obtain ⟨Z, hZ⟩ : ∃ Z, (#[.int .i64 0, .int .i64 0, .int .i64 0, .int .i64 0, .int .i64 0, .int .i64 0, .int .i64 0, .int .i64 0, .int .i64 0, .int .i64 0, .int .i64 0, .int .i64 0, .int .i64 0, .int .i64 0, .int .i64 0, .int .i64 0, .int .i64 0, .int .i64 0, .int .i64 0, .int .i64 0, .int .i64 0] : Array Value) = Z := ⟨_, rfl⟩
  have hsz : Z.size = 21 := by rw [← hZ]; rfl
  have HZ1 : Hid (Z.all (·.oneCell') = true) := by unfold Hid; rw [← hZ]; decide +kernel
  have HZ := hide hZ
  rw [hZ] at HR
  have hB0 : ((w.alloc (.cells X 71)).alloc (.cells #[.int .i64 0, .int .i64 0, .int .i64 0, .int .i64 0, .int .i64 0, .int .i64 0, .int .i64 0, .int .i64 0, .int .i64 0, .int .i64 0, .int .i64 0, .int .i64 0, .int .i64 0, .int .i64 0, .int .i64 0, .int .i64 0, .int .i64 0, .int .i64 0, .int .i64 0, .int .i64 0, .int .i64 0] 71)).heap[w.heap.size]? = some (.cells X 71 (0, 0)) := by rw [Below.heap_alloc _ _ _ (by simp)]; exact heap_alloc_new _ _
  have hB1 : ((w.alloc (.cells X 71)).alloc (.cells #[.int .i64 0, .int .i64 0, .int .i64 0, .int .i64 0, .int .i64 0, .int .i64 0, .int .i64 0, .int .i64 0, .int .i64 0, .int .i64 0, .int .i64 0, .int .i64 0, .int .i64 0, .int .i64 0, .int .i64 0, .int .i64 0, .int .i64 0, .int .i64 0, .int .i64 0, .int .i64 0, .int .i64 0] 71)).heap[w.heap.size + 1]? = some (.cells #[.int .i64 0, .int .i64 0, .int .i64 0, .int .i64 0, .int .i64 0, .int .i64 0, .int .i64 0, .int .i64 0, .int .i64 0, .int .i64 0, .int .i64 0, .int .i64 0, .int .i64 0, .int .i64 0, .int .i64 0, .int .i64 0, .int .i64 0, .int .i64 0, .int .i64 0, .int .i64 0, .int .i64 0] 71 (0, 0)) := by have := heap_alloc_new (w.alloc (.cells X 71)) (.cells #[.int .i64 0, .int .i64 0, .int .i64 0, .int .i64 0, .int .i64 0, .int .i64 0, .int .i64 0, .int .i64 0, .int .i64 0, .int .i64 0, .int .i64 0, .int .i64 0, .int .i64 0, .int .i64 0, .int .i64 0, .int .i64 0, .int .i64 0, .int .i64 0, .int .i64 0, .int .i64 0, .int .i64 0] 71); simpa using this
  have hgs : ((w.alloc (.cells X 71)).alloc (.cells #[.int .i64 0, .int .i64 0, .int .i64 0, .int .i64 0, .int .i64 0, .int .i64 0, .int .i64 0, .int .i64 0, .int .i64 0, .int .i64 0, .int .i64 0, .int .i64 0, .int .i64 0, .int .i64 0, .int .i64 0, .int .i64 0, .int .i64 0, .int .i64 0, .int .i64 0, .int .i64 0, .int .i64 0] 71)).heap.size = w.heap.size + 2 := by simp
  have G0 : w.grownBy ((w.alloc (.cells X 71)).alloc (.cells #[.int .i64 0, .int .i64 0, .int .i64 0, .int .i64 0, .int .i64 0, .int .i64 0, .int .i64 0, .int .i64 0, .int .i64 0, .int .i64 0, .int .i64 0, .int .i64 0, .int .i64 0, .int .i64 0, .int .i64 0, .int .i64 0, .int .i64 0, .int .i64 0, .int .i64 0, .int .i64 0, .int .i64 0] 71)) none := grown_alloc (grown_alloc (World.grownBy.refl _ _) _) _
  clear hX hZ
  have HB0 := hide hB0
  have HB1 := hide hB1
  have HGS := hide hgs
  clear hB0 hB1 hgs
  go_enter Try.func68, Try.ntmps68
  go_wp2_with (refine wpList_load_row rfl 71 _ rfl w.heap.size rfl X 71 (unhide HB0) _ Try.underlying71 rfl (by rw [hs]; kernel_rfl) ?_)
  generalize ((w.alloc (.cells X 71)).alloc (.cells #[.int .i64 0, .int .i64 0, .int .i64 0, .int .i64 0, .int .i64 0, .int .i64 0, .int .i64 0, .int .i64 0, .int .i64 0, .int .i64 0, .int .i64 0, .int .i64 0, .int .i64 0, .int .i64 0, .int .i64 0, .int .i64 0, .int .i64 0, .int .i64 0, .int .i64 0, .int .i64 0, .int .i64 0] 71)) = wx at *
  refine (headOk X p wd ht rs n C (unhide HX) t1 HT1 _).mono ?_
  rintro e w2 ⟨rfl, g2⟩
  have hB0 := (g2.block w.heap.size (by have := unhide HGS; omega) (by simp)).trans (unhide HB0)
  have hB1 := (g2.block (w.heap.size + 1) (by have := unhide HGS; omega) (by simp)).trans (unhide HB1)
  rw [unhide HZ] at hB1
  have G2 := grown_trans G0 g2
  cases t1
  · have HE : Hid (R = Z) := by unfold Hid; rw [← unhide HR, unhide HH]; rfl
    go_wp2_with (refine wpList_store_row rfl 71 _ _ rfl (w.heap.size + 1) rfl Z (congrArg _ (unhide HZ)) Z 71 hB1 rfl (by rw [hsz]; kernel_rfl) (unhide HZ1) ?_; intro w3 hB3 g3)
    refine bodyPost_ret (v := .agg Z) ?_ rfl ⟨by rw [unhide HE], ?_⟩
    · rw [results_cell1 rfl]
      exact loadFx hsz hB3
    · exact grown_new G2 g3 (fun g e => by simp at e; omega)
  · go_wp2_with (refine wpList_load_row rfl 71 _ rfl w.heap.size rfl X 71 hB0 _ Try.underlying71 rfl (by rw [hs]; kernel_rfl) ?_)
    refine (compsOk X p wd ht rs n C (unhide HX) t2 HT2 _).mono ?_
    rintro e w4 ⟨rfl, g4⟩
    have hB0' := (g4.block w.heap.size (by have := unhide HGS; have := g2.size; omega) (by simp)).trans hB0
    have hB1' := (g4.block (w.heap.size + 1) (by have := unhide HGS; have := g2.size; omega) (by simp)).trans hB1
    have G4 := grown_trans G2 g4
    clear hB0 hB1
    cases t2
    · have HE : Hid (R = Z) := by unfold Hid; rw [← unhide HR, unhide HH]; rfl
      go_wp2_with (refine wpList_store_row rfl 71 _ _ rfl (w.heap.size + 1) rfl Z (congrArg _ (unhide HZ)) Z 71 hB1' rfl (by rw [hsz]; kernel_rfl) (unhide HZ1) ?_; intro w3 hB3 g3)
      refine bodyPost_ret (v := .agg Z) ?_ rfl ⟨by rw [unhide HE], ?_⟩
      · rw [results_cell1 rfl]
        exact loadFx hsz hB3
      · exact grown_new G4 g3 (fun g e => by simp at e; omega)
    · have HE : Hid (R = X) := by unfold Hid; rw [← unhide HR, unhide HH]; rfl
      go_wp2_with (first | (refine wpList_load_row rfl 71 _ rfl w.heap.size rfl X 71 hB0' _ Try.underlying71 rfl (by rw [hs]; kernel_rfl) ?_) | (refine wpList_store_row rfl 71 _ _ rfl (w.heap.size + 1) rfl X rfl Z 71 hB1' (by rw [hs, hsz]) (by rw [hs]; kernel_rfl) (unhide HX).one ?_; intro w3 hB3 g3))
      refine bodyPost_ret (v := .agg X) ?_ rfl ⟨by rw [unhide HE], ?_⟩
      · rw [results_cell1 rfl]
        exact loadFx hs hB3
      · exact grown_new G4 g3 (fun g e => by simp at e; omega)

/-- What is read through a slice of components: four numbers each. -/
def RdC (w : World) (ao : Option Addr) (n : Nat) (C : Nat → Nat → Int) : Prop :=
  ∀ i, i < n → ∃ b off, ao = some ⟨b, off, none⟩ ∧ ∀ j, j < 4 → w.cell? ⟨b, off + i * 4 + j, none⟩ = some (.int .i64 (C i j))
theorem RdC.grown {w w' : World} {ao : Option Addr} {n : Nat} {C : Nat → Nat → Int} (h : RdC w ao n C) (hg : w.grownBy w' none) : RdC w' ao n C :=
  fun i hi => by obtain ⟨b, off, e, hc⟩ := h i hi; exact ⟨b, off, e, fun j hj => hg.cell (hc j hj) (by simp)⟩

def compCells (C : Nat → Nat → Int) : Nat → Nat → Value := fun i j => .int .i64 (C i j)

theorem rdC_src {w : World} {ao : Option Addr} {n m : Nat} {C : Nat → Nat → Int} (h : RdC w ao n C) (hm : m ≤ n) : 0 < (rowsK m 4 (compCells C)).length → ∃ ad, ao = some ad ∧ ∀ j v, (rowsK m 4 (compCells C))[j]? = some v → w.cell? (ad.add j) = some v := by
  intro hp
  rw [rowsK_len] at hp
  obtain ⟨b, off, rfl, _⟩ := h 0 (by omega)
  refine ⟨_, rfl, fun j v hv => ?_⟩
  have hj : j < m * 4 := by have := (List.getElem?_eq_some_iff.1 hv).1; rwa [rowsK_len] at this
  obtain ⟨b', off', e, hc⟩ := h (j / 4) (by omega)
  simp only [Option.some.injEq, Addr.mk.injEq] at e
  obtain ⟨rfl, rfl, _⟩ := e
  have hd : j = j / 4 * 4 + j % 4 := by omega
  have hg := rowsK_get m 4 (compCells C) (j / 4) (j % 4) (by omega) (by omega)
  rw [← hd] at hg
  rw [hg] at hv
  simp at hv
  subst hv
  rw [Addr.add_lit]
  have := hc (j % 4) (by omega)
  rw [Nat.add_assoc, ← hd] at this
  exact this

theorem rowsK_one {m k : Nat} {f : Nat → Nat → Value} (h : ∀ i j, (f i j).oneCell' = true) : ∀ v ∈ rowsK m k f, v.oneCell' = true := by
  intro v hv
  obtain ⟨c, _, rfl⟩ := List.mem_map.1 hv
  exact h _ _

/-- The frame's cells behind the copy. -/
theorem fx_copied {cur : Array Value} {p wd ht rs n : Int} {D : Nat → Nat → Int} (h : Fx cur p wd ht rs n D) (m : Nat) (C : Nat → Nat → Int) (hm : m ≤ 4) :
    Fx (cur.toList.take 5 ++ rowsK m 4 (compCells C) ++ cur.toList.drop (5 + (rowsK m 4 (compCells C)).length)).toArray p wd ht rs n (fun i j => if i < m then C i j else D i j) := by
  have hs := h.size
  have hl : (cur.toList.take 5).length = 5 := by simp; omega
  have low : ∀ k, k < 5 → (cur.toList.take 5 ++ rowsK m 4 (compCells C) ++ cur.toList.drop (5 + (rowsK m 4 (compCells C)).length)).toArray[k]? = cur[k]? := by
    intro k hk
    rw [List.getElem?_toArray, List.append_assoc, List.getElem?_append_left (by omega), List.getElem?_take, if_pos hk]
    simp
  refine ⟨by simp [rowsK_len]; omega, (low 0 (by omega)).trans h.c0, (low 1 (by omega)).trans h.c1, (low 2 (by omega)).trans h.c2, (low 3 (by omega)).trans h.c3, (low 4 (by omega)).trans h.c4, fun i j hi hj => ?_⟩
  rw [List.getElem?_toArray]
  by_cases him : i < m
  · rw [List.getElem?_append_left (by rw [List.length_append, hl, rowsK_len]; omega), List.getElem?_append_right (by omega), hl, show 5 + i * 4 + j - 5 = i * 4 + j by omega, rowsK_get m 4 _ i j him hj, if_pos him]
    rfl
  · rw [List.getElem?_append_right (by rw [List.length_append, hl, rowsK_len]; omega), List.length_append, hl, rowsK_len, List.getElem?_drop, if_neg him, show 5 + m * 4 + (5 + i * 4 + j - (5 + m * 4)) = 5 + i * 4 + j by omega]
    have := h.comp i j hi hj
    simpa using this

set_option maxRecDepth 100000 in
set_option maxHeartbeats 1600000 in
theorem fixFrame (p wd ht rs : Int) (ao : Option Addr) (n cap : Nat) (C : Nat → Nat → Int) (w : World) (hr : RdC w ao n C) (hn : n ≤ 4194304) (b : Bool) (HFB : Hid (frameB p wd ht rs n C = b)) :
    Calls Try.prog 42 #[.agg #[.int .i64 p, .int .i64 wd, .int .i64 ht, .int .i64 rs, .slice ao n cap]] w fun e w' => ∃ X, e = .returned (.agg X) ∧ (b = false → X = #[.int .i64 0, .int .i64 0, .int .i64 0, .int .i64 0, .int .i64 0, .int .i64 0, .int .i64 0, .int .i64 0, .int .i64 0, .int .i64 0, .int .i64 0, .int .i64 0, .int .i64 0, .int .i64 0, .int .i64 0, .int .i64 0, .int .i64 0, .int .i64 0, .int .i64 0, .int .i64 0, .int .i64 0]) ∧ (b = true → ∃ D, Fx X p wd ht rs n D ∧ ∀ i, i < n → D i = C i) ∧ w.grownBy w' none := by
  have HR := hide hr
  clear hr
  obtain ⟨X0, hX0⟩ : ∃ X0 : Array Value, #[.int .i64 p, .int .i64 wd, .int .i64 ht, .int .i64 rs, .int .i64 n, .int .i64 0, .int .i64 0, .int .i64 0, .int .i64 0, .int .i64 0, .int .i64 0, .int .i64 0, .int .i64 0, .int .i64 0, .int .i64 0, .int .i64 0, .int .i64 0, .int .i64 0, .int .i64 0, .int .i64 0, .int .i64 0] = X0 := ⟨_, rfl⟩
  have HF0 : Hid (Fx X0 p wd ht rs n (fun _ _ => 0)) := by
    rw [← hX0]
    refine ⟨rfl, rfl, rfl, rfl, rfl, rfl, fun i j hi hj => ?_⟩
    have h1 : i = 0 ∨ i = 1 ∨ i = 2 ∨ i = 3 := by omega
    have h2 : j = 0 ∨ j = 1 ∨ j = 2 ∨ j = 3 := by omega
    rcases h1 with rfl | rfl | rfl | rfl <;> rcases h2 with rfl | rfl | rfl | rfl <;> rfl
  have HX0 := hide hX0
  have HI0 : Hid ((Try.prog.info? 71).map (·.size) = some X0.size) := by unfold Hid; rw [(unhide HF0).size]; kernel_rfl
  have HB2 : Hid ((((w.alloc (.cells #[.int .i64 p, .int .i64 wd, .int .i64 ht, .int .i64 rs, .slice ao n cap] 26)).alloc (.cells #[.int .i64 0, .int .i64 0, .int .i64 0, .int .i64 0, .int .i64 0, .int .i64 0, .int .i64 0, .int .i64 0, .int .i64 0, .int .i64 0, .int .i64 0, .int .i64 0, .int .i64 0, .int .i64 0, .int .i64 0, .int .i64 0, .int .i64 0, .int .i64 0, .int .i64 0, .int .i64 0, .int .i64 0] 71)).alloc (.cells #[.int .i64 0, .int .i64 0, .int .i64 0, .int .i64 0, .int .i64 0, .int .i64 0, .int .i64 0, .int .i64 0, .int .i64 0, .int .i64 0, .int .i64 0, .int .i64 0, .int .i64 0, .int .i64 0, .int .i64 0, .int .i64 0, .int .i64 0, .int .i64 0, .int .i64 0, .int .i64 0, .int .i64 0] 71)).heap[w.heap.size + 1 + 1]? = some (.cells #[.int .i64 0, .int .i64 0, .int .i64 0, .int .i64 0, .int .i64 0, .int .i64 0, .int .i64 0, .int .i64 0, .int .i64 0, .int .i64 0, .int .i64 0, .int .i64 0, .int .i64 0, .int .i64 0, .int .i64 0, .int .i64 0, .int .i64 0, .int .i64 0, .int .i64 0, .int .i64 0, .int .i64 0] 71 (0, 0))) := by
    have := heap_alloc_new ((w.alloc (.cells #[.int .i64 p, .int .i64 wd, .int .i64 ht, .int .i64 rs, .slice ao n cap] 26)).alloc (.cells #[.int .i64 0, .int .i64 0, .int .i64 0, .int .i64 0, .int .i64 0, .int .i64 0, .int .i64 0, .int .i64 0, .int .i64 0, .int .i64 0, .int .i64 0, .int .i64 0, .int .i64 0, .int .i64 0, .int .i64 0, .int .i64 0, .int .i64 0, .int .i64 0, .int .i64 0, .int .i64 0, .int .i64 0] 71)) (.cells #[.int .i64 0, .int .i64 0, .int .i64 0, .int .i64 0, .int .i64 0, .int .i64 0, .int .i64 0, .int .i64 0, .int .i64 0, .int .i64 0, .int .i64 0, .int .i64 0, .int .i64 0, .int .i64 0, .int .i64 0, .int .i64 0, .int .i64 0, .int .i64 0, .int .i64 0, .int .i64 0, .int .i64 0] 71)
    unfold Hid
    simpa using this
  have HB1 : Hid ((((w.alloc (.cells #[.int .i64 p, .int .i64 wd, .int .i64 ht, .int .i64 rs, .slice ao n cap] 26)).alloc (.cells #[.int .i64 0, .int .i64 0, .int .i64 0, .int .i64 0, .int .i64 0, .int .i64 0, .int .i64 0, .int .i64 0, .int .i64 0, .int .i64 0, .int .i64 0, .int .i64 0, .int .i64 0, .int .i64 0, .int .i64 0, .int .i64 0, .int .i64 0, .int .i64 0, .int .i64 0, .int .i64 0, .int .i64 0] 71)).alloc (.cells #[.int .i64 0, .int .i64 0, .int .i64 0, .int .i64 0, .int .i64 0, .int .i64 0, .int .i64 0, .int .i64 0, .int .i64 0, .int .i64 0, .int .i64 0, .int .i64 0, .int .i64 0, .int .i64 0, .int .i64 0, .int .i64 0, .int .i64 0, .int .i64 0, .int .i64 0, .int .i64 0, .int .i64 0] 71)).heap[w.heap.size + 1]? = some (.cells #[.int .i64 0, .int .i64 0, .int .i64 0, .int .i64 0, .int .i64 0, .int .i64 0, .int .i64 0, .int .i64 0, .int .i64 0, .int .i64 0, .int .i64 0, .int .i64 0, .int .i64 0, .int .i64 0, .int .i64 0, .int .i64 0, .int .i64 0, .int .i64 0, .int .i64 0, .int .i64 0, .int .i64 0] 71 (0, 0))) := by
    have := heap_alloc_new (w.alloc (.cells #[.int .i64 p, .int .i64 wd, .int .i64 ht, .int .i64 rs, .slice ao n cap] 26)) (.cells #[.int .i64 0, .int .i64 0, .int .i64 0, .int .i64 0, .int .i64 0, .int .i64 0, .int .i64 0, .int .i64 0, .int .i64 0, .int .i64 0, .int .i64 0, .int .i64 0, .int .i64 0, .int .i64 0, .int .i64 0, .int .i64 0, .int .i64 0, .int .i64 0, .int .i64 0, .int .i64 0, .int .i64 0] 71)
    unfold Hid
    rw [Below.heap_alloc _ _ _ (by simp)]
    simpa using this
  have HB0 : Hid ((((w.alloc (.cells #[.int .i64 p, .int .i64 wd, .int .i64 ht, .int .i64 rs, .slice ao n cap] 26)).alloc (.cells #[.int .i64 0, .int .i64 0, .int .i64 0, .int .i64 0, .int .i64 0, .int .i64 0, .int .i64 0, .int .i64 0, .int .i64 0, .int .i64 0, .int .i64 0, .int .i64 0, .int .i64 0, .int .i64 0, .int .i64 0, .int .i64 0, .int .i64 0, .int .i64 0, .int .i64 0, .int .i64 0, .int .i64 0] 71)).alloc (.cells #[.int .i64 0, .int .i64 0, .int .i64 0, .int .i64 0, .int .i64 0, .int .i64 0, .int .i64 0, .int .i64 0, .int .i64 0, .int .i64 0, .int .i64 0, .int .i64 0, .int .i64 0, .int .i64 0, .int .i64 0, .int .i64 0, .int .i64 0, .int .i64 0, .int .i64 0, .int .i64 0, .int .i64 0] 71)).heap[w.heap.size]? = some (.cells #[.int .i64 p, .int .i64 wd, .int .i64 ht, .int .i64 rs, .slice ao n cap] 26 (0, 0))) := by
    have := heap_alloc_new w (.cells #[.int .i64 p, .int .i64 wd, .int .i64 ht, .int .i64 rs, .slice ao n cap] 26)
    unfold Hid
    rw [Below.heap_alloc _ _ _ (by simp; omega), Below.heap_alloc _ _ _ (by simp)]
    exact this
  have HGS : Hid ((((w.alloc (.cells #[.int .i64 p, .int .i64 wd, .int .i64 ht, .int .i64 rs, .slice ao n cap] 26)).alloc (.cells #[.int .i64 0, .int .i64 0, .int .i64 0, .int .i64 0, .int .i64 0, .int .i64 0, .int .i64 0, .int .i64 0, .int .i64 0, .int .i64 0, .int .i64 0, .int .i64 0, .int .i64 0, .int .i64 0, .int .i64 0, .int .i64 0, .int .i64 0, .int .i64 0, .int .i64 0, .int .i64 0, .int .i64 0] 71)).alloc (.cells #[.int .i64 0, .int .i64 0, .int .i64 0, .int .i64 0, .int .i64 0, .int .i64 0, .int .i64 0, .int .i64 0, .int .i64 0, .int .i64 0, .int .i64 0, .int .i64 0, .int .i64 0, .int .i64 0, .int .i64 0, .int .i64 0, .int .i64 0, .int .i64 0, .int .i64 0, .int .i64 0, .int .i64 0] 71)).heap.size = w.heap.size + 3) := by unfold Hid; simp
  have G0 : Hid (w.grownBy (((w.alloc (.cells #[.int .i64 p, .int .i64 wd, .int .i64 ht, .int .i64 rs, .slice ao n cap] 26)).alloc (.cells #[.int .i64 0, .int .i64 0, .int .i64 0, .int .i64 0, .int .i64 0, .int .i64 0, .int .i64 0, .int .i64 0, .int .i64 0, .int .i64 0, .int .i64 0, .int .i64 0, .int .i64 0, .int .i64 0, .int .i64 0, .int .i64 0, .int .i64 0, .int .i64 0, .int .i64 0, .int .i64 0, .int .i64 0] 71)).alloc (.cells #[.int .i64 0, .int .i64 0, .int .i64 0, .int .i64 0, .int .i64 0, .int .i64 0, .int .i64 0, .int .i64 0, .int .i64 0, .int .i64 0, .int .i64 0, .int .i64 0, .int .i64 0, .int .i64 0, .int .i64 0, .int .i64 0, .int .i64 0, .int .i64 0, .int .i64 0, .int .i64 0, .int .i64 0] 71)) none) := grown_alloc (grown_alloc (grown_alloc (World.grownBy.refl _ _) _) _) _
  clear hX0
  go_enter Try.func42, Try.ntmps42
  go_wp2_with (refine wpList_store_row rfl 71 _ _ rfl (w.heap.size + 1 + 1) rfl X0 (congrArg _ (unhide HX0)) #[.int .i64 0, .int .i64 0, .int .i64 0, .int .i64 0, .int .i64 0, .int .i64 0, .int .i64 0, .int .i64 0, .int .i64 0, .int .i64 0, .int .i64 0, .int .i64 0, .int .i64 0, .int .i64 0, .int .i64 0, .int .i64 0, .int .i64 0, .int .i64 0, .int .i64 0, .int .i64 0, .int .i64 0] 71 (unhide HB2) (unhide HF0).size.symm (unhide HI0) (unhide HF0).one ?_; intro w3 hB3 g3)
  have hGS := unhide HGS
  have hBf := (g3.block w.heap.size (by omega) (by simp; omega)).trans (unhide HB0)
  have hBr := (g3.block (w.heap.size + 1) (by omega) (by simp)).trans (unhide HB1)
  have G3 : w.grownBy w3 none := grown_new (unhide G0) g3 (fun g e => by simp at e; omega)
  have c4 : w3.cell? ⟨w.heap.size, 4, none⟩ = some (.slice ao n cap) := by rw [cell_of_row w3 _ 4 _ _ (0, 0) hBf]; rfl
  have HBR := hide hBr
  have HGR := hide G3
  have HB3 := hide hB3
  have hs3 : w.heap.size + 3 ≤ w3.heap.size := by have := g3.size; omega
  clear hBf hBr hB3 g3 G3 HB0 HB1 HB2 HGS G0 hGS
  have HRC := hide ((unhide HR).grown (unhide HGR))
  have hmin : Nat.min n 4 ≤ 4 := Nat.min_le_right _ _
  have hmin2 : Nat.min n 4 ≤ n := Nat.min_le_left _ _
  have HRL : Hid ((rowsK (Nat.min n 4) 4 (compCells C)).length = Nat.min n 4 * 4) := rowsK_len _ _ _
  have HFIT : Hid (5 + (rowsK (Nat.min n 4) 4 (compCells C)).length ≤ X0.size) := by unfold Hid; rw [unhide HRL, (unhide HF0).size]; omega
  have HONE : Hid (∀ v ∈ rowsK (Nat.min n 4) 4 (compCells C), v.oneCell' = true) := rowsK_one (fun _ _ => rfl)
  have HSRC := hide (rdC_src (unhide HRC) hmin2)
  go_region_law (refine step_copyK rfl (.tmp 17) (.tmp 19) 24 24 rfl 68 Try.underlying24 4 (by kernel_rfl) (w.heap.size + 1 + 1) 5 4 4 ao n cap rfl rfl X0 71 (unhide HB3) (rowsK (Nat.min n 4) 4 (compCells C)) (unhide HRL) (unhide HSRC) (unhide HFIT) (unhide HONE) ?_; intro w4 hB4 g4)
  have HF1 := hide (fx_copied (unhide HF0) (Nat.min n 4) C hmin)
  have hBr := (g4.block (w.heap.size + 1) (show w.heap.size + 1 < w3.heap.size by omega) (by simp)).trans (unhide HBR)
  have G4 : w.grownBy w4 none := grown_new (grown_drew (unhide HGR)) g4 (fun g e => by simp at e; omega)
  have hs4 : w.heap.size + 3 ≤ w4.heap.size := by have h : w3.heap.size ≤ w4.heap.size := g4.size; omega
  clear g4 HSRC HONE HFIT HRL c4 HB3 HBR HRC HGR
  obtain ⟨X1, hX1⟩ : ∃ X1 : Array Value, (X0.toList.take 5 ++ rowsK (Nat.min n 4) 4 (compCells C) ++ X0.toList.drop (5 + (rowsK (Nat.min n 4) 4 (compCells C)).length)).toArray = X1 := ⟨_, rfl⟩
  rw [hX1] at HF1 hB4
  clear hX1
  have hB4' := unhide hB4
  have hs1 := (unhide HF1).size
  have HCG : Hid (n ≤ 4 → ∀ i, i < n → (fun i j => if i < Nat.min n 4 then C i j else (fun _ _ => 0 : Nat → Nat → Int) i j) i = C i) := by
    intro h4 i hi
    have e : Nat.min n 4 = n := Nat.min_eq_left h4
    funext j
    rw [e]
    simp only [if_pos hi]
  have HFB1 : Hid (frameB p wd ht rs n (fun i j => if i < Nat.min n 4 then C i j else (fun _ _ => 0 : Nat → Nat → Int) i j) = b) := by
    unfold Hid
    rw [← unhide HFB, frameB, frameB, compsB_congr (unhide HCG)]
  have HN4 : Hid (b = true → n ≤ 4) := by
    intro hb
    rw [← unhide HFB, frameB, Bool.and_eq_true, compsB, Bool.and_eq_true] at hb
    have := of_decide_eq_true hb.2.1
    omega
  generalize (fun i j => if i < Nat.min n 4 then C i j else (fun _ _ => 0 : Nat → Nat → Int) i j) = D at *
  clear hB4
  obtain ⟨R, HRR⟩ : ∃ R : Array Value, Hid ((if frameB p wd ht rs n D = true then X1 else #[.int .i64 0, .int .i64 0, .int .i64 0, .int .i64 0, .int .i64 0, .int .i64 0, .int .i64 0, .int .i64 0, .int .i64 0, .int .i64 0, .int .i64 0, .int .i64 0, .int .i64 0, .int .i64 0, .int .i64 0, .int .i64 0, .int .i64 0, .int .i64 0, .int .i64 0, .int .i64 0, .int .i64 0]) = R) := ⟨_, rfl⟩
  have HRS : Hid (R.size = 21) := by unfold Hid; rw [← unhide HRR]; split; exact hs1; rfl
  have HRO : Hid (R.all (·.oneCell') = true) := by unfold Hid; rw [← unhide HRR]; split; exact (unhide HF1).one; decide +kernel
  go_wp2_with (refine wpList_load_row rfl 71 _ rfl (w.heap.size + 1 + 1) rfl X1 71 hB4' _ Try.underlying71 rfl (by rw [hs1]; kernel_rfl) ?_)
  refine (orNone X1 p wd ht rs n D (unhide HF1) R HRR _).mono ?_
  rintro e w5 ⟨rfl, g5⟩
  have hBr5 := (g5.block (w.heap.size + 1) (by omega) (by simp)).trans hBr
  have G5 := grown_trans G4 g5
  clear hBr hB4'
  go_wp2_with (refine wpList_store_row rfl 71 _ _ rfl (w.heap.size + 1) rfl R rfl #[.int .i64 0, .int .i64 0, .int .i64 0, .int .i64 0, .int .i64 0, .int .i64 0, .int .i64 0, .int .i64 0, .int .i64 0, .int .i64 0, .int .i64 0, .int .i64 0, .int .i64 0, .int .i64 0, .int .i64 0, .int .i64 0, .int .i64 0, .int .i64 0, .int .i64 0, .int .i64 0, .int .i64 0] 71 hBr5 (unhide HRS).symm (by rw [unhide HRS]; kernel_rfl) (unhide HRO) ?_; intro w6 hB6 g6)
  refine bodyPost_ret (v := .agg R) ?_ rfl ⟨R, rfl, fun hb => ?_, fun hb => ?_, ?_⟩
  · rw [results_cell1 rfl]
    exact loadFx (unhide HRS) hB6
  · rw [← unhide HRR, unhide HFB1, hb]; rfl
  · refine ⟨D, ?_, unhide HCG (unhide HN4 hb)⟩
    have e : R = X1 := by rw [← unhide HRR, unhide HFB1, hb]; rfl
    rw [e]; exact unhide HF1
  · exact grown_new G5 g6 (fun g e => by simp at e; omega)

end Go.Proofs.Ytnjcmlmgjoaeeaa

namespace Go.Proofs.Ytnjcmlmgjoaeeaa
open Go.RowKit

theorem between (n lo hi : Int) (t : Bool) (ht : Hid (decide (lo ≤ n ∧ n ≤ hi) = t)) (w : World) :
    Calls Try.prog 46 #[.int .i64 n, .int .i64 lo, .int .i64 hi] w fun e w' => e = .returned (.bool t) ∧ w' = w := by
  by_cases h1 : lo ≤ n
  · by_cases h2 : n ≤ hi
    · have e : t = true := by rw [← unhide ht]; simp [h1, h2]
      subst e
      go_enter Try.func46, Try.ntmps46
      go_wp2
      go_ret
      exact ⟨by simp, rfl⟩
    · have e : t = false := by rw [← unhide ht]; simp [h2]
      subst e
      go_enter Try.func46, Try.ntmps46
      go_wp2
      go_ret
      exact ⟨by simp, rfl⟩
  · have e : t = false := by rw [← unhide ht]; simp [h1]
    subst e
    have hd : decide (lo ≤ n) = false := by simpa using h1
    go_enter Try.func46, Try.ntmps46
    go_wp2
    go_ret
    exact ⟨rfl, rfl⟩

end Go.Proofs.Ytnjcmlmgjoaeeaa

namespace Go.Proofs.Ytnjcmlmgjoaeeaa
open Go.RowKit

set_option maxRecDepth 100000 in
set_option maxHeartbeats 3200000 in
theorem specFrameOk (p wd ht rs : Int) (ao : Option Addr) (n cap : Nat) (C : Nat → Nat → Int) (w : World) (hr : RdC w ao n C) (t : Bool) (HFB : Hid (frameB p wd ht rs n C = t)) :
    Calls Try.prog 13 #[.agg #[.int .i64 p, .int .i64 wd, .int .i64 ht, .int .i64 rs, .slice ao n cap]] w fun e w' => e = .returned (.bool t) ∧ w.grownBy w' none := by
  have HR := hide hr
  clear hr
  have G0 : Hid (w.grownBy (w.alloc (.cells #[.int .i64 p, .int .i64 wd, .int .i64 ht, .int .i64 rs, .slice ao n cap] 26)) none) := grown_alloc (World.grownBy.refl _ _) _
  have HB := hide (heap_alloc_new w (.cells #[.int .i64 p, .int .i64 wd, .int .i64 ht, .int .i64 rs, .slice ao n cap] 26))
  have hgs : w.heap.size < (w.alloc (.cells #[.int .i64 p, .int .i64 wd, .int .i64 ht, .int .i64 rs, .slice ao n cap] 26)).heap.size := by simp
  have hcase : (p = 8 ∨ p = 12) ∨ ((p != 8) = true ∧ (p != 12) = true ∧ (p == 8) = false ∧ (p == 12) = false) := by
    by_cases e8 : p = 8
    · exact .inl (.inl e8)
    · by_cases e12 : p = 12
      · exact .inl (.inr e12)
      · exact .inr (by simp [e8, e12])
  rcases hcase with hp | ⟨n8, n12, m8, m12⟩
  · obtain ⟨t1, HT1⟩ : ∃ t1, Hid (decide (1 ≤ wd ∧ wd ≤ 256) = t1) := ⟨_, rfl⟩
    obtain ⟨t2, HT2⟩ : ∃ t2, Hid (decide (1 ≤ ht ∧ ht ≤ 256) = t2) := ⟨_, rfl⟩
    obtain ⟨t4, HT4⟩ : ∃ t4, Hid (decide (0 ≤ rs ∧ rs ≤ 255) = t4) := ⟨_, rfl⟩
    obtain ⟨t5, HT5⟩ : ∃ t5, Hid (decide (1 ≤ (n : Int) ∧ (n : Int) ≤ 4) = t5) := ⟨_, rfl⟩
    have HP : Hid (t = ((t1 && (t2 && (decide (wd * ht ≤ 16384) && t4))) && (t5 && (okTo C n && decide (sumHV C n ≤ 10))))) := by
      have e : (p == 8 || p == 12) = true := by rcases hp with rfl | rfl <;> rfl
      unfold Hid; rw [← unhide HFB, frameB, compsB, headB, e, unhide HT1, unhide HT2, unhide HT4, unhide HT5, Bool.true_and]
    clear HFB
    cases t1
    · have HF : Hid (t = false) := by unfold Hid; rw [unhide HP]; rfl
      rcases hp with rfl | rfl
      all_goals
        go_enter Try.func13, Try.ntmps13
        go_wp2_with fail
        refine (between wd 1 256 _ HT1 _).mono ?_
        rintro e w1 ⟨rfl, rfl⟩
        go_wp2
        go_ret
        exact ⟨ret_bool (by rw [unhide HF]), unhide G0⟩
    · cases t2
      · have HF : Hid (t = false) := by unfold Hid; rw [unhide HP]; rfl
        rcases hp with rfl | rfl
        all_goals
          go_enter Try.func13, Try.ntmps13
          go_wp2_with fail
          refine (between wd 1 256 _ HT1 _).mono ?_
          rintro e w1 ⟨rfl, rfl⟩
          go_wp2_with fail
          refine (between ht 1 256 _ HT2 _).mono ?_
          rintro e w1 ⟨rfl, rfl⟩
          go_wp2
          go_ret
          exact ⟨ret_bool (by rw [unhide HF]), unhide G0⟩
      · have hb1 := of_decide_eq_true (unhide HT1)
        have hb2 := of_decide_eq_true (unhide HT2)
        have hm := mul_side hb1 hb2
        have hwr := i64_in (wd * ht) (by omega)
        clear hm hb1 hb2
        by_cases hle : wd * ht ≤ 16384
        · have HLE := hide hle
          have hdm : decide (16384 < wd * ht) = false := decide_eq_false (by omega)
          rw [decide_eq_true hle] at HP
          clear hle
          cases t4
          · have HF : Hid (t = false) := by unfold Hid; rw [unhide HP]; rfl
            rcases hp with rfl | rfl
            all_goals
              go_enter Try.func13, Try.ntmps13
              go_wp2_with fail
              refine (between wd 1 256 _ HT1 _).mono ?_
              rintro e w1 ⟨rfl, rfl⟩
              go_wp2_with fail
              refine (between ht 1 256 _ HT2 _).mono ?_
              rintro e w1 ⟨rfl, rfl⟩
              go_wp2_with fail
              refine (between rs 0 255 _ HT4 _).mono ?_
              rintro e w1 ⟨rfl, rfl⟩
              go_wp2
              go_ret
              exact ⟨ret_bool (by rw [unhide HF]), unhide G0⟩
          · cases t5
            · have HF : Hid (t = false) := by unfold Hid; rw [unhide HP]; rfl
              rcases hp with rfl | rfl
              all_goals
                go_enter Try.func13, Try.ntmps13
                go_wp2_with fail
                refine (between wd 1 256 _ HT1 _).mono ?_
                rintro e w1 ⟨rfl, rfl⟩
                go_wp2_with fail
                refine (between ht 1 256 _ HT2 _).mono ?_
                rintro e w1 ⟨rfl, rfl⟩
                go_wp2_with fail
                refine (between rs 0 255 _ HT4 _).mono ?_
                rintro e w1 ⟨rfl, rfl⟩
                go_wp2_with fail
                refine (between n 1 4 _ HT5 _).mono ?_
                rintro e w1 ⟨rfl, rfl⟩
                go_wp2
                go_ret
                exact ⟨ret_bool (by rw [unhide HF]), unhide G0⟩
            · have hn4 : n ≤ 4 := by have := of_decide_eq_true (unhide HT5); omega
              have HR2 : Hid (t = (okTo C n && decide (sumHV C n ≤ 10))) := by unfold Hid; rw [unhide HP]; rfl
              clear HP
              rcases hp with rfl | rfl
              all_goals
                go_enter Try.func13, Try.ntmps13
                go_wp2_with fail
                refine (between wd 1 256 _ HT1 _).mono ?_
                rintro e w1 ⟨rfl, rfl⟩
                go_wp2_with fail
                refine (between ht 1 256 _ HT2 _).mono ?_
                rintro e w1 ⟨rfl, rfl⟩
                go_wp2_with fail
                refine (between rs 0 255 _ HT4 _).mono ?_
                rintro e w1 ⟨rfl, rfl⟩
                go_wp2_with fail
                refine (between n 1 4 _ HT5 _).mono ?_
                rintro e w1 ⟨rfl, rfl⟩
                go_wp2
                clear hwr hdm
                generalize (w.alloc (.cells #[.int .i64 _, .int .i64 wd, .int .i64 ht, .int .i64 rs, .slice ao n cap] 26)) = wx at *
                go_loopw [3, 4] (fun b i wr => ∃ k : Nat, k ≤ n ∧ i = .int .i64 k ∧ b = .int .i64 (sumHV C k) ∧ okTo C k = true ∧ wx.grownBy wr none) (fun _ i _ => n - (intOf i).toNat)
                case atStart => exact ⟨0, Nat.zero_le _, rfl, rfl, rfl, World.grownBy.refl _ _⟩
                case round =>
                  obtain ⟨k, hk, rfl, rfl, hok, hgk⟩ := hrel
                  have hBf := (hgk.block w.heap.size hgs (by simp)).trans (unhide HB)
                  have c4 : wr.cell? ⟨w.heap.size, 4, none⟩ = some (.slice ao n cap) := by rw [cell_of_row wr _ 4 _ _ (0, 0) hBf]; rfl
                  clear hBf
                  by_cases hlt : k < n
                  · obtain ⟨b, off, rfl, hc⟩ := (unhide HR) k hlt
                    have hc' := fun j hj => (grown_trans (unhide G0) hgk).cell (hc j hj) (by simp)
                    have h0 := hc' 0 (by omega)
                    have h1 := hc' 1 (by omega)
                    have h2 := hc' 2 (by omega)
                    have h3 := hc' 3 (by omega)
                    rw [Nat.add_zero] at h0
                    clear hc hc'
                    have HRW := hide ((unhide HR).grown (grown_trans (unhide G0) hgk))
                    have HOK := hide hok
                    have HSB := hide (sumHV_bounds k hok)
                    obtain ⟨u1, HU1⟩ : ∃ u, Hid (decide (0 ≤ C k 0 ∧ C k 0 ≤ 255) = u) := ⟨_, rfl⟩
                    obtain ⟨u2, HU2⟩ : ∃ u, Hid (decide (1 ≤ C k 1 ∧ C k 1 ≤ 4) = u) := ⟨_, rfl⟩
                    obtain ⟨u3, HU3⟩ : ∃ u, Hid (decide (1 ≤ C k 2 ∧ C k 2 ≤ 4) = u) := ⟨_, rfl⟩
                    obtain ⟨u4, HU4⟩ : ∃ u, Hid (decide (0 ≤ C k 3 ∧ C k 3 ≤ 3) = u) := ⟨_, rfl⟩
                    have HS1 : Hid (okTo C (k + 1) = (okTo C k && ((u1 && (u2 && (u3 && u4))) && !idIn C k k))) := by unfold Hid; rw [okTo, compB, unhide HU1, unhide HU2, unhide HU3, unhide HU4]
                    have HS2 : Hid (sumHV C (k + 1) = sumHV C k + C k 1 * C k 2) := rfl
                    have STOP : Hid (((u1 && (u2 && (u3 && u4))) && !idIn C k k) = false → t = false) := fun h => by rw [unhide HR2, okTo_false (k := k + 1) (by rw [unhide HS1, h, Bool.and_false]) n hlt]; rfl
                    have HCK := hide (heap_alloc_new wr (.cells #[.int .i64 (C k 0), .int .i64 (C k 1), .int .i64 (C k 2), .int .i64 (C k 3)] 68))
                    have GK : Hid (wr.grownBy (wr.alloc (.cells #[.int .i64 (C k 0), .int .i64 (C k 1), .int .i64 (C k 2), .int .i64 (C k 3)] 68)) none) := grown_alloc (World.grownBy.refl _ _) _
                    have hgz : wr.heap.size < (wr.alloc (.cells #[.int .i64 (C k 0), .int .i64 (C k 1), .int .i64 (C k 2), .int .i64 (C k 3)] 68)).heap.size := by simp
                    have GR : Hid (w.grownBy wr none) := grown_trans (unhide G0) hgk
                    have GX := hide hgk
                    clear hok hgk
                    cases u1
                    · go_wp2_with fail
                      refine (between (C k 0) 0 255 _ HU1 _).mono ?_
                      rintro e w2 ⟨rfl, rfl⟩
                      go_wp2
                      go_ret
                      exact ⟨ret_bool (by rw [unhide STOP rfl]), grown_trans (unhide GR) (unhide GK)⟩
                    · go_wp2_with fail
                      refine (between (C k 0) 0 255 _ HU1 _).mono ?_
                      rintro e w2 ⟨rfl, rfl⟩
                      go_wp2_with fail
                      refine (between (C k 1) 1 4 _ HU2 _).mono ?_
                      rintro e w2 ⟨rfl, rfl⟩
                      cases u2
                      · go_wp2
                        go_ret
                        exact ⟨ret_bool (by rw [unhide STOP rfl]), grown_trans (unhide GR) (unhide GK)⟩
                      · go_wp2_with fail
                        refine (between (C k 2) 1 4 _ HU3 _).mono ?_
                        rintro e w2 ⟨rfl, rfl⟩
                        cases u3
                        · go_wp2
                          go_ret
                          exact ⟨ret_bool (by rw [unhide STOP rfl]), grown_trans (unhide GR) (unhide GK)⟩
                        · go_wp2_with fail
                          refine (between (C k 3) 0 3 _ HU4 _).mono ?_
                          rintro e w2 ⟨rfl, rfl⟩
                          cases u4
                          · go_wp2
                            go_ret
                            exact ⟨ret_bool (by rw [unhide STOP rfl]), grown_trans (unhide GR) (unhide GK)⟩
                          · go_wp2
                            have d4 := (unhide GK).cell c4 (by simp)
                            clear c4 h0 h1 h2 h3
                            generalize (wr.alloc (.cells #[.int .i64 (C k 0), .int .i64 (C k 1), .int .i64 (C k 2), .int .i64 (C k 3)] 68)) = wy at *
                            obtain ⟨wo, rfl⟩ : ∃ wo, wo = wr := ⟨_, rfl⟩
                            go_loopw [6] (fun i wi => ∃ m : Nat, m ≤ k ∧ i = .int .i64 m ∧ idIn C k m = false ∧ wy.grownBy wi none) (fun i _ => k - (intOf i).toNat)
                            case atStart => exact ⟨0, Nat.zero_le _, rfl, rfl, World.grownBy.refl _ _⟩
                            case round =>
                              obtain ⟨m, hm, rfl, hid, hgi⟩ := hrel
                              have hBx := (hgi.block wo.heap.size hgz (by simp)).trans (unhide HCK)
                              by_cases hml : m < k
                              · have i4 := hgi.cell d4 (by simp)
                                have cx : wr.cell? ⟨wo.heap.size, 0, none⟩ = some (.int .i64 (C k 0)) := by rw [cell_of_row wr _ 0 _ _ (0, 0) hBx]; rfl
                                obtain ⟨b', off', e', hcm⟩ := (unhide HRW) m (by omega)
                                simp only [Option.some.injEq, Addr.mk.injEq] at e'
                                obtain ⟨rfl, rfl, _⟩ := e'
                                have cm := (grown_trans (unhide GK) hgi).cell (hcm 0 (by omega)) (by simp)
                                rw [Nat.add_zero] at cm
                                have HST : Hid (idIn C k (m + 1) = (idIn C k m || (C m 0 == C k 0))) := rfl
                                have HTR : Hid ((C m 0 == C k 0) = true → t = false) := fun h => unhide STOP (by rw [idIn_true h k hml]; rfl)
                                have HID := hide hid
                                have hmn : (m : Int) < (n : Int) := by omega
                                clear hBx hcm hid d4
                                generalize C m 0 = x at *
                                generalize C k 0 = y at *
                                cases hxy : (x == y) with
                                | false =>
                                  have HXY := hide hxy
                                  go_wp2
                                  go_quiet (fail)
                                  go_wp2
                                  go_roundw
                                  case rel => exact ⟨m + 1, by omega, by go_num, by rw [unhide HST, unhide HID, unhide HXY]; rfl, grown_drewN hgi _⟩
                                  case measure => simp [intOf]; omega
                                | true =>
                                  have HXY := hide hxy
                                  go_wp2
                                  go_quiet (fail)
                                  go_wp2
                                  go_ret
                                  exact ⟨ret_bool (by rw [unhide HTR (unhide HXY)]), grown_trans (unhide GR) (grown_trans (unhide GK) (grown_drewN hgi _))⟩
                              · have hmk : m = k := by omega
                                subst hmk
                                have c1 : wr.cell? ⟨wo.heap.size, 1, none⟩ = some (.int .i64 (C m 1)) := by rw [cell_of_row wr _ 1 _ _ (0, 0) hBx]; rfl
                                have c2 : wr.cell? ⟨wo.heap.size, 2, none⟩ = some (.int .i64 (C m 2)) := by rw [cell_of_row wr _ 2 _ _ (0, 0) hBx]; rfl
                                have hmul := mul_small (of_decide_eq_true (unhide HU2)) (of_decide_eq_true (unhide HU3))
                                have hsb := unhide HSB
                                have HID := hide hid
                                clear hBx hid d4
                                generalize C m 1 = x at *
                                generalize C m 2 = y at *
                                generalize hxy : x * y = z at *
                                have HXY := hide hxy
                                clear hxy
                                generalize sumHV C m = sm at *
                                clear hml hm
                                go_wp2
                                go_roundw
                                case rel => exact ⟨m + 1, by omega, by go_num, by rw [unhide HXY, IntWalk.wrap64_in z (by omega), IntWalk.wrap64_in (sm + z) (by omega), unhide HS2], by rw [unhide HS1, unhide HOK, unhide HID]; rfl, grown_trans (unhide GX) (grown_trans (unhide GK) hgi)⟩
                                case measure => simp [intOf]; omega
                  · have hkn : k = n := by omega
                    subst hkn
                    have HF : Hid (t = decide (sumHV C k ≤ 10)) := by unfold Hid; rw [unhide HR2, hok, Bool.true_and]
                    have hsb := sumHV_bounds k hok
                    clear hok
                    go_wp2
                    go_ret
                    exact ⟨ret_bool (by rw [unhide HF]), grown_trans (unhide G0) hgk⟩
        · have hdm : decide (16384 < wd * ht) = true := decide_eq_true (by omega)
          have HF : Hid (t = false) := by unfold Hid; rw [unhide HP, decide_eq_false hle]; rfl
          clear hle
          rcases hp with rfl | rfl
          all_goals
            go_enter Try.func13, Try.ntmps13
            go_wp2_with fail
            refine (between wd 1 256 _ HT1 _).mono ?_
            rintro e w1 ⟨rfl, rfl⟩
            go_wp2_with fail
            refine (between ht 1 256 _ HT2 _).mono ?_
            rintro e w1 ⟨rfl, rfl⟩
            go_wp2
            go_ret
            exact ⟨ret_bool (by rw [unhide HF]), unhide G0⟩
  · have HF : Hid (t = false) := by unfold Hid; rw [← unhide HFB, frameB, headB, m8, m12]; rfl
    clear HFB m8 m12
    go_enter Try.func13, Try.ntmps13
    go_wp2
    go_ret
    exact ⟨ret_bool (by rw [unhide HF]), unhide G0⟩

end Go.Proofs.Ytnjcmlmgjoaeeaa

namespace Go.Proofs.Ytnjcmlmgjoaeeaa
open Go.RowKit

theorem frameCells' {w : World} {g : Nat} {a b c d v : Value} {t : TypeId} (hb : w.heap[g]? = some (.cells #[a, b, c, d, v] t (0, 0))) :
    w.cell? ⟨g, 0, none⟩ = some a ∧ w.cell? ⟨g, 1, none⟩ = some b ∧ w.cell? ⟨g, 2, none⟩ = some c ∧ w.cell? ⟨g, 3, none⟩ = some d ∧ w.cell? ⟨g, 4, none⟩ = some v :=
  ⟨by rw [cell_of_row w _ 0 _ _ (0, 0) hb]; rfl, by rw [cell_of_row w _ 1 _ _ (0, 0) hb]; rfl, by rw [cell_of_row w _ 2 _ _ (0, 0) hb]; rfl, by rw [cell_of_row w _ 3 _ _ (0, 0) hb]; rfl, by rw [cell_of_row w _ 4 _ _ (0, 0) hb]; rfl⟩

end Go.Proofs.Ytnjcmlmgjoaeeaa

namespace Go.Proofs.Ytnjcmlmgjoaeeaa
open Go.RowKit

set_option maxRecDepth 20000 in
set_option maxHeartbeats 1600000 in
theorem specComps (p wd ht rs : Int) (fo : Option Addr) (n fcap : Nat) (hn : n ≤ 4194304) (ao : Option Addr) (m cap : Nat) (cs : List Int) (w : World) (hr : Rd .i64 w ao m cs) (hm : m ≤ 4194304) :
    Calls Try.prog 54 #[.agg #[.int .i64 p, .int .i64 wd, .int .i64 ht, .int .i64 rs, .slice fo n fcap], .slice ao m cap] w fun e w' => e = .returned (.bool (okComps n cs)) ∧ w.grownBy w' none := by
  have hml := hr.1
  obtain ⟨wx, hW0⟩ : ∃ wx, w.alloc (.cells #[.int .i64 p, .int .i64 wd, .int .i64 ht, .int .i64 rs, .slice fo n fcap] 26) = wx := ⟨_, rfl⟩
  have G0 : w.grownBy wx none := by rw [← hW0]; exact grown_alloc (World.grownBy.refl _ _) _
  have B0 : Hid (wx.heap[w.heap.size]? = some (.cells #[.int .i64 p, .int .i64 wd, .int .i64 ht, .int .i64 rs, .slice fo n fcap] 26 (0, 0))) := by rw [← hW0]; exact heap_alloc_new w _
  have hgs : w.heap.size < wx.heap.size := by rw [← hW0]; simp
  have HR := hide (hr.grown G0)
  have HG0 := hide G0
  have HW := hide hW0
  have hwn := i64_in ((n : Int) - 1) (by omega)
  clear hr G0 hW0
  go_enter Try.func54, Try.ntmps54
  go_wp2
  rw [unhide HW]
  clear HW
  go_loopw [5] (fun i wr => ∃ k : Nat, k ≤ m ∧ i = .int .i64 k ∧ compsTo n cs k = true ∧ wx.grownBy wr none) (fun i _ => m - (intOf i).toNat)
  case atStart => exact ⟨0, Nat.zero_le _, rfl, rfl, World.grownBy.refl _ _⟩
  case round =>
    obtain ⟨k, hk, rfl, hok, hgk⟩ := hrel
    by_cases hlt : k < m
    · obtain ⟨b, off, hao, hc⟩ := ((unhide HR).grown hgk).2 k hlt
      obtain ⟨_, _, _, _, kf⟩ := frameCells' ((hgk.block w.heap.size hgs (by simp)).trans (unhide B0))
      have HS : Hid (compsTo n cs (k + 1) = (compsTo n cs k && (decide (0 ≤ cs.getD k 0 ∧ cs.getD k 0 ≤ (n : Int) - 1) && decide (k = 0 ∨ cs.getD (k - 1) 0 < cs.getD k 0)))) := rfl
      have HOK := hide hok
      have STOP : Hid (compsTo n cs (k + 1) = false → okComps n cs = false) := fun h => by
        rw [okComps, compsTo_false h cs.length (by omega)]; rfl
      obtain ⟨t, HT⟩ : ∃ t, Hid (decide (0 ≤ cs.getD k 0 ∧ cs.getD k 0 ≤ (n : Int) - 1) = t) := ⟨_, rfl⟩
      have hk1 : (k : Int) < (m : Int) := by omega
      rw [unhide HT, unhide HOK, Bool.true_and] at HS
      clear hok HOK
      by_cases h0 : k = 0
      · subst h0
        have HS2 : Hid (compsTo n cs (0 + 1) = t) := by unfold Hid; rw [unhide HS]; simp
        clear HS
        rw [Nat.add_zero] at hc
        generalize cs.getD 0 0 = c at *
        subst hao
        cases t
        · go_wp2
          go_quiet ((go_at_call_of 46 (Value.int .i64 c); exact Calls.quiet_of_same (between c 0 _ false HT _)))
          all_goals
            go_wp2
            go_ret
            exact ⟨ret_bool (by rw [unhide STOP (unhide HS2)]), grown_drewN (grown_trans (unhide HG0) hgk) _⟩
        · go_wp2
          go_quiet ((go_at_call_of 46 (Value.int .i64 c); exact Calls.quiet_of_same (between c 0 _ true HT _)))
          all_goals
            go_wp2
            go_roundw
            case rel => exact ⟨1, by omega, by go_num, unhide HS2, grown_drewN hgk _⟩
            case measure => simp [intOf]; omega
      · obtain ⟨b', off', hao', hc'⟩ := ((unhide HR).grown hgk).2 (k - 1) (by omega)
        obtain ⟨rfl, rfl⟩ : b' = b ∧ off' = off := by rw [hao] at hao'; simpa [eq_comm] using hao'
        subst hao
        clear hao'
        have hkp : (0 : Int) < (k : Int) := by omega
        obtain ⟨j, rfl⟩ : ∃ j, k = j + 1 := ⟨k - 1, by omega⟩
        simp only [Nat.add_sub_cancel] at hc' HS
        have hw1 : IntKind.i64.wrap (((j + 1 : Nat) : Int) - 1) = (j : Int) := by rw [i64_in _ (by omega)]; omega
        have hj0 : (0 : Int) ≤ (j : Int) := by omega
        have hj1 : (j : Int) < (m : Int) := by omega
        generalize cs.getD (j + 1) 0 = c at *
        generalize cs.getD j 0 = d at *
        cases t
        · have HS2 : Hid (compsTo n cs (j + 1 + 1) = false) := by unfold Hid; rw [unhide HS]; simp
          go_wp2
          go_quiet ((go_at_call_of 46 (Value.int .i64 c); exact Calls.quiet_of_same (between c 0 _ false HT _)))
          all_goals
            go_wp2
            go_ret
            exact ⟨ret_bool (by rw [unhide STOP (unhide HS2)]), grown_drewN (grown_trans (unhide HG0) hgk) _⟩
        · by_cases hdc : d < c
          · have HS2 : Hid (compsTo n cs (j + 1 + 1) = true) := by unfold Hid; rw [unhide HS]; simp [hdc]
            have hdc' : ¬ c ≤ d := by omega
            go_wp2
            go_quiet ((go_at_call_of 46 (Value.int .i64 c); exact Calls.quiet_of_same (between c 0 _ true HT _)))
            all_goals
              go_wp2
              go_roundw
              case rel => exact ⟨j + 1 + 1, by omega, by go_num, unhide HS2, grown_drewN hgk _⟩
              case measure => simp [intOf]; omega
          · have HS2 : Hid (compsTo n cs (j + 1 + 1) = false) := by unfold Hid; rw [unhide HS]; simp [hdc]
            have hdc' : c ≤ d := by omega
            go_wp2
            go_quiet ((go_at_call_of 46 (Value.int .i64 c); exact Calls.quiet_of_same (between c 0 _ true HT _)))
            all_goals
              go_wp2
              go_ret
              exact ⟨ret_bool (by rw [unhide STOP (unhide HS2)]), grown_drewN (grown_trans (unhide HG0) hgk) _⟩
    · have hkn : k = m := by omega
      subst hkn
      have HE : Hid (okComps n cs = decide (0 < k)) := by
        unfold Hid okComps
        rw [hml, hok, Bool.true_and]
      clear hok
      go_wp2
      go_ret
      exact ⟨ret_bool (by rw [unhide HE]), grown_trans (unhide HG0) hgk⟩

end Go.Proofs.Ytnjcmlmgjoaeeaa

namespace Go.Proofs.Ytnjcmlmgjoaeeaa
open Go.RowKit

def passB (a : Scn) : Bool := decide (0 ≤ a.fr ∧ a.fr ≤ a.to) && decide (a.to ≤ 63) && decide (0 ≤ a.lo ∧ a.lo ≤ 13) && (decide (a.hi = 0) || decide (a.hi = a.lo + 1))
def scanB (fb : Bool) (n : Nat) (a : Scn) : Bool := fb && okComps n a.cs && passB a

set_option maxHeartbeats 1600000 in
theorem specBits (w : World) (vo : Option Addr) (vn vc : Nat) (a : Scn) (t : Bool) (HT : Hid (passB a = t)) :
    Calls Try.prog 55 #[.agg #[.slice vo vn vc, .int .i64 a.fr, .int .i64 a.to, .int .i64 a.hi, .int .i64 a.lo]] w fun e w' => e = .returned (.bool t) ∧ w.grownBy w' none := by
  obtain ⟨cs, fr, to, hi, lo⟩ := a
  dsimp only
  have hp := unhide HT
  unfold passB at hp
  dsimp only at hp
  have HG0 : Hid (w.grownBy (w.alloc (.cells #[.slice vo vn vc, .int .i64 fr, .int .i64 to, .int .i64 hi, .int .i64 lo] 38)) none) := World.grownBy_alloc _ _ _
  obtain ⟨c0, c1, c2, c3, c4⟩ := scanCells (heap_alloc_new w (.cells #[.slice vo vn vc, .int .i64 fr, .int .i64 to, .int .i64 hi, .int .i64 lo] 38))
  obtain ⟨b1, HB1⟩ : ∃ b, Hid (decide (0 ≤ fr ∧ fr ≤ to) = b) := ⟨_, rfl⟩
  obtain ⟨b2, HB2⟩ : ∃ b, Hid (decide (to ≤ 63) = b) := ⟨_, rfl⟩
  obtain ⟨b3, HB3⟩ : ∃ b, Hid (decide (0 ≤ lo ∧ lo ≤ 13) = b) := ⟨_, rfl⟩
  rw [unhide HB1, unhide HB2, unhide HB3] at hp
  have h2 := unhide HB2
  clear HT
  go_enter Try.func55, Try.ntmps55
  go_wp2_with fail
  refine (between fr 0 to b1 HB1 _).mono ?_
  rintro e w1 ⟨rfl, rfl⟩
  cases b1 with
  | false =>
    have e : t = false := by rw [← hp]; rfl
    subst e
    go_wp2
    go_ret
    exact ⟨rfl, unhide HG0⟩
  | true =>
    cases b2 with
    | false =>
      have e : t = false := by rw [← hp]; rfl
      subst e
      go_wp2
      go_ret
      exact ⟨rfl, unhide HG0⟩
    | true =>
      go_wp2_with fail
      refine (between lo 0 13 b3 HB3 _).mono ?_
      rintro e w1 ⟨rfl, rfl⟩
      cases b3 with
      | false =>
        have e : t = false := by rw [← hp]; rfl
        subst e
        go_wp2
        go_ret
        exact ⟨rfl, unhide HG0⟩
      | true =>
        have hlo := of_decide_eq_true (unhide HB3)
        have e1 := i64_in (lo + 1) (by omega)
        have hp2 : (decide (hi = 0) || decide (hi = lo + 1)) = t := hp
        by_cases h0 : hi = 0
        · have n0 : (hi == 0) = true := by simp [h0]
          have e : t = true := by rw [← hp2, decide_eq_true h0]; rfl
          subst e
          clear h0 hp hp2
          go_wp2
          go_ret
          exact ⟨rfl, unhide HG0⟩
        · have n0 : (hi == 0) = false := by simp [h0]
          obtain ⟨t2, ht2⟩ : ∃ t2, (hi == lo + 1) = t2 := ⟨_, rfl⟩
          have e : t = t2 := by
            rw [← hp2, decide_eq_false h0, ← ht2]
            by_cases h1 : hi = lo + 1
            · simp [h1]
            · simp [h1]
          subst e
          clear h0 hp hp2
          go_wp2
          go_ret
          exact ⟨rfl, unhide HG0⟩

set_option maxRecDepth 20000 in
set_option maxHeartbeats 1600000 in
theorem specScanOk (p wd ht rs : Int) (fo : Option Addr) (n fc : Nat) (C : Nat → Nat → Int) (w : World) (hr : RdC w fo n C) (hn : n ≤ 4194304) (vo : Option Addr) (vn vc : Nat) (a : Scn) (hv : Rd .i64 w vo vn a.cs) (hvn : vn ≤ 4194304) (fb t : Bool) (HFB : Hid (frameB p wd ht rs n C = fb)) (HT : Hid (scanB fb n a = t)) :
    Calls Try.prog 20 #[.agg #[.int .i64 p, .int .i64 wd, .int .i64 ht, .int .i64 rs, .slice fo n fc], .agg #[.slice vo vn vc, .int .i64 a.fr, .int .i64 a.to, .int .i64 a.hi, .int .i64 a.lo]] w fun e w' => e = .returned (.bool t) ∧ w.grownBy w' none := by
  have hp := unhide HT
  unfold scanB at hp
  obtain ⟨b2, HB2⟩ : ∃ b, Hid (okComps n a.cs = b) := ⟨_, rfl⟩
  obtain ⟨b3, HB3⟩ : ∃ b, Hid (passB a = b) := ⟨_, rfl⟩
  have HBITS := hide (fun W => specBits W vo vn vc a b3 HB3)
  have HCOMP := hide (fun W (g : w.grownBy W none) => specComps p wd ht rs fo n fc hn vo vn vc a.cs W (hv.grown g) hvn)
  rw [unhide HB2, unhide HB3] at hp
  rw [unhide HB2] at HCOMP
  obtain ⟨cs, fr, to, hi, lo⟩ := a
  dsimp only at hv HBITS ⊢
  obtain ⟨W2, HW2⟩ : ∃ W2, Hid ((w.alloc (.cells #[.int .i64 p, .int .i64 wd, .int .i64 ht, .int .i64 rs, .slice fo n fc] 26)).alloc (.cells #[.slice vo vn vc, .int .i64 fr, .int .i64 to, .int .i64 hi, .int .i64 lo] 38) = W2) := ⟨_, rfl⟩
  have G0 : w.grownBy W2 none := by rw [← unhide HW2]; exact grown_alloc (grown_alloc (World.grownBy.refl _ _) _) _
  have B0 : W2.heap[w.heap.size]? = some (.cells #[.int .i64 p, .int .i64 wd, .int .i64 ht, .int .i64 rs, .slice fo n fc] 26 (0, 0)) := by
    rw [← unhide HW2]
    exact at_rowS (World.grownBy_alloc _ _ none) (heap_alloc_new w _) (by simp)
  have B1 : W2.heap[w.heap.size + 1]? = some (.cells #[.slice vo vn vc, .int .i64 fr, .int .i64 to, .int .i64 hi, .int .i64 lo] 38 (0, 0)) := by
    rw [← unhide HW2]
    have := heap_alloc_new (w.alloc (.cells #[.int .i64 p, .int .i64 wd, .int .i64 ht, .int .i64 rs, .slice fo n fc] 26)) (.cells #[.slice vo vn vc, .int .i64 fr, .int .i64 to, .int .i64 hi, .int .i64 lo] 38)
    simpa using this
  have HFR := hide (specFrameOk p wd ht rs fo n fc C W2 (hr.grown G0) fb HFB)
  have HB0 := hide B0
  have HB1 := hide B1
  have HG0 := hide G0
  rw [← unhide HW2] at B0
  obtain ⟨f0, f1, f2, f3, f4⟩ := frameCells' B0
  clear hr hv G0 B0 B1 HT
  go_enter Try.func20, Try.ntmps20
  go_wp2_with fail
  rw [unhide HW2]
  clear HW2 f0 f1 f2 f3 f4
  refine (unhide HFR).mono ?_
  rintro e w3 ⟨rfl, g3⟩
  have HG3 := hide (grown_trans (unhide HG0) g3)
  have hA := at_rowS g3 (unhide HB0) (by simp)
  have hB := at_rowS g3 (unhide HB1) (by simp)
  cases fb with
  | false =>
    have e : t = false := by rw [← hp]; rfl
    subst e
    go_wp2
    go_ret
    exact ⟨rfl, unhide HG3⟩
  | true =>
    obtain ⟨f0, f1, f2, f3, f4⟩ := frameCells' hA
    obtain ⟨c0, c1, c2, c3, c4⟩ := scanCells hB
    have HHB := hide hB
    clear hA hB g3 HB0 HB1 HG0 HFR
    go_wp2_with fail
    refine (unhide HCOMP w3 (unhide HG3)).mono ?_
    rintro e w4 ⟨rfl, g4⟩
    have HG4 := hide (grown_trans (unhide HG3) g4)
    have hB4 := at_rowS g4 (unhide HHB) (by simp)
    clear f0 f1 f2 f3 f4 c0 c1 c2 c3 c4
    cases b2 with
    | false =>
      have e : t = false := by rw [← hp]; rfl
      subst e
      go_wp2
      go_ret
      exact ⟨rfl, unhide HG4⟩
    | true =>
      have e : t = b3 := by rw [← hp]; rfl
      subst e
      obtain ⟨c0, c1, c2, c3, c4⟩ := scanCells hB4
      clear hB4 g4 HHB HCOMP HG3
      go_wp2_with fail
      refine (unhide HBITS w4).mono ?_
      rintro e w5 ⟨rfl, g5⟩
      have HG5 := hide (grown_trans (unhide HG4) g5)
      clear g5 c0 c1 c2 c3 c4
      go_wp2
      go_ret
      exact ⟨rfl, unhide HG5⟩

end Go.Proofs.Ytnjcmlmgjoaeeaa
