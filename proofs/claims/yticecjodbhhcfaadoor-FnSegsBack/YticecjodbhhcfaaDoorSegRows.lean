/-
  Rows of segments, as they lie in memory, and the walks of the law's own small functions on them.
-/
import Derived.Test.YticecjodbhhcfaaDoorSame
import Derived.Test.YticecjodbhhcfaaDoorRowsK
namespace Go.Proofs.YticecjodbhhcfaaDoor
open Go.RowKit

/-- What is read through a slice of segments: marks, and the bytes behind each. -/
def RdS (w : World) (ao : Option Addr) (n : Nat) (ss : List (Int × List Int)) : Prop :=
  ss.length = n ∧ ∀ i, i < n → ∃ b off dd dc, ao = some ⟨b, off, none⟩ ∧ w.cell? ⟨b, off + i * 2, none⟩ = some (.int .i64 (ss.getD i (0, [])).1) ∧
    w.cell? ⟨b, off + i * 2 + 1, none⟩ = some (.slice dd (ss.getD i (0, [])).2.length dc) ∧ Rd .u8 w dd (ss.getD i (0, [])).2.length (ss.getD i (0, [])).2 ∧ (dd = none → dc = 0)

theorem RdS.grown {w w' : World} {ao : Option Addr} {n : Nat} {ss : List (Int × List Int)} (h : RdS w ao n ss) (hg : w.grownBy w' none) : RdS w' ao n ss :=
  ⟨h.1, fun i hi => by
    obtain ⟨b, off, dd, dc, e, h1, h2, h3, h4⟩ := h.2 i hi
    exact ⟨b, off, dd, dc, e, hg.cell h1 (by simp), hg.cell h2 (by simp), h3.grown hg, h4⟩⟩

/-- The cells of a row of segments whose data are the values d. -/
def segCells (ss : List (Int × List Int)) (d : Nat → Value) : Nat → Nat → Value := fun i j => if j = 0 then .int .i64 (ss.getD i (0, [])).1 else d i

/-- The data of the first k segments: each owned from lo on, below hi, no two in one row. -/
def Dat (w : World) (lo hi : Nat) (ds : Nat → List Int) (d : Nat → Value) (k : Nat) : Prop :=
  ∀ i, i < k → w.ownsRow lo 5 1 (d i) (ds i).length ((ds i).map (Value.int .u8)) ∧ ∀ g, (d i).ownBlock = some g → g < hi ∧ ∀ j, j < i → (d j).ownBlock ≠ some g

/-- Segments that a call owns, wholly in rows from lo on and below hi. -/
def OwnS (w : World) (lo hi : Nat) (v : Value) (ss : List (Int × List Int)) : Prop :=
  ∃ d : Nat → Value, w.ownsRow lo 41 2 v ss.length (rowsK ss.length 2 (segCells ss d)) ∧ (∀ g, v.ownBlock = some g → g < hi) ∧ Dat w lo hi (fun i => (ss.getD i (0, [])).2) d ss.length

theorem Dat.same {w w' : World} {lo hi k : Nat} {ds : Nat → List Int} {d : Nat → Value} (h : Dat w lo hi ds d k) (hs : ∀ g, lo ≤ g → g < hi → w'.heap[g]? = w.heap[g]?) : Dat w' lo hi ds d k :=
  fun i hi' => ⟨own_sameAt (h i hi').1 (fun g e => hs g ((h i hi').1.lt g e).1 ((h i hi').2 g e).1), (h i hi').2⟩
theorem OwnS.same {w w' : World} {lo hi : Nat} {v : Value} {ss : List (Int × List Int)} (h : OwnS w lo hi v ss) (hs : ∀ g, lo ≤ g → g < hi → w'.heap[g]? = w.heap[g]?) : OwnS w' lo hi v ss := by
  obtain ⟨d, h1, h2, h3⟩ := h
  exact ⟨d, own_sameAt h1 (fun g e => hs g (h1.lt g e).1 (h2 g e)), h2, h3.same hs⟩
theorem OwnS.kp {w w' : World} {lo hi lo' hi' : Nat} {v : Value} {ss : List (Int × List Int)} (h : OwnS w lo hi v ss) (hk : Kp lo' hi' w w') (hhi : hi ≤ w.heap.size) (hd : hi ≤ lo' ∨ hi' ≤ lo) : OwnS w' lo hi v ss :=
  h.same (fun g h1 h2 => hk.block g (by omega) (by omega))
theorem OwnS.grown {w w' : World} {lo hi : Nat} {v : Value} {ss : List (Int × List Int)} (h : OwnS w lo hi v ss) (hg : w.grownBy w' none) (hhi : hi ≤ w.heap.size) : OwnS w' lo hi v ss :=
  h.same (fun g _ h2 => hg.block g (by omega) (by simp))
theorem OwnS.form {w : World} {lo hi : Nat} {v : Value} {ss : List (Int × List Int)} (h : OwnS w lo hi v ss) : ∃ ao cap, v = .slice ao ss.length cap := by
  obtain ⟨d, h1, _⟩ := h
  exact own_form h1
theorem OwnS.rd {w : World} {lo hi : Nat} {ao : Option Addr} {n cap : Nat} {ss : List (Int × List Int)} (h : OwnS w lo hi (.slice ao n cap) ss) : RdS w ao n ss := by
  obtain ⟨d, h1, h2, h3⟩ := h
  obtain ⟨_, _, e⟩ := own_form h1
  simp only [Value.slice.injEq] at e
  have hn : n = ss.length := e.2.1
  subst hn
  refine ⟨rfl, fun i hi' => ?_⟩
  obtain ⟨g, rfl, _, _⟩ := own_at h1 (by omega)
  obtain ⟨d1, d2⟩ := h3 i hi'
  obtain ⟨dd, dc, hd⟩ := own_form d1
  refine ⟨g, 0, dd, dc, rfl, ?_, ?_, ?_, ?_⟩
  · rw [Nat.zero_add, h1.cellAt _ (by omega)]
    have := rowsK_get ss.length 2 (segCells ss d) i 0 hi' (by omega)
    rw [Nat.add_zero] at this
    rw [this]; rfl
  · rw [Nat.zero_add, h1.cellAt _ (by omega), rowsK_get ss.length 2 (segCells ss d) i 1 hi' (by omega), ← hd]; rfl
  · rw [hd] at d1; exact own_rd d1
  · intro hn
    rcases d1.2 with ⟨hv, _⟩ | ⟨q, _, _, hv, _⟩
    · rw [hd] at hv; simp at hv; exact hv.2.2
    · rw [hd, hn] at hv; simp at hv

theorem Tryd.info41 : (Tryd.prog.info? 41).map (fun i => (i.zero, i.size, i.bytes)) = some (some (.agg #[.int .i64 0, .slice none 0 0]), 2, 32) := by kernel_rfl

/-- One more segment's data. -/
theorem Dat.snoc {w w' : World} {lo hi k base : Nat} {ds : Nat → List Int} {d : Nat → Value} {v : Value} (h : Dat w lo hi ds d k) (hhi : hi ≤ w.heap.size) (hg : w.grownBy w' none) (ho : w'.ownsRow base 5 1 v (ds k).length ((ds k).map (Value.int .u8))) (hb : w.heap.size ≤ base) (hlo : lo ≤ base) :
    Dat w' lo w'.heap.size ds (fun i => if i = k then v else d i) (k + 1) := by
  intro i hi'
  by_cases e : i = k
  · subst e
    simp only [if_true]
    refine ⟨own_base ho hlo, fun g hg' => ⟨(ho.lt g hg').2, fun j hj => ?_⟩⟩
    rw [if_neg (by omega)]
    intro hc
    have h1 := (h j hj).2 g hc
    have h2 := (ho.lt g hg').1
    omega
  · obtain ⟨h1, h2⟩ := h i (by omega)
    simp only [if_neg e]
    refine ⟨own_sameAt h1 (fun g hg' => hg.block g (by have := h2 g hg'; omega) (by simp)), fun g hg' => ⟨by have := (h2 g hg').1; have := hg.size; omega, fun j hj => ?_⟩⟩
    rw [if_neg (by omega)]
    exact (h2 g hg').2 j hj

def zeroSeg (j : Nat) : Value := if j = 0 then .int .i64 0 else .slice none 0 0

/-- The copy's cells behind k rounds. -/
def segPart (ss : List (Int × List Int)) (d : Nat → Value) (k : Nat) : Nat → Nat → Value := fun i j => if i < k then segCells ss d i j else zeroSeg j
theorem segPart_set (ss : List (Int × List Int)) (d : Nat → Value) (n k : Nat) (mk : Int) (v : Value) (hf : (ss.getD k (0, [])).1 = mk) :
    ((rowsK n 2 (segPart ss d k)).set (k * 2) (.int .i64 mk)).set (k * 2 + 1) v = rowsK n 2 (segPart ss (fun i => if i = k then v else d i) (k + 1)) := by
  have h0 := rowsK_set n 2 (segPart ss d k) k 0 (.int .i64 mk) (by omega)
  rw [Nat.add_zero] at h0
  rw [h0, rowsK_set _ _ _ k 1 _ (by omega)]
  apply rowsK_congr
  intro i j _ hj
  have hj2 : j = 0 ∨ j = 1 := by omega
  by_cases e1 : i = k
  · subst e1
    rcases hj2 with rfl | rfl
    · simp only [segPart, segCells, hf]; simp
    · simp [segPart, segCells]
  · by_cases e2 : i < k
    · rcases hj2 with rfl | rfl <;> simp [segPart, segCells, e1, e2, show i < k + 1 by omega]
    · rcases hj2 with rfl | rfl <;> simp [segPart, e1, e2, show ¬ i < k + 1 by omega]

end Go.Proofs.YticecjodbhhcfaaDoor
