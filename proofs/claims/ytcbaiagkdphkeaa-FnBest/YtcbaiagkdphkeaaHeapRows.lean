/-
  Things of the program in memory.
-/
import Derived.Test.YtcbaiagkdphkeaaHeapPure
import Derived.Test.YtcbaiagkdphkeaaKit
import Derived.Maps.AppendAt
import Derived.Deep.AppendLies
namespace Go.Proofs.Ytcbaiagkdphkeaa
open Go.RowKit

def hpCells : List Hp → List Value
  | [] => []
  | h :: hs => .int .i64 h.w :: .slice h.co h.ss.length h.cap :: .int .i64 h.c :: hpCells hs
theorem hpCells_app : ∀ (xs ys : List Hp), hpCells (xs ++ ys) = hpCells xs ++ hpCells ys
  | [], ys => rfl
  | p :: xs, ys => by simp [hpCells, hpCells_app xs ys]
theorem hpCells_len : ∀ xs : List Hp, (hpCells xs).length = xs.length * 3
  | [] => rfl
  | p :: xs => by simp [hpCells, hpCells_len xs]; omega
theorem hpCells_at : ∀ (xs : List Hp) (i : Nat), i < xs.length → (hpCells xs)[i * 3]? = some (.int .i64 (at_ xs i).w) ∧ (hpCells xs)[i * 3 + 1]? = some (.slice (at_ xs i).co (at_ xs i).ss.length (at_ xs i).cap) ∧ (hpCells xs)[i * 3 + 2]? = some (.int .i64 (at_ xs i).c)
  | p :: xs, 0, _ => ⟨rfl, rfl, rfl⟩
  | p :: xs, i + 1, h => by
    have ih := hpCells_at xs i (by simpa using h)
    have e0 : (i + 1) * 3 = i * 3 + 1 + 1 + 1 := by omega
    have e1 : (i + 1) * 3 + 1 = (i * 3 + 1) + 1 + 1 + 1 := by omega
    have e2 : (i + 1) * 3 + 2 = (i * 3 + 2) + 1 + 1 + 1 := by omega
    have ea : at_ (p :: xs) (i + 1) = at_ xs i := rfl
    rw [e1, e2, e0, ea]
    simp only [hpCells, List.getElem?_cons_succ]
    exact ih
theorem hpCells_set : ∀ (L : List Hp) (i : Nat) (h : Hp), i < L.length → (((hpCells L).set (i * 3) (.int .i64 h.w)).set (i * 3 + 1) (.slice h.co h.ss.length h.cap)).set (i * 3 + 2) (.int .i64 h.c) = hpCells (L.set i h)
  | p :: L, 0, h, _ => by simp [hpCells]
  | p :: L, i + 1, h, hi => by
    have ih := hpCells_set L i h (by simpa using hi)
    have e0 : (i + 1) * 3 = i * 3 + 1 + 1 + 1 := by omega
    have e1 : (i + 1) * 3 + 1 = (i * 3 + 1) + 1 + 1 + 1 := by omega
    have e2 : (i + 1) * 3 + 2 = (i * 3 + 2) + 1 + 1 + 1 := by omega
    rw [e1, e2, e0]
    simp only [hpCells, List.set_cons_succ]
    rw [ih]

/-- What is read through a slice of things. -/
def RdP (w : World) (ao : Option Addr) (n : Nat) (L : List Hp) : Prop :=
  L.length = n ∧ ∀ i, i < n → ∃ b off, ao = some ⟨b, off, none⟩ ∧ w.cell? ⟨b, off + i * 3, none⟩ = some (.int .i64 (at_ L i).w) ∧ w.cell? ⟨b, off + i * 3 + 1, none⟩ = some (.slice (at_ L i).co (at_ L i).ss.length (at_ L i).cap) ∧ w.cell? ⟨b, off + i * 3 + 2, none⟩ = some (.int .i64 (at_ L i).c)
theorem RdP.grown {w w' : World} {ao : Option Addr} {n : Nat} {L : List Hp} (h : RdP w ao n L) (hg : w.grownBy w' none) : RdP w' ao n L :=
  ⟨h.1, fun i hi => by obtain ⟨b, off, e, h0, h1, h2⟩ := h.2 i hi; exact ⟨b, off, e, hg.cell h0 (by simp), hg.cell h1 (by simp), hg.cell h2 (by simp)⟩⟩
theorem own_rdT {w : World} {base : Nat} {e : TypeId} {ao : Option Addr} {cap : Nat} {L : List Hp} (h : w.ownsRow base e 3 (.slice ao L.length cap) L.length (hpCells L)) : RdP w ao L.length L := by
  refine ⟨rfl, fun i hi => ?_⟩
  obtain ⟨g, rfl, _, _⟩ := own_at h (by omega)
  obtain ⟨h0, h1, h2⟩ := hpCells_at L i hi
  refine ⟨g, 0, rfl, ?_, ?_, ?_⟩
  · rw [Nat.zero_add, h.cellAt _ (by omega)]; exact h0
  · rw [Nat.zero_add, h.cellAt _ (by omega)]; exact h1
  · rw [Nat.zero_add, h.cellAt _ (by omega)]; exact h2

/-- The symbols of things are read, and lie in none of two blocks. -/
structure Syms (w : World) (row : Option Nat) (hb : Nat) (L : List Hp) : Prop where
  rd : ∀ h ∈ L, Rd .i64 w h.co h.ss.length h.ss
  away : ∀ h ∈ L, ∀ b off, h.co = some ⟨b, off, none⟩ → row ≠ some b ∧ b ≠ hb
  pos : ∀ h ∈ L, 0 < h.ss.length
theorem Syms.perm {w : World} {row : Option Nat} {hb : Nat} {L M : List Hp} (h : Syms w row hb L) (p : ∀ x ∈ M, x ∈ L) : Syms w row hb M :=
  ⟨fun x hx => h.rd x (p x hx), fun x hx => h.away x (p x hx), fun x hx => h.pos x (p x hx)⟩
theorem rd_besideP {w w' : World} {row : Option Nat} {h : Hp} (hr : Rd .i64 w h.co h.ss.length h.ss) (hg : w.grownBy w' row) (hn : ∀ b off, h.co = some ⟨b, off, none⟩ → row ≠ some b) : Rd .i64 w' h.co h.ss.length h.ss :=
  ⟨hr.1, fun i hi => by
    obtain ⟨b, off, e, hc⟩ := hr.2 i hi
    exact ⟨b, off, e, hg.cell hc (fun e2 => hn b off e e2.symm)⟩⟩

/-- The world that a heap was begun in, and what of the present one stays as it is. -/
structure Bs where
  W : World
  F : Nat → Option Obj

/-- A heap of things: a box with a row of things and how many came. -/
structure Hx (B : Bs) (hb : Nat) (w : World) (v : Value) (L : List Hp) (c : Int) : Prop where
  own : w.ownsRow B.W.heap.size 54 3 v L.length (hpCells L)
  box : w.heap[hb]? = some (.cells #[v, .int .i64 c] 78 (0, 0))
  ne : v.ownBlock ≠ some hb
  syms : Syms w v.ownBlock hb L
  grown : B.W.grownBy w none
  base : B.W.heap.size ≤ hb
  frame : ∀ k o, B.F k = some o → w.heap[k]? = some o ∧ v.ownBlock ≠ some k ∧ k ≠ hb
theorem grown_atP {a b : World} {g : Nat} {o : Obj} (h : a.grownBy b none) (hg : a.heap[g]? = some o) : b.heap[g]? = some o :=
  (h.block g (Array.getElem?_eq_some_iff.1 hg).1 (by simp)).trans hg
theorem Hx.more {B : Bs} {w w' : World} {hb : Nat} {v : Value} {L : List Hp} {c : Int} (h : Hx B hb w v L c) (g : w.grownBy w' none) : Hx B hb w' v L c :=
  ⟨own_grown h.own g, grown_atP g h.box, h.ne, ⟨fun x hx => (h.syms.rd x hx).grown g, h.syms.away, h.syms.pos⟩, grown_trans h.grown g, h.base, fun k o e => ⟨grown_atP g (h.frame k o e).1, (h.frame k o e).2⟩⟩
theorem Hx.form {B : Bs} {w : World} {hb : Nat} {v : Value} {L : List Hp} {c : Int} (h : Hx B hb w v L c) : ∃ ao cap, v = .slice ao L.length cap := own_form h.own
theorem Hx.cell {B : Bs} {w : World} {hb : Nat} {v : Value} {L : List Hp} {c : Int} (h : Hx B hb w v L c) : w.cell? ⟨hb, 0, none⟩ = some v ∧ w.cell? ⟨hb, 1, none⟩ = some (.int .i64 c) ∧ w.frozen? ⟨hb, 0, none⟩ = false ∧ w.frozen? ⟨hb, 1, none⟩ = false := by
  refine ⟨?_, ?_, frozen_of_row w hb 0 _ _ h.box, frozen_of_row w hb 1 _ _ h.box⟩
  · rw [cell_of_row w hb 0 _ _ (0, 0) h.box]; rfl
  · rw [cell_of_row w hb 1 _ _ (0, 0) h.box]; rfl
theorem Hx.lt {B : Bs} {w : World} {hb : Nat} {v : Value} {L : List Hp} {c : Int} (h : Hx B hb w v L c) : hb < w.heap.size := (Array.getElem?_eq_some_iff.1 h.box).1

/-- All that is neither the row nor the box. -/
def frAll (w : World) (v : Value) (hb : Nat) (k : Nat) : Option Obj := if k < w.heap.size ∧ v.ownBlock ≠ some k ∧ k ≠ hb then w.heap[k]? else none
theorem Hx.all {B : Bs} {w : World} {hb : Nat} {v : Value} {L : List Hp} {c : Int} (h : Hx B hb w v L c) : Hx ⟨B.W, frAll w v hb⟩ hb w v L c :=
  ⟨h.own, h.box, h.ne, h.syms, h.grown, h.base, fun k o e => by
    have e2 : (if k < w.heap.size ∧ v.ownBlock ≠ some k ∧ k ≠ hb then w.heap[k]? else none) = some o := e
    by_cases h1 : k < w.heap.size ∧ v.ownBlock ≠ some k ∧ k ≠ hb
    · rw [if_pos h1] at e2; exact ⟨e2, h1.2⟩
    · rw [if_neg h1] at e2; simp at e2⟩
/-- What lies elsewhere lies there still. -/
theorem Hx.kept {W w w' : World} {hb : Nat} {v v' : Value} {L : List Hp} {c : Int} (h : Hx ⟨W, frAll w v hb⟩ hb w' v' L c) {k : Nat} (hk : k < w.heap.size) (h1 : v.ownBlock ≠ some k) (h2 : k ≠ hb) : w'.heap[k]? = w.heap[k]? ∧ v'.ownBlock ≠ some k := by
  have e : frAll w v hb k = some w.heap[k] := by unfold frAll; rw [if_pos ⟨hk, h1, h2⟩]; simp [hk]
  have := h.frame k _ e
  exact ⟨by rw [this.1]; simp [hk], this.2.1⟩
theorem Hx.frBack {B : Bs} {w w' : World} {hb : Nat} {v v' : Value} {L M : List Hp} {c d : Int} (h0 : Hx B hb w v L c) (h : Hx ⟨B.W, frAll w v hb⟩ hb w' v' M d) : Hx B hb w' v' M d :=
  ⟨h.own, h.box, h.ne, h.syms, h.grown, h.base, fun k o e => by
    obtain ⟨h1, h2, h3⟩ := h0.frame k o e
    have hk := (Array.getElem?_eq_some_iff.1 h1).1
    obtain ⟨h4, h5⟩ := h.kept hk h2 h3
    exact ⟨h4.trans h1, h5, h3⟩⟩

theorem info_hp : (Try.prog.info? 54).map (fun i => (i.zero, i.size, i.bytes)) = some (some (.agg #[.int .i64 0, .slice none 0 0, .int .i64 0]), 3, 40) := by kernel_rfl

end Go.Proofs.Ytcbaiagkdphkeaa
