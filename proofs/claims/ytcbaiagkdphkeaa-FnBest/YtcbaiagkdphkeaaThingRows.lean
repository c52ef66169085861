/-
  Rows of things in the specification: read, owned, appended to.
-/
import Derived.Test.YtcbaiagkdphkeaaBestPure3
import Derived.Test.YtcbaiagkdphkeaaRows
import Derived.Maps.AppendAt
import Derived.Deep.AppendLies
namespace Go.Proofs.Ytcbaiagkdphkeaa
open Go.RowKit

/-- A thing as it lies in memory: what it weighs, and where its counts are. -/
structure Hd where
  w : Int
  co : Option Addr
  cap : Nat
  cs : List Int
instance : Inhabited Hd := ⟨⟨0, none, 0, []⟩⟩
def hdTh (h : Hd) : Th := ⟨h.w, h.cs⟩
def hdCells : List Hd → List Value
  | [] => []
  | h :: hs => .int .i64 h.w :: .slice h.co h.cs.length h.cap :: hdCells hs
theorem hdCells_app : ∀ (xs ys : List Hd), hdCells (xs ++ ys) = hdCells xs ++ hdCells ys
  | [], ys => rfl
  | p :: xs, ys => by simp [hdCells, hdCells_app xs ys]
theorem hdCells_len : ∀ xs : List Hd, (hdCells xs).length = xs.length * 2
  | [] => rfl
  | p :: xs => by simp [hdCells, hdCells_len xs]; omega
theorem hdCells_at : ∀ (xs : List Hd) (i : Nat) (h : i < xs.length), (hdCells xs)[i * 2]? = some (.int .i64 (xs[i].w)) ∧ (hdCells xs)[i * 2 + 1]? = some (.slice (xs[i].co) (xs[i].cs.length) (xs[i].cap))
  | p :: xs, 0, _ => ⟨rfl, rfl⟩
  | p :: xs, i + 1, h => by
    have ih := hdCells_at xs i (by simpa using h)
    simp only [hdCells, Nat.succ_mul]
    refine ⟨?_, ?_⟩
    · simpa using ih.1
    · have e : i * 2 + 2 + 1 = (i * 2 + 1) + 1 + 1 := by omega
      rw [e]; simpa using ih.2

/-- What is read through a slice of things. -/
def RdH (w : World) (ao : Option Addr) (n : Nat) (hs : List Hd) : Prop :=
  hs.length = n ∧ (∀ i, i < n → ∃ b off, ao = some ⟨b, off, none⟩ ∧ w.cell? ⟨b, off + i * 2, none⟩ = some (.int .i64 (hs.getD i default).w) ∧ w.cell? ⟨b, off + i * 2 + 1, none⟩ = some (.slice (hs.getD i default).co (hs.getD i default).cs.length (hs.getD i default).cap)) ∧
  ∀ h ∈ hs, Rd .i64 w h.co h.cs.length h.cs
theorem RdH.grown {w w' : World} {ao : Option Addr} {n : Nat} {hs : List Hd} (h : RdH w ao n hs) (hg : w.grownBy w' none) : RdH w' ao n hs :=
  ⟨h.1, fun i hi => by obtain ⟨b, off, e, h0, h1⟩ := h.2.1 i hi; exact ⟨b, off, e, hg.cell h0 (by simp), hg.cell h1 (by simp)⟩, fun x hx => (h.2.2 x hx).grown hg⟩
theorem RdH.counts {w : World} {ao : Option Addr} {n : Nat} {hs : List Hd} (h : RdH w ao n hs) {i : Nat} (hi : i < n) : Rd .i64 w (hs.getD i default).co (hs.getD i default).cs.length (hs.getD i default).cs := by
  have hl := h.1
  have e : hs.getD i default = hs[i] := by simp [hl, hi]
  rw [e]
  exact h.2.2 _ (List.getElem_mem _)
theorem own_rdH {w : World} {base : Nat} {e : TypeId} {ao : Option Addr} {cap : Nat} {hs : List Hd} (h : w.ownsRow base e 2 (.slice ao hs.length cap) hs.length (hdCells hs)) (hc : ∀ x ∈ hs, Rd .i64 w x.co x.cs.length x.cs) : RdH w ao hs.length hs := by
  refine ⟨rfl, fun i hi => ?_, hc⟩
  obtain ⟨g, rfl, _, _⟩ := own_at h (by omega)
  obtain ⟨h0, h1⟩ := hdCells_at hs i hi
  have e : hs.getD i default = hs[i] := by simp [hi]
  rw [e]
  refine ⟨g, 0, rfl, ?_, ?_⟩
  · rw [Nat.zero_add, h.cellAt _ (by omega)]; exact h0
  · rw [Nat.zero_add, h.cellAt _ (by omega)]; exact h1

/-- A row whose block holds no thing's counts. -/
def Away (v : Value) (hs : List Hd) : Prop := ∀ h ∈ hs, ∀ b off, h.co = some ⟨b, off, none⟩ → v.ownBlock ≠ some b
theorem rd_away {w w' : World} {v : Value} {h : Hd} (hr : Rd .i64 w h.co h.cs.length h.cs) (hg : w.grownBy w' v.ownBlock) (hn : ∀ b off, h.co = some ⟨b, off, none⟩ → v.ownBlock ≠ some b) : Rd .i64 w' h.co h.cs.length h.cs :=
  ⟨hr.1, fun i hi => by
    obtain ⟨b, off, e, hc⟩ := hr.2 i hi
    exact ⟨b, off, e, hg.cell hc (fun e2 => hn b off e e2.symm)⟩⟩

/-- A list of things of one's own. -/
structure OwnH (B : World) (w : World) (v : Value) (hs : List Hd) : Prop where
  own : w.ownsRow B.heap.size 57 2 v hs.length (hdCells hs)
  rd : ∀ h ∈ hs, Rd .i64 w h.co h.cs.length h.cs
  away : Away v hs
  lt : ∀ h ∈ hs, ∀ b off, h.co = some ⟨b, off, none⟩ → 0 < h.cs.length
  grown : B.grownBy w none
theorem OwnH.more {B w w' : World} {v : Value} {hs : List Hd} (h : OwnH B w v hs) (g : w.grownBy w' none) : OwnH B w' v hs :=
  ⟨own_grown h.own g, fun x hx => (h.rd x hx).grown g, h.away, h.lt, grown_trans h.grown g⟩
theorem OwnH.rdH {B w : World} {ao : Option Addr} {cap : Nat} {hs : List Hd} (h : OwnH B w (.slice ao hs.length cap) hs) : RdH w ao hs.length hs := own_rdH h.own h.rd

theorem info_thing : (Try.prog.info? 57).map (fun i => (i.zero, i.size, i.bytes)) = some (some (.agg #[.int .i64 0, .slice none 0 0]), 2, 32) := by kernel_rfl

theorem append_hd {w : World} {ops : Array Oper} {rest : List Oper} {o : Oper} {a : Act} {Q : Exit → Act → World → Prop} (hgd : o.guard = none) (s x : Operand)
    (ho : o.op = .call { callee := .builtin .append, args := #[s, x], argTypes := #[55, 55] })
    (B : World) (v : Value) (hs : List Hd) (hev : a.eval s = v) (hown : OwnH B w v hs) (h : Hd) (m : Nat) (hm : h.cs.length = m) (hrd : Rd .i64 w h.co h.cs.length h.cs) (hpos : ∀ b off, h.co = some ⟨b, off, none⟩ → 0 < h.cs.length) (haw : ∀ b off, h.co = some ⟨b, off, none⟩ → v.ownBlock ≠ some b) (hx : a.eval x = .slice (some ⟨w.heap.size, 0, none⟩) 1 1)
    (hb : hs.length ≤ 1000)
    (hK : ∀ v' w', OwnH B w' v' (hs ++ [h]) → w.grownBy w' v.ownBlock → wpList Try.prog ops Q rest (a.put o.dst v') w') :
    wpList Try.prog ops Q (o :: rest) a (w.alloc (.cells #[.int .i64 h.w, .slice h.co m h.cap] 57)) := by
  subst hm
  obtain ⟨i0, hi, hz0, hz1, hz2⟩ := info_parts info_thing
  refine wpList_append_own_at _ hgd s x 55 ho B.heap.size 57 i0 _ 2 32 Try.underlying55 hi hz0 hz1 hz2 rfl (by decide) v hs.length _ hev (hown.own.alloc _) ⟨w.heap.size, 0, none⟩ 1 1 [.int .i64 h.w, .slice h.co h.cs.length h.cap] hx rfl (World.news_of_block (cs := #[.int .i64 h.w, .slice h.co h.cs.length h.cap]) (t := 57) (fr := (0, 0)) (heap_alloc_new w _)) (by intro u hu; simp at hu; rcases hu with rfl | rfl <;> rfl) (by unfold maxLen; omega) (by omega) (by have := hown.grown.size; simp; omega) ?_
  intro v' w' h1 h2 _ h4
  have hga : w.grownBy w' v.ownBlock := ⟨h2.os, h2.tape, h2.output, by have h := h2.size; simp at h; omega, fun k hk hr => (h2.block k (by simp; omega) hr).trans (Below.heap_alloc _ _ _ hk)⟩
  have hall : ∀ x ∈ hs ++ [h], Rd .i64 w x.co x.cs.length x.cs ∧ (∀ b off, x.co = some ⟨b, off, none⟩ → v.ownBlock ≠ some b) ∧ (∀ b off, x.co = some ⟨b, off, none⟩ → 0 < x.cs.length) := by
    intro x hx
    rcases List.mem_append.1 hx with hx | hx
    · exact ⟨hown.rd x hx, fun b off e => hown.away x hx b off e, fun b off e => hown.lt x hx b off e⟩
    · rw [List.mem_singleton] at hx
      subst hx
      exact ⟨hrd, haw, hpos⟩
  refine hK v' w' ⟨?_, fun x hx => rd_away (hall x hx).1 hga (hall x hx).2.1, fun x hx b off e => ?_, fun x hx b off e => (hall x hx).2.2 b off e, grown_new hown.grown hga (fun g e => (hown.own.lt g e).1)⟩ hga
  · rw [hdCells_app, List.length_append]; exact h1
  · rcases h4 with h4 | h4
    · rw [h4]; exact (hall x hx).2.1 b off e
    · rw [h4]
      have hlt := (hall x hx).1.lt ((hall x hx).2.2 b off e) b off e
      intro e2
      have e3 := Option.some.inj e2
      simp at e3
      omega

end Go.Proofs.Ytcbaiagkdphkeaa
