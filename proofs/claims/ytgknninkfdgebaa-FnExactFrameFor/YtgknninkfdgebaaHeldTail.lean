/-
  A region that draws its order, in which some operations yield what they yield in every world that meets S, and the others come one behind the other: the first are taken first, the others then come in the order of the text.
-/
import Derived.Test.YtgknninkfdgebaaKit
import Derived.OrdersHeld
import Derived.Deep.RegionHeld
namespace Go.Proofs.Ytgknninkfdgebaa
open Go.RowKit

section
variable {P : Program} {ops : Array Oper} {md : Region.Mode} {S : World → Prop} {Q : Exit → Act → World → Prop}

/-- Those that are marked, in the order of the text, each with what it yields; then L. -/
def heldF (P : Program) (ops : Array Oper) (S : World → Prop) (L : Act → Prop) : List Oper → List Bool → Act → Prop
  | o :: rest, true :: ms, a => ∃ v, YieldsIf P ops S o v a ∧ heldF P ops S L rest ms (a.put o.dst v)
  | _ :: rest, false :: ms, a => heldF P ops S L rest ms a
  | _, _, a => L a
theorem heldF_take {L : Act → Prop} {o : Oper} {rest : List Oper} {ms : List Bool} {a : Act} {v : Value} (hy : YieldsIf P ops S o v a) (h : heldF P ops S L rest ms (a.put o.dst v)) : heldF P ops S L (o :: rest) (true :: ms) a := ⟨v, hy, h⟩
theorem heldF_skip {L : Act → Prop} {o : Oper} {rest : List Oper} {ms : List Bool} {a : Act} (h : heldF P ops S L rest ms a) : heldF P ops S L (o :: rest) (false :: ms) a := h
theorem heldF_nil {L : Act → Prop} {a : Act} (h : L a) : heldF P ops S L [] [] a := h

/-- Those that are not marked, in the order of the text; behind each S. -/
def tailF (P : Program) (ops : Array Oper) (Q : Exit → Act → World → Prop) (S : World → Prop) : List Oper → List Bool → Act → World → Prop
  | o :: rest, false :: ms, a, w => ∀ K' : Act → World → Prop, Shut (∀ a w, S w → tailF P ops Q S rest ms a w → K' a w) → if Region.wanted o (yielded ops a.tmps) = true then Oper.wp P o a w K' Q else K' (a.put o.dst undef) w
  | _ :: rest, true :: ms, a, w => tailF P ops Q S rest ms a w
  | _, _, a, w => Q .normal a w
theorem tailF_step {o : Oper} {rest : List Oper} {ms : List Bool} {a : Act} {w : World} (h : ∀ K' : Act → World → Prop, Shut (∀ a w, S w → tailF P ops Q S rest ms a w → K' a w) → if Region.wanted o (yielded ops a.tmps) = true then Oper.wp P o a w K' Q else K' (a.put o.dst undef) w) :
    tailF P ops Q S (o :: rest) (false :: ms) a w := h
theorem tailF_skip {o : Oper} {rest : List Oper} {ms : List Bool} {a : Act} {w : World} (h : tailF P ops Q S rest ms a w) : tailF P ops Q S (o :: rest) (true :: ms) a w := h
theorem tailF_nil {a : Act} {w : World} (h : Q .normal a w) : tailF P ops Q S [] [] a w := h

/-- How many are not marked. -/
def leftF : List Bool → Nat
  | [] => 0
  | true :: ms => leftF ms
  | false :: ms => leftF ms + 1
def takenF : List Bool → Nat
  | [] => 0
  | true :: ms => takenF ms + 1
  | false :: ms => takenF ms
def lexTail (md : Region.Mode) (ops : Array Oper) : List Bool → Nat → Array Bool → Bool
  | [], _, listed => (Region.ready md ops listed).isEmpty
  | true :: ms, k, listed => lexTail md ops ms (k + 1) listed
  | false :: ms, k, listed => (Region.ready md ops listed == [k]) && lexTail md ops ms (k + 1) (listed.setIfInBounds k true)
def lexHeld (md : Region.Mode) (ops : Array Oper) (all : List Bool) : List Bool → Nat → Array Bool → Bool
  | [], _, listed => lexTail md ops all 0 listed
  | true :: ms, k, listed => (Region.ready md ops listed).contains k && Region.free md ops listed k && lexHeld md ops all ms (k + 1) (listed.setIfInBounds k true)
  | false :: ms, k, listed => lexHeld md ops all ms (k + 1) listed

theorem anyH_tail : ∀ (l : List Oper) (ms : List Bool) (k : Nat) (listed : Array Bool) (a : Act) (w : World), l.length = ms.length → (∀ j, j < l.length → l[j]? = ops[k + j]?) →
    lexTail md ops ms k listed = true → tailF P ops Q S l ms a w → wpAnyH P md ops Q S (leftF ms) listed a w
  | [], [], _, listed, a, w, _, _, hB, h => wpAnyH_done (by simpa [lexTail] using hB) h _
  | [], _ :: _, _, _, _, _, hl, _, _, _ => by simp at hl
  | _ :: _, [], _, _, _, _, hl, _, _, _ => by simp at hl
  | o :: l, true :: ms, k, listed, a, w, hl, ha, hB, h =>
    anyH_tail l ms (k + 1) listed a w (by simpa using hl) (fun j hj => by have := ha (j + 1) (by simpa using hj); simpa [Nat.add_assoc, Nat.add_comm 1 j] using this) hB h
  | o :: l, false :: ms, k, listed, a, w, hl, ha, hB, h => by
    have h0 : ops[k]? = some o := by have := ha 0 (by simp); simpa using this.symm
    simp only [lexTail, Bool.and_eq_true, beq_iff_eq] at hB
    refine wpAnyH_all (rs := [k]) hB.1 (by simp) (fun i hi => ?_)
    obtain rfl : i = k := by simpa using hi
    refine wpOp_step h0 (fun K' hK => h K' (fun a' w' hS ht => hK a' w' ⟨hS, ?_⟩))
    exact anyH_tail l ms (i + 1) _ a' w' (by simpa using hl) (fun j hj => by have := ha (j + 1) (by simpa using hj); simpa [Nat.add_assoc, Nat.add_comm 1 j] using this) hB.2 ht

theorem anyH_held {l0 : List Oper} {all : List Bool} (hs : Region.noSelect ops = true) (hQ : ∀ c a d v w, Q (.panic c) (Act.put a d v) w → Q (.panic c) a w) (hl0 : l0.length = all.length) (ha0 : ∀ j, j < l0.length → l0[j]? = ops[0 + j]?) :
    ∀ (l : List Oper) (ms : List Bool) (k : Nat) (listed : Array Bool) (a : Act) (w : World), l.length = ms.length → (∀ j, j < l.length → l[j]? = ops[k + j]?) →
    lexHeld md ops all ms k listed = true → S w → heldF P ops S (fun a' => tailF P ops Q S l0 all a' w) l ms a → wpAnyH P md ops Q S (takenF ms + leftF all) listed a w
  | [], [], _, listed, a, w, _, _, hB, _, h => by
    simp only [takenF, Nat.zero_add]
    exact anyH_tail l0 all 0 listed a w hl0 ha0 hB h
  | [], _ :: _, _, _, _, _, hl, _, _, _, _ => by simp at hl
  | _ :: _, [], _, _, _, _, hl, _, _, _, _ => by simp at hl
  | o :: l, true :: ms, k, listed, a, w, hl, ha, hB, hS, h => by
    have h0 : ops[k]? = some o := by have := ha 0 (by simp); simpa using this.symm
    simp only [lexHeld, Bool.and_eq_true] at hB
    obtain ⟨⟨hr, hf⟩, hB'⟩ := hB
    obtain ⟨v, hy, hK⟩ := h
    have e : takenF (true :: ms) + leftF all = (takenF ms + leftF all) + 1 := by simp only [takenF]; omega
    rw [e]
    exact wpAnyH_take h0 hs hf hr (fun c a' w' hq => hQ c a' _ _ w' hq) hy hS
      (anyH_held hs hQ hl0 ha0 l ms (k + 1) _ _ w (by simpa using hl) (fun j hj => by have := ha (j + 1) (by simpa using hj); simpa [Nat.add_assoc, Nat.add_comm 1 j] using this) hB' hS hK)
  | o :: l, false :: ms, k, listed, a, w, hl, ha, hB, hS, h =>
    anyH_held hs hQ hl0 ha0 l ms (k + 1) listed a w (by simpa using hl) (fun j hj => by have := ha (j + 1) (by simpa using hj); simpa [Nat.add_assoc, Nat.add_comm 1 j] using this) hB hS h

theorem count_all : ∀ ms : List Bool, takenF ms + leftF ms = ms.length
  | [] => rfl
  | true :: ms => by have := count_all ms; simp only [takenF, leftF, List.length_cons]; omega
  | false :: ms => by have := count_all ms; simp only [takenF, leftF, List.length_cons]; omega
end

/-- A region whose operations are written out, and which of them are taken first. -/
theorem wp_region_tail {P : Program} {id : Nat} {Q : Exit → Act → World → Prop} {a : Act} {w : World} {l : List Oper} (S : World → Prop) (ms : List Bool) (hm : P.follows .mixedOrders = true) (hQ : ∀ c a d v w, Q (.panic c) (Act.put a d v) w → Q (.panic c) a w)
    (hl : l.length = ms.length) (hB : (Region.noSelect l.toArray && lexHeld .any l.toArray ms ms 0 (Array.replicate l.length false)) = true)
    (hS : S w.drew) (h : heldF P l.toArray S (fun a' => tailF P l.toArray Q S l ms a' w.drew) l ms a) : (Code.region id l.toArray true).wp P Q a w := by
  rw [Bool.and_eq_true] at hB
  refine wp_region_held_drew (S := S) hm hS (fun _ => ?_)
  have := anyH_held (P := P) (ops := l.toArray) (md := .any) (S := S) (Q := Q) (l0 := l) (all := ms) hB.1 hQ hl (fun j hj => by simp) l ms 0 (Array.replicate l.length false) a w.drew hl (fun j hj => by simp) hB.2 hS h
  rw [count_all ms, ← hl] at this
  simpa using this

/-! The same, what comes behind those that are taken first being told step by step. -/
section
variable {P : Program} {ops : Array Oper} {md : Region.Mode} {S : World → Prop} {Q : Exit → Act → World → Prop}

def listedOf : List Bool → Nat → Array Bool → Array Bool
  | [], _, listed => listed
  | true :: ms, k, listed => listedOf ms (k + 1) (listed.setIfInBounds k true)
  | false :: ms, k, listed => listedOf ms (k + 1) listed
def lexRaw (md : Region.Mode) (ops : Array Oper) : List Bool → Nat → Array Bool → Bool
  | [], _, _ => true
  | true :: ms, k, listed => (Region.ready md ops listed).contains k && Region.free md ops listed k && lexRaw md ops ms (k + 1) (listed.setIfInBounds k true)
  | false :: ms, k, listed => lexRaw md ops ms (k + 1) listed
theorem anyH_raw (f : Nat) (hs : Region.noSelect ops = true) (hQ : ∀ c a d v w, Q (.panic c) (Act.put a d v) w → Q (.panic c) a w) :
    ∀ (l : List Oper) (ms : List Bool) (k : Nat) (listed : Array Bool) (a : Act) (w : World), l.length = ms.length → (∀ j, j < l.length → l[j]? = ops[k + j]?) →
    lexRaw md ops ms k listed = true → S w → heldF P ops S (fun a' => wpAnyH P md ops Q S f (listedOf ms k listed) a' w) l ms a → wpAnyH P md ops Q S (takenF ms + f) listed a w
  | [], [], _, listed, a, w, _, _, _, _, h => by simp only [takenF, Nat.zero_add]; exact h
  | [], _ :: _, _, _, _, _, hl, _, _, _, _ => by simp at hl
  | _ :: _, [], _, _, _, _, hl, _, _, _, _ => by simp at hl
  | o :: l, true :: ms, k, listed, a, w, hl, ha, hB, hS, h => by
    have h0 : ops[k]? = some o := by have := ha 0 (by simp); simpa using this.symm
    simp only [lexRaw, Bool.and_eq_true] at hB
    obtain ⟨⟨hr, hf⟩, hB'⟩ := hB
    obtain ⟨v, hy, hK⟩ := h
    have e : takenF (true :: ms) + f = (takenF ms + f) + 1 := by simp only [takenF]; omega
    rw [e]
    exact wpAnyH_take h0 hs hf hr (fun c a' w' hq => hQ c a' _ _ w' hq) hy hS
      (anyH_raw f hs hQ l ms (k + 1) _ _ w (by simpa using hl) (fun j hj => by have := ha (j + 1) (by simpa using hj); simpa [Nat.add_assoc, Nat.add_comm 1 j] using this) hB' hS hK)
  | o :: l, false :: ms, k, listed, a, w, hl, ha, hB, hS, h =>
    anyH_raw f hs hQ l ms (k + 1) listed a w (by simpa using hl) (fun j hj => by have := ha (j + 1) (by simpa using hj); simpa [Nat.add_assoc, Nat.add_comm 1 j] using this) hB hS h

/-- One alone may come up. -/
theorem anyH_step1 {l : List Oper} {i f : Nat} {o : Oper} {listed : Array Bool} {a : Act} {w : World} (ho : l[i]? = some o) (hr : Region.ready md l.toArray listed = [i])
    (h : ∀ K' : Act → World → Prop, Shut (∀ a w, S w → wpAnyH P md l.toArray Q S f (listed.setIfInBounds i true) a w → K' a w) → if Region.wanted o (yielded l.toArray a.tmps) = true then Oper.wp P o a w K' Q else K' (a.put o.dst undef) w) :
    wpAnyH P md l.toArray Q S (f + 1) listed a w := by
  refine wpAnyH_all (rs := [i]) hr (by simp) (fun j hj => ?_)
  obtain rfl : j = i := by simpa using hj
  exact wpOp_step (by simpa using ho) (fun K' hK => h K' (fun a' w' hS ht => hK a' w' ⟨hS, ht⟩))
/-- One of two may come up. -/
theorem anyH_step2 {l : List Oper} {i j f : Nat} {oi oj : Oper} {listed : Array Bool} {a : Act} {w : World} (hoi : l[i]? = some oi) (hoj : l[j]? = some oj) (hr : Region.ready md l.toArray listed = [i, j])
    (hi : ∀ K' : Act → World → Prop, Shut (∀ a w, S w → wpAnyH P md l.toArray Q S f (listed.setIfInBounds i true) a w → K' a w) → if Region.wanted oi (yielded l.toArray a.tmps) = true then Oper.wp P oi a w K' Q else K' (a.put oi.dst undef) w)
    (hj : ∀ K' : Act → World → Prop, Shut (∀ a w, S w → wpAnyH P md l.toArray Q S f (listed.setIfInBounds j true) a w → K' a w) → if Region.wanted oj (yielded l.toArray a.tmps) = true then Oper.wp P oj a w K' Q else K' (a.put oj.dst undef) w) :
    wpAnyH P md l.toArray Q S (f + 1) listed a w := by
  refine wpAnyH_all (rs := [i, j]) hr (by simp) (fun q hq => ?_)
  rcases List.mem_cons.1 hq with rfl | hq
  · exact wpOp_step (by simpa using hoi) (fun K' hK => hi K' (fun a' w' hS ht => hK a' w' ⟨hS, ht⟩))
  · obtain rfl : q = j := by simpa using hq
    exact wpOp_step (by simpa using hoj) (fun K' hK => hj K' (fun a' w' hS ht => hK a' w' ⟨hS, ht⟩))
end

theorem wp_region_raw {P : Program} {id : Nat} {Q : Exit → Act → World → Prop} {a : Act} {w : World} {l : List Oper} (S : World → Prop) (ms : List Bool) (hm : P.follows .mixedOrders = true) (hQ : ∀ c a d v w, Q (.panic c) (Act.put a d v) w → Q (.panic c) a w)
    (hl : l.length = ms.length) (hB : (Region.noSelect l.toArray && lexRaw .any l.toArray ms 0 (Array.replicate l.length false)) = true)
    (hS : S w.drew) (h : heldF P l.toArray S (fun a' => wpAnyH P .any l.toArray Q S (leftF ms) (listedOf ms 0 (Array.replicate l.length false)) a' w.drew) l ms a) : (Code.region id l.toArray true).wp P Q a w := by
  rw [Bool.and_eq_true] at hB
  refine wp_region_held_drew (S := S) hm hS (fun _ => ?_)
  have := anyH_raw (P := P) (ops := l.toArray) (md := .any) (S := S) (Q := Q) (leftF ms) hB.1 hQ l ms 0 (Array.replicate l.length false) a w.drew hl (fun j hj => by simp) hB.2 hS h
  rw [count_all ms, ← hl] at this
  simpa using this

end Go.Proofs.Ytgknninkfdgebaa
