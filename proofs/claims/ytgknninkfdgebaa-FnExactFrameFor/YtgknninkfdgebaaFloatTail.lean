/-
  A region that draws its order, in which some operations yield what they yield in every world that meets S, one (a box that is made) may come at any place among the others, and these come one behind the other; the last one waits for them all.
-/
import Derived.Test.YtgknninkfdgebaaHeldLast
namespace Go.Proofs.Ytgknninkfdgebaa
open Go.RowKit

inductive Fk where
  | chain
  | held
  | flt

section
variable {P : Program} {ops : Array Oper} {md : Region.Mode} {S : World → Prop} {Q : Exit → Act → World → Prop} {m : Nat}

def runF (P : Program) (ops : Array Oper) (Q : Exit → Act → World → Prop) (o : Oper) (a : Act) (w : World) (K' : Act → World → Prop) : Prop :=
  if Region.wanted o (yielded ops a.tmps) = true then Oper.wp P o a w K' Q else K' (a.put o.dst undef) w

def tailD (P : Program) (ops : Array Oper) (Q : Exit → Act → World → Prop) (S : World → Prop) : List Oper → List Fk → Act → World → Prop
  | o :: rest, .chain :: ms, a, w => ∀ K' : Act → World → Prop, Shut (∀ a w, (ms = [] ∨ S w) → tailD P ops Q S rest ms a w → K' a w) → runF P ops Q o a w K'
  | _ :: rest, .held :: ms, a, w => tailD P ops Q S rest ms a w
  | _ :: rest, .flt :: ms, a, w => tailD P ops Q S rest ms a w
  | _, _, a, w => Q .normal a w
def tailN (P : Program) (ops : Array Oper) (Q : Exit → Act → World → Prop) (S : World → Prop) (fl : Oper) : List Oper → List Fk → Act → World → Prop
  | o :: rest, .chain :: ms, a, w => (∀ K' : Act → World → Prop, Shut (∀ a w, S w → tailN P ops Q S fl rest ms a w → K' a w) → runF P ops Q o a w K') ∧
      ∀ K' : Act → World → Prop, Shut (∀ a w, S w → tailD P ops Q S (o :: rest) (.chain :: ms) a w → K' a w) → runF P ops Q fl a w K'
  | _ :: rest, .held :: ms, a, w => tailN P ops Q S fl rest ms a w
  | _ :: rest, .flt :: ms, a, w => ∀ K' : Act → World → Prop, Shut (∀ a w, S w → tailD P ops Q S rest ms a w → K' a w) → runF P ops Q fl a w K'
  | _, _, a, w => Q .normal a w

def leftD : List Fk → Nat
  | [] => 0
  | .chain :: ms => leftD ms + 1
  | .held :: ms => leftD ms
  | .flt :: ms => leftD ms
def takenX : List Fk → Nat
  | [] => 0
  | .held :: ms => takenX ms + 1
  | .chain :: ms => takenX ms
  | .flt :: ms => takenX ms
def lexD (md : Region.Mode) (ops : Array Oper) : List Fk → Nat → Array Bool → Bool
  | [], _, listed => (Region.ready md ops listed).isEmpty
  | .chain :: ms, k, listed => (Region.ready md ops listed == [k]) && lexD md ops ms (k + 1) (listed.setIfInBounds k true)
  | .held :: ms, k, listed => lexD md ops ms (k + 1) listed
  | .flt :: ms, k, listed => lexD md ops ms (k + 1) listed
def lexN (md : Region.Mode) (ops : Array Oper) (φ : Nat) : List Fk → Nat → Array Bool → Bool
  | [], _, _ => false
  | .chain :: ms, k, listed => (Region.ready md ops listed == [k, φ]) && lexD md ops (.chain :: ms) k (listed.setIfInBounds φ true) && lexN md ops φ ms (k + 1) (listed.setIfInBounds k true)
  | .held :: ms, k, listed => lexN md ops φ ms (k + 1) listed
  | .flt :: ms, k, listed => (Region.ready md ops listed == [φ]) && lexD md ops ms (k + 1) (listed.setIfInBounds φ true)

theorem anyD_tail : ∀ (l : List Oper) (ms : List Fk) (k : Nat) (listed : Array Bool) (a : Act) (w : World), l.length = ms.length → (∀ j, j < l.length → l[j]? = ops[k + j]?) → k + l.length = m + 1 →
    lexD md ops ms k listed = true → tailD P ops Q S l ms a w → wpAnyT P md ops Q S m (leftD ms) listed a w
  | [], [], _, listed, a, w, _, _, _, hB, h => ⟨by simpa [lexD] using hB, h⟩
  | [], _ :: _, _, _, _, _, hl, _, _, _, _ => by simp at hl
  | _ :: _, [], _, _, _, _, hl, _, _, _, _ => by simp at hl
  | o :: l, .held :: ms, k, listed, a, w, hl, ha, hm, hB, h =>
    anyD_tail l ms (k + 1) listed a w (by simpa using hl) (fun j hj => by have := ha (j + 1) (by simpa using hj); simpa [Nat.add_assoc, Nat.add_comm 1 j] using this) (by simp at hm; omega) hB h
  | o :: l, .flt :: ms, k, listed, a, w, hl, ha, hm, hB, h =>
    anyD_tail l ms (k + 1) listed a w (by simpa using hl) (fun j hj => by have := ha (j + 1) (by simpa using hj); simpa [Nat.add_assoc, Nat.add_comm 1 j] using this) (by simp at hm; omega) hB h
  | o :: l, .chain :: ms, k, listed, a, w, hl, ha, hm, hB, h => by
    have h0 : ops[k]? = some o := by have := ha 0 (by simp); simpa using this.symm
    simp only [lexD, Bool.and_eq_true, beq_iff_eq] at hB
    refine ⟨fun h1 => by rw [hB.1] at h1; simp at h1, fun i hi => ?_⟩
    rw [hB.1, List.mem_singleton] at hi
    subst hi
    refine wpOp_step h0 (fun K' hK => h K' (fun a' w' hS ht => hK a' w' ⟨?_, ?_⟩))
    · rcases hS with rfl | hS
      · have : l.length = 0 := by simpa using hl
        simp at hm
        exact .inl (by omega)
      · exact .inr hS
    · exact anyD_tail l ms (i + 1) _ a' w' (by simpa using hl) (fun j hj => by have := ha (j + 1) (by simpa using hj); simpa [Nat.add_assoc, Nat.add_comm 1 j] using this) (by simp at hm; omega) hB.2 ht

theorem anyN_tail {φ : Nat} {fl : Oper} (hφ : ops[φ]? = some fl) : ∀ (l : List Oper) (ms : List Fk) (k : Nat) (listed : Array Bool) (a : Act) (w : World), l.length = ms.length → (∀ j, j < l.length → l[j]? = ops[k + j]?) → k + l.length = m + 1 →
    lexN md ops φ ms k listed = true → tailN P ops Q S fl l ms a w → wpAnyT P md ops Q S m (leftD ms + 1) listed a w
  | [], [], _, _, _, _, _, _, _, hB, _ => by simp [lexN] at hB
  | [], _ :: _, _, _, _, _, hl, _, _, _, _ => by simp at hl
  | _ :: _, [], _, _, _, _, hl, _, _, _, _ => by simp at hl
  | o :: l, .held :: ms, k, listed, a, w, hl, ha, hm, hB, h =>
    anyN_tail hφ l ms (k + 1) listed a w (by simpa using hl) (fun j hj => by have := ha (j + 1) (by simpa using hj); simpa [Nat.add_assoc, Nat.add_comm 1 j] using this) (by simp at hm; omega) hB h
  | o :: l, .flt :: ms, k, listed, a, w, hl, ha, hm, hB, h => by
    simp only [lexN, Bool.and_eq_true, beq_iff_eq] at hB
    refine ⟨fun h1 => by rw [hB.1] at h1; simp at h1, fun i hi => ?_⟩
    rw [hB.1, List.mem_singleton] at hi
    subst hi
    refine wpOp_step hφ (fun K' hK => h K' (fun a' w' hS ht => hK a' w' ⟨.inr hS, ?_⟩))
    exact anyD_tail l ms (k + 1) _ a' w' (by simpa using hl) (fun j hj => by have := ha (j + 1) (by simpa using hj); simpa [Nat.add_assoc, Nat.add_comm 1 j] using this) (by simp at hm; omega) hB.2 ht
  | o :: l, .chain :: ms, k, listed, a, w, hl, ha, hm, hB, h => by
    have h0 : ops[k]? = some o := by have := ha 0 (by simp); simpa using this.symm
    rw [lexN, Bool.and_eq_true, Bool.and_eq_true, beq_iff_eq] at hB
    obtain ⟨⟨hB1, hB2⟩, hB3⟩ := hB
    refine ⟨fun h1 => by rw [hB1] at h1; simp at h1, fun i hi => ?_⟩
    rw [hB1] at hi
    rcases List.mem_cons.1 hi with e | hi
    · subst e
      refine wpOp_step h0 (fun K' hK => h.1 K' (fun a' w' hS ht => hK a' w' ⟨.inr hS, ?_⟩))
      exact anyN_tail hφ l ms (i + 1) _ a' w' (by simpa using hl) (fun j hj => by have := ha (j + 1) (by simpa using hj); simpa [Nat.add_assoc, Nat.add_comm 1 j] using this) (by simp at hm; omega) hB3 ht
    · rw [List.mem_singleton] at hi
      subst hi
      refine wpOp_step hφ (fun K' hK => h.2 K' (fun a' w' hS ht => hK a' w' ⟨.inr hS, ?_⟩))
      exact anyD_tail (o :: l) (.chain :: ms) k _ a' w' hl ha hm hB2 ht

def heldX (P : Program) (ops : Array Oper) (S : World → Prop) (L : Act → Prop) : List Oper → List Fk → Act → Prop
  | o :: rest, .held :: ms, a => ∃ v, YieldsIf P ops S o v a ∧ heldX P ops S L rest ms (a.put o.dst v)
  | _ :: rest, .chain :: ms, a => heldX P ops S L rest ms a
  | _ :: rest, .flt :: ms, a => heldX P ops S L rest ms a
  | _, _, a => L a
theorem heldX_take {L : Act → Prop} {o : Oper} {rest : List Oper} {ms : List Fk} {a : Act} {v : Value} (hy : YieldsIf P ops S o v a) (h : heldX P ops S L rest ms (a.put o.dst v)) : heldX P ops S L (o :: rest) (.held :: ms) a := ⟨v, hy, h⟩
theorem heldX_skip {L : Act → Prop} {o : Oper} {rest : List Oper} {ms : List Fk} {a : Act} (h : heldX P ops S L rest ms a) : heldX P ops S L (o :: rest) (.chain :: ms) a := h
theorem heldX_flt {L : Act → Prop} {o : Oper} {rest : List Oper} {ms : List Fk} {a : Act} (h : heldX P ops S L rest ms a) : heldX P ops S L (o :: rest) (.flt :: ms) a := h
theorem heldX_nil {L : Act → Prop} {a : Act} (h : L a) : heldX P ops S L [] [] a := h

def lexFl (md : Region.Mode) (ops : Array Oper) (m f φ : Nat) (all : List Fk) : List Fk → Nat → Array Bool → Bool
  | [], _, listed => lexN md ops φ all 0 listed
  | .held :: ms, k, listed => (Region.ready md ops listed).contains k && Region.free md ops listed k && (k != m) && waits md ops (f + 1) m k && lexFl md ops m f φ all ms (k + 1) (listed.setIfInBounds k true)
  | .chain :: ms, k, listed => lexFl md ops m f φ all ms (k + 1) listed
  | .flt :: ms, k, listed => lexFl md ops m f φ all ms (k + 1) listed
theorem anyX_held {f φ : Nat} {fl : Oper} {l0 : List Oper} {all : List Fk} (hφ : ops[φ]? = some fl) (hs : Region.noSelect ops = true) (hQ : ∀ c a d v w, Q (.panic c) (Act.put a d v) w → Q (.panic c) a w) (hl0 : l0.length = all.length) (ha0 : ∀ j, j < l0.length → l0[j]? = ops[0 + j]?) (hm : l0.length = m + 1) :
    ∀ (l : List Oper) (ms : List Fk) (k : Nat) (listed : Array Bool) (a : Act) (w : World), l.length = ms.length → (∀ j, j < l.length → l[j]? = ops[k + j]?) → Cl md ops listed →
    lexFl md ops m f φ all ms k listed = true → S w → heldX P ops S (fun a' => tailN P ops Q S fl l0 all a' w) l ms a → wpAnyT P md ops Q S m (takenX ms + (leftD all + 1)) listed a w
  | [], [], _, listed, a, w, _, _, _, hB, _, h => by
    simp only [takenX, Nat.zero_add]
    exact anyN_tail hφ l0 all 0 listed a w hl0 ha0 (by omega) hB h
  | [], _ :: _, _, _, _, _, hl, _, _, _, _, _ => by simp at hl
  | _ :: _, [], _, _, _, _, hl, _, _, _, _, _ => by simp at hl
  | o :: l, .held :: ms, k, listed, a, w, hl, ha, hcl, hB, hS, h => by
    have h0 : ops[k]? = some o := by have := ha 0 (by simp); simpa using this.symm
    simp only [lexFl, Bool.and_eq_true, bne_iff_ne] at hB
    obtain ⟨⟨⟨⟨hr, hf⟩, hne⟩, hw⟩, hB'⟩ := hB
    obtain ⟨v, hy, hK⟩ := h
    have hrm : k ∈ Region.ready md ops listed := by simpa using hr
    have e : takenX (.held :: ms) + (leftD all + 1) = (takenX ms + (leftD all + 1)) + 1 := by simp only [takenX]; omega
    rw [e]
    exact wpAnyT_first h0 hne hw (Region.noSelect_spec hs) (fun c a' w' hq => hQ c a' _ _ w' hq) _ listed a w hcl (Region.free_spec h0 hf) hrm hy hS
      (anyX_held hφ hs hQ hl0 ha0 hm l ms (k + 1) _ _ w (by simpa using hl) (fun j hj => by have := ha (j + 1) (by simpa using hj); simpa [Nat.add_assoc, Nat.add_comm 1 j] using this) (hcl.set hrm) hB' hS hK)
  | o :: l, .chain :: ms, k, listed, a, w, hl, ha, hcl, hB, hS, h =>
    anyX_held hφ hs hQ hl0 ha0 hm l ms (k + 1) listed a w (by simpa using hl) (fun j hj => by have := ha (j + 1) (by simpa using hj); simpa [Nat.add_assoc, Nat.add_comm 1 j] using this) hcl hB hS h
  | o :: l, .flt :: ms, k, listed, a, w, hl, ha, hcl, hB, hS, h =>
    anyX_held hφ hs hQ hl0 ha0 hm l ms (k + 1) listed a w (by simpa using hl) (fun j hj => by have := ha (j + 1) (by simpa using hj); simpa [Nat.add_assoc, Nat.add_comm 1 j] using this) hcl hB hS h

/-- The tail, with the box made or not. -/
def tailX (P : Program) (ops : Array Oper) (Q : Exit → Act → World → Prop) (S : World → Prop) (fl : Oper) (l : List Oper) (ms : List Fk) (d : Bool) (a : Act) (w : World) : Prop := match d with
  | true => tailD P ops Q S l ms a w
  | false => tailN P ops Q S fl l ms a w
theorem tailX_held {fl o : Oper} {rest : List Oper} {ms : List Fk} {d : Bool} {a : Act} {w : World} (h : tailX P ops Q S fl rest ms d a w) : tailX P ops Q S fl (o :: rest) (.held :: ms) d a w := by cases d <;> exact h
/-- Whether the box is made or not: T says what is so. -/
theorem tailX_step {fl o : Oper} {rest : List Oper} {ms : List Fk} {a : Act} {w : World} (s : Nat) (T : Bool → Value → World → Prop) {d : Bool} {x : Value} (hT : T d x w) (hx : a.put (some s) x = a)
    (hfl : ∀ x w, T false x w → ∀ K' : Act → World → Prop, Shut (∀ v w', T true v w' → S w' → K' (a.put (some s) v) w') → runF P ops Q fl (a.put (some s) x) w K')
    (ho : ∀ d x w, T d x w → ∀ K' : Act → World → Prop, Shut (∀ a' w', S w' → tailX P ops Q S fl rest ms d a' w' → K' a' w') → runF P ops Q o (a.put (some s) x) w K') :
    tailX P ops Q S fl (o :: rest) (.chain :: ms) d a w := by
  have hD : ∀ v w', T true v w' → (ms = [] ∨ True) → (∀ K' : Act → World → Prop, Shut (∀ a w, (ms = [] ∨ S w) → tailD P ops Q S rest ms a w → K' a w) → runF P ops Q o (a.put (some s) v) w' K') := fun v w' hT' _ K2 hK2 => ho true v w' hT' K2 (fun a' w2 hS ht => hK2 a' w2 (.inr hS) ht)
  cases d with
  | true =>
    intro K' hK
    have := hD x w hT (.inr trivial) K' hK
    rw [hx] at this
    exact this
  | false =>
    refine ⟨fun K' hK => ?_, fun K' hK => ?_⟩
    · have := ho false x w hT K' (fun a' w2 hS ht => hK a' w2 hS ht)
      rw [hx] at this
      exact this
    · have := hfl x w hT K' (fun v w' hT' hS' => hK _ _ hS' (hD v w' hT' (.inr trivial)))
      rw [hx] at this
      exact this
/-- The last one: the box is made. -/
theorem tailX_last {fl o o2 : Oper} {a : Act} {w : World} (s : Nat) (T : Bool → Value → World → Prop) {d : Bool} {x : Value} (hT : T d x w) (hx : a.put (some s) x = a)
    (hfl : ∀ x w, T false x w → ∀ K' : Act → World → Prop, Shut (∀ v w', T true v w' → S w' → K' (a.put (some s) v) w') → runF P ops Q fl (a.put (some s) x) w K')
    (ho : ∀ x w, T true x w → ∀ K' : Act → World → Prop, Shut (∀ a' w', Q .normal a' w' → K' a' w') → runF P ops Q o (a.put (some s) x) w K') :
    tailX P ops Q S fl [o2, o] [.flt, .chain] d a w := by
  have hD : ∀ v w', T true v w' → tailD P ops Q S [o] [.chain] (a.put (some s) v) w' := fun v w' hT' K2 hK2 => ho v w' hT' K2 (fun a' w2 hq => hK2 a' w2 (.inl rfl) hq)
  cases d with
  | true =>
    have := hD x w hT
    rw [hx] at this
    exact this
  | false =>
    intro K' hK
    have := hfl x w hT K' (fun v w' hT' hS' => hK _ _ hS' (hD v w' hT'))
    rw [hx] at this
    exact this
end

theorem wp_region_float {P : Program} {id : Nat} {Q : Exit → Act → World → Prop} {a : Act} {w : World} {l : List Oper} (f φ : Nat) (fl : Oper) (S : World → Prop) (ms : List Fk) (hm : P.follows .mixedOrders = true) (hQ : ∀ c a d v w, Q (.panic c) (Act.put a d v) w → Q (.panic c) a w)
    (hl : l.length = ms.length) (hpos : 0 < l.length) (hφ : l.toArray[φ]? = some fl) (hn : takenX ms + (leftD ms + 1) = ms.length) (hB : (Region.noSelect l.toArray && lexFl .any l.toArray (l.length - 1) f φ ms ms 0 (Array.replicate l.length false)) = true)
    (hS : S w.drew) (h : heldX P l.toArray S (fun a' => tailX P l.toArray Q S fl l ms false a' w.drew) l ms a) : (Code.region id l.toArray true).wp P Q a w := by
  rw [Bool.and_eq_true] at hB
  refine wp_region_any hm (wpAny_of_T (S := S) (m := l.length - 1) _ _ _ _ ?_)
  have := anyX_held (P := P) (ops := l.toArray) (md := .any) (S := S) (Q := Q) (m := l.length - 1) (f := f) (φ := φ) (l0 := l) (all := ms) hφ hB.1 hQ hl (fun j hj => by simp) (by omega) l ms 0 (Array.replicate l.length false) a w.drew hl (fun j hj => by simp) (Cl.none _) hB.2 hS h
  rw [hn, ← hl] at this
  simpa using this

theorem put_put (a : Act) (s : Nat) (x y : Value) : (a.put (some s) x).put (some s) y = a.put (some s) y := by simp [Act.put]

end Go.Proofs.Ytgknninkfdgebaa
