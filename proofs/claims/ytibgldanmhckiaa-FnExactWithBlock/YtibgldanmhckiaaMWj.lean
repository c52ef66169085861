/-
  FloatTail, CoefFloat, LawWithBlock.
-/
import Derived.Test.YtibgldanmhckiaaMWi

namespace Go.Proofs.Ytibgldanmhckiaa
open Go.RowKit

inductive Fk where
  | chain
  | held
  | flt

section
variable {P : Program} {ops : Array Oper} {md : Region.Mode} {S : World → Prop} {Q : Exit → Act → World → Prop} {m : Nat}

def runF (P : Program) (ops : Array Oper) (Q : Exit → Act → World → Prop) (o : Oper) (a : Act) (w : World) (K' : Act → World → Prop) : Prop :=
  if Region.wanted o (yielded ops a.tmps) = true then Oper.wp P o a w K' Q else K' (a.put o.dst undef) w

def tailD (P : Program) (ops : Array Oper) (Q : Exit → Act → World → Prop) (S : World → Prop) : List Oper → List Fk → Act → World → Prop
  | o :: rest, .chain :: ms, a, w => ∀ K' : Act → World → Prop, Shut (∀ a w, (ms = [] ∨ S w) → tailD P ops Q S rest ms a w → K' a w) → runF P ops Q o a w K'
  | _ :: rest, .held :: ms, a, w => tailD P ops Q S rest ms a w
  | _ :: rest, .flt :: ms, a, w => tailD P ops Q S rest ms a w
  | _, _, a, w => Q .normal a w
def tailN (P : Program) (ops : Array Oper) (Q : Exit → Act → World → Prop) (S : World → Prop) (fl : Oper) : List Oper → List Fk → Act → World → Prop
  | o :: rest, .chain :: ms, a, w => (∀ K' : Act → World → Prop, Shut (∀ a w, S w → tailN P ops Q S fl rest ms a w → K' a w) → runF P ops Q o a w K') ∧
      ∀ K' : Act → World → Prop, Shut (∀ a w, S w → tailD P ops Q S (o :: rest) (.chain :: ms) a w → K' a w) → runF P ops Q fl a w K'
  | _ :: rest, .held :: ms, a, w => tailN P ops Q S fl rest ms a w
  | _ :: rest, .flt :: ms, a, w => ∀ K' : Act → World → Prop, Shut (∀ a w, S w → tailD P ops Q S rest ms a w → K' a w) → runF P ops Q fl a w K'
  | _, _, a, w => Q .normal a w

def leftD : List Fk → Nat
  | [] => 0
  | .chain :: ms => leftD ms + 1
  | .held :: ms => leftD ms
  | .flt :: ms => leftD ms
def takenX : List Fk → Nat
  | [] => 0
  | .held :: ms => takenX ms + 1
  | .chain :: ms => takenX ms
  | .flt :: ms => takenX ms
def lexD (md : Region.Mode) (ops : Array Oper) : List Fk → Nat → Array Bool → Bool
  | [], _, listed => (Region.ready md ops listed).isEmpty
  | .chain :: ms, k, listed => (Region.ready md ops listed == [k]) && lexD md ops ms (k + 1) (listed.setIfInBounds k true)
  | .held :: ms, k, listed => lexD md ops ms (k + 1) listed
  | .flt :: ms, k, listed => lexD md ops ms (k + 1) listed
def lexN (md : Region.Mode) (ops : Array Oper) (φ : Nat) : List Fk → Nat → Array Bool → Bool
  | [], _, _ => false
  | .chain :: ms, k, listed => (Region.ready md ops listed == [k, φ]) && lexD md ops (.chain :: ms) k (listed.setIfInBounds φ true) && lexN md ops φ ms (k + 1) (listed.setIfInBounds k true)
  | .held :: ms, k, listed => lexN md ops φ ms (k + 1) listed
  | .flt :: ms, k, listed => (Region.ready md ops listed == [φ]) && lexD md ops ms (k + 1) (listed.setIfInBounds φ true)

theorem anyD_tail : ∀ (l : List Oper) (ms : List Fk) (k : Nat) (listed : Array Bool) (a : Act) (w : World), l.length = ms.length → (∀ j, j < l.length → l[j]? = ops[k + j]?) → k + l.length = m + 1 →
    lexD md ops ms k listed = true → tailD P ops Q S l ms a w → wpAnyT P md ops Q S m (leftD ms) listed a w
  | [], [], _, listed, a, w, _, _, _, hB, h => ⟨by simpa [lexD] using hB, h⟩
  | [], _ :: _, _, _, _, _, hl, _, _, _, _ => by simp at hl
  | _ :: _, [], _, _, _, _, hl, _, _, _, _ => by simp at hl
  | o :: l, .held :: ms, k, listed, a, w, hl, ha, hm, hB, h =>
    anyD_tail l ms (k + 1) listed a w (by simpa using hl) (fun j hj => by have := ha (j + 1) (by simpa using hj); simpa [Nat.add_assoc, Nat.add_comm 1 j] using this) (by simp at hm; omega) hB h
  | o :: l, .flt :: ms, k, listed, a, w, hl, ha, hm, hB, h =>
    anyD_tail l ms (k + 1) listed a w (by simpa using hl) (fun j hj => by have := ha (j + 1) (by simpa using hj); simpa [Nat.add_assoc, Nat.add_comm 1 j] using this) (by simp at hm; omega) hB h
  | o :: l, .chain :: ms, k, listed, a, w, hl, ha, hm, hB, h => by
    have h0 : ops[k]? = some o := by have := ha 0 (by simp); simpa using this.symm
    simp only [lexD, Bool.and_eq_true, beq_iff_eq] at hB
    refine ⟨fun h1 => by rw [hB.1] at h1; simp at h1, fun i hi => ?_⟩
    rw [hB.1, List.mem_singleton] at hi
    subst hi
    refine wpOp_step h0 (fun K' hK => h K' (fun a' w' hS ht => hK a' w' ⟨?_, ?_⟩))
    · rcases hS with rfl | hS
      · have : l.length = 0 := by simpa using hl
        simp at hm
        exact .inl (by omega)
      · exact .inr hS
    · exact anyD_tail l ms (i + 1) _ a' w' (by simpa using hl) (fun j hj => by have := ha (j + 1) (by simpa using hj); simpa [Nat.add_assoc, Nat.add_comm 1 j] using this) (by simp at hm; omega) hB.2 ht

theorem anyN_tail {φ : Nat} {fl : Oper} (hφ : ops[φ]? = some fl) : ∀ (l : List Oper) (ms : List Fk) (k : Nat) (listed : Array Bool) (a : Act) (w : World), l.length = ms.length → (∀ j, j < l.length → l[j]? = ops[k + j]?) → k + l.length = m + 1 →
    lexN md ops φ ms k listed = true → tailN P ops Q S fl l ms a w → wpAnyT P md ops Q S m (leftD ms + 1) listed a w
  | [], [], _, _, _, _, _, _, _, hB, _ => by simp [lexN] at hB
  | [], _ :: _, _, _, _, _, hl, _, _, _, _ => by simp at hl
  | _ :: _, [], _, _, _, _, hl, _, _, _, _ => by simp at hl
  | o :: l, .held :: ms, k, listed, a, w, hl, ha, hm, hB, h =>
    anyN_tail hφ l ms (k + 1) listed a w (by simpa using hl) (fun j hj => by have := ha (j + 1) (by simpa using hj); simpa [Nat.add_assoc, Nat.add_comm 1 j] using this) (by simp at hm; omega) hB h
  | o :: l, .flt :: ms, k, listed, a, w, hl, ha, hm, hB, h => by
    simp only [lexN, Bool.and_eq_true, beq_iff_eq] at hB
    refine ⟨fun h1 => by rw [hB.1] at h1; simp at h1, fun i hi => ?_⟩
    rw [hB.1, List.mem_singleton] at hi
    subst hi
    refine wpOp_step hφ (fun K' hK => h K' (fun a' w' hS ht => hK a' w' ⟨.inr hS, ?_⟩))
    exact anyD_tail l ms (k + 1) _ a' w' (by simpa using hl) (fun j hj => by have := ha (j + 1) (by simpa using hj); simpa [Nat.add_assoc, Nat.add_comm 1 j] using this) (by simp at hm; omega) hB.2 ht
  | o :: l, .chain :: ms, k, listed, a, w, hl, ha, hm, hB, h => by
    have h0 : ops[k]? = some o := by have := ha 0 (by simp); simpa using this.symm
    rw [lexN, Bool.and_eq_true, Bool.and_eq_true, beq_iff_eq] at hB
    obtain ⟨⟨hB1, hB2⟩, hB3⟩ := hB
    refine ⟨fun h1 => by rw [hB1] at h1; simp at h1, fun i hi => ?_⟩
    rw [hB1] at hi
    rcases List.mem_cons.1 hi with e | hi
    · subst e
      refine wpOp_step h0 (fun K' hK => h.1 K' (fun a' w' hS ht => hK a' w' ⟨.inr hS, ?_⟩))
      exact anyN_tail hφ l ms (i + 1) _ a' w' (by simpa using hl) (fun j hj => by have := ha (j + 1) (by simpa using hj); simpa [Nat.add_assoc, Nat.add_comm 1 j] using this) (by simp at hm; omega) hB3 ht
    · rw [List.mem_singleton] at hi
      subst hi
      refine wpOp_step hφ (fun K' hK => h.2 K' (fun a' w' hS ht => hK a' w' ⟨.inr hS, ?_⟩))
      exact anyD_tail (o :: l) (.chain :: ms) k _ a' w' hl ha hm hB2 ht

def heldX (P : Program) (ops : Array Oper) (S : World → Prop) (L : Act → Prop) : List Oper → List Fk → Act → Prop
  | o :: rest, .held :: ms, a => ∃ v, YieldsIf P ops S o v a ∧ heldX P ops S L rest ms (a.put o.dst v)
  | _ :: rest, .chain :: ms, a => heldX P ops S L rest ms a
  | _ :: rest, .flt :: ms, a => heldX P ops S L rest ms a
  | _, _, a => L a
theorem heldX_take {L : Act → Prop} {o : Oper} {rest : List Oper} {ms : List Fk} {a : Act} {v : Value} (hy : YieldsIf P ops S o v a) (h : heldX P ops S L rest ms (a.put o.dst v)) : heldX P ops S L (o :: rest) (.held :: ms) a := ⟨v, hy, h⟩
theorem heldX_skip {L : Act → Prop} {o : Oper} {rest : List Oper} {ms : List Fk} {a : Act} (h : heldX P ops S L rest ms a) : heldX P ops S L (o :: rest) (.chain :: ms) a := h
theorem heldX_flt {L : Act → Prop} {o : Oper} {rest : List Oper} {ms : List Fk} {a : Act} (h : heldX P ops S L rest ms a) : heldX P ops S L (o :: rest) (.flt :: ms) a := h
theorem heldX_nil {L : Act → Prop} {a : Act} (h : L a) : heldX P ops S L [] [] a := h

def lexFl (md : Region.Mode) (ops : Array Oper) (m f φ : Nat) (all : List Fk) : List Fk → Nat → Array Bool → Bool
  | [], _, listed => lexN md ops φ all 0 listed
  | .held :: ms, k, listed => (Region.ready md ops listed).contains k && Region.free md ops listed k && (k != m) && waits md ops (f + 1) m k && lexFl md ops m f φ all ms (k + 1) (listed.setIfInBounds k true)
  | .chain :: ms, k, listed => lexFl md ops m f φ all ms (k + 1) listed
  | .flt :: ms, k, listed => lexFl md ops m f φ all ms (k + 1) listed
theorem anyX_held {f φ : Nat} {fl : Oper} {l0 : List Oper} {all : List Fk} (hφ : ops[φ]? = some fl) (hs : Region.noSelect ops = true) (hQ : ∀ c a d v w, Q (.panic c) (Act.put a d v) w → Q (.panic c) a w) (hl0 : l0.length = all.length) (ha0 : ∀ j, j < l0.length → l0[j]? = ops[0 + j]?) (hm : l0.length = m + 1) :
    ∀ (l : List Oper) (ms : List Fk) (k : Nat) (listed : Array Bool) (a : Act) (w : World), l.length = ms.length → (∀ j, j < l.length → l[j]? = ops[k + j]?) → Cl md ops listed →
    lexFl md ops m f φ all ms k listed = true → S w → heldX P ops S (fun a' => tailN P ops Q S fl l0 all a' w) l ms a → wpAnyT P md ops Q S m (takenX ms + (leftD all + 1)) listed a w
  | [], [], _, listed, a, w, _, _, _, hB, _, h => by
    simp only [takenX, Nat.zero_add]
    exact anyN_tail hφ l0 all 0 listed a w hl0 ha0 (by omega) hB h
  | [], _ :: _, _, _, _, _, hl, _, _, _, _, _ => by simp at hl
  | _ :: _, [], _, _, _, _, hl, _, _, _, _, _ => by simp at hl
  | o :: l, .held :: ms, k, listed, a, w, hl, ha, hcl, hB, hS, h => by
    have h0 : ops[k]? = some o := by have := ha 0 (by simp); simpa using this.symm
    simp only [lexFl, Bool.and_eq_true, bne_iff_ne] at hB
    obtain ⟨⟨⟨⟨hr, hf⟩, hne⟩, hw⟩, hB'⟩ := hB
    obtain ⟨v, hy, hK⟩ := h
    have hrm : k ∈ Region.ready md ops listed := by simpa using hr
    have e : takenX (.held :: ms) + (leftD all + 1) = (takenX ms + (leftD all + 1)) + 1 := by simp only [takenX]; omega
    rw [e]
    exact wpAnyT_first h0 hne hw (Region.noSelect_spec hs) (fun c a' w' hq => hQ c a' _ _ w' hq) _ listed a w hcl (Region.free_spec h0 hf) hrm hy hS
      (anyX_held hφ hs hQ hl0 ha0 hm l ms (k + 1) _ _ w (by simpa using hl) (fun j hj => by have := ha (j + 1) (by simpa using hj); simpa [Nat.add_assoc, Nat.add_comm 1 j] using this) (hcl.set hrm) hB' hS hK)
  | o :: l, .chain :: ms, k, listed, a, w, hl, ha, hcl, hB, hS, h =>
    anyX_held hφ hs hQ hl0 ha0 hm l ms (k + 1) listed a w (by simpa using hl) (fun j hj => by have := ha (j + 1) (by simpa using hj); simpa [Nat.add_assoc, Nat.add_comm 1 j] using this) hcl hB hS h
  | o :: l, .flt :: ms, k, listed, a, w, hl, ha, hcl, hB, hS, h =>
    anyX_held hφ hs hQ hl0 ha0 hm l ms (k + 1) listed a w (by simpa using hl) (fun j hj => by have := ha (j + 1) (by simpa using hj); simpa [Nat.add_assoc, Nat.add_comm 1 j] using this) hcl hB hS h

/-- The tail, with the box made or not. -/
def tailX (P : Program) (ops : Array Oper) (Q : Exit → Act → World → Prop) (S : World → Prop) (fl : Oper) (l : List Oper) (ms : List Fk) (d : Bool) (a : Act) (w : World) : Prop := match d with
  | true => tailD P ops Q S l ms a w
  | false => tailN P ops Q S fl l ms a w
theorem tailX_held {fl o : Oper} {rest : List Oper} {ms : List Fk} {d : Bool} {a : Act} {w : World} (h : tailX P ops Q S fl rest ms d a w) : tailX P ops Q S fl (o :: rest) (.held :: ms) d a w := by cases d <;> exact h
/-- Whether the box is made or not: T says what is so. -/
theorem tailX_step {fl o : Oper} {rest : List Oper} {ms : List Fk} {a : Act} {w : World} (s : Nat) (T : Bool → Value → World → Prop) {d : Bool} {x : Value} (hT : T d x w) (hx : a.put (some s) x = a)
    (hfl : ∀ x w, T false x w → ∀ K' : Act → World → Prop, Shut (∀ v w', T true v w' → S w' → K' (a.put (some s) v) w') → runF P ops Q fl (a.put (some s) x) w K')
    (ho : ∀ d x w, T d x w → ∀ K' : Act → World → Prop, Shut (∀ a' w', S w' → tailX P ops Q S fl rest ms d a' w' → K' a' w') → runF P ops Q o (a.put (some s) x) w K') :
    tailX P ops Q S fl (o :: rest) (.chain :: ms) d a w := by
  have hD : ∀ v w', T true v w' → (ms = [] ∨ True) → (∀ K' : Act → World → Prop, Shut (∀ a w, (ms = [] ∨ S w) → tailD P ops Q S rest ms a w → K' a w) → runF P ops Q o (a.put (some s) v) w' K') := fun v w' hT' _ K2 hK2 => ho true v w' hT' K2 (fun a' w2 hS ht => hK2 a' w2 (.inr hS) ht)
  cases d with
  | true =>
    intro K' hK
    have := hD x w hT (.inr trivial) K' hK
    rw [hx] at this
    exact this
  | false =>
    refine ⟨fun K' hK => ?_, fun K' hK => ?_⟩
    · have := ho false x w hT K' (fun a' w2 hS ht => hK a' w2 hS ht)
      rw [hx] at this
      exact this
    · have := hfl x w hT K' (fun v w' hT' hS' => hK _ _ hS' (hD v w' hT' (.inr trivial)))
      rw [hx] at this
      exact this
/-- The last one: the box is made. -/
theorem tailX_last {fl o o2 : Oper} {a : Act} {w : World} (s : Nat) (T : Bool → Value → World → Prop) {d : Bool} {x : Value} (hT : T d x w) (hx : a.put (some s) x = a)
    (hfl : ∀ x w, T false x w → ∀ K' : Act → World → Prop, Shut (∀ v w', T true v w' → S w' → K' (a.put (some s) v) w') → runF P ops Q fl (a.put (some s) x) w K')
    (ho : ∀ x w, T true x w → ∀ K' : Act → World → Prop, Shut (∀ a' w', Q .normal a' w' → K' a' w') → runF P ops Q o (a.put (some s) x) w K') :
    tailX P ops Q S fl [o2, o] [.flt, .chain] d a w := by
  have hD : ∀ v w', T true v w' → tailD P ops Q S [o] [.chain] (a.put (some s) v) w' := fun v w' hT' K2 hK2 => ho v w' hT' K2 (fun a' w2 hq => hK2 a' w2 (.inl rfl) hq)
  cases d with
  | true =>
    have := hD x w hT
    rw [hx] at this
    exact this
  | false =>
    intro K' hK
    have := hfl x w hT K' (fun v w' hT' hS' => hK _ _ hS' (hD v w' hT'))
    rw [hx] at this
    exact this
end

theorem wp_region_float {P : Program} {id : Nat} {Q : Exit → Act → World → Prop} {a : Act} {w : World} {l : List Oper} (f φ : Nat) (fl : Oper) (S : World → Prop) (ms : List Fk) (hm : P.follows .mixedOrders = true) (hQ : ∀ c a d v w, Q (.panic c) (Act.put a d v) w → Q (.panic c) a w)
    (hl : l.length = ms.length) (hpos : 0 < l.length) (hφ : l.toArray[φ]? = some fl) (hn : takenX ms + (leftD ms + 1) = ms.length) (hB : (Region.noSelect l.toArray && lexFl .any l.toArray (l.length - 1) f φ ms ms 0 (Array.replicate l.length false)) = true)
    (hS : S w.drew) (h : heldX P l.toArray S (fun a' => tailX P l.toArray Q S fl l ms false a' w.drew) l ms a) : (Code.region id l.toArray true).wp P Q a w := by
  rw [Bool.and_eq_true] at hB
  refine wp_region_any hm (wpAny_of_T (S := S) (m := l.length - 1) _ _ _ _ ?_)
  have := anyX_held (P := P) (ops := l.toArray) (md := .any) (S := S) (Q := Q) (m := l.length - 1) (f := f) (φ := φ) (l0 := l) (all := ms) hφ hB.1 hQ hl (fun j hj => by simp) (by omega) l ms 0 (Array.replicate l.length false) a w.drew hl (fun j hj => by simp) (Cl.none _) hB.2 hS h
  rw [hn, ← hl] at this
  simpa using this

theorem put_put (a : Act) (s : Nat) (x y : Value) : (a.put (some s) x).put (some s) y = a.put (some s) y := by simp [Act.put]

end Go.Proofs.Ytibgldanmhckiaa

namespace Go.Proofs.Ytibgldanmhckiaa
open Go.RowKit

set_option maxHeartbeats 800000 in
theorem float_box {ops : Array Oper} {Q : Exit → Act → World → Prop} {a : Act} {w : World} {K' : Act → World → Prop} (s : Nat) (pos : String) (h : K' (a.put (some s) (.pointer (some ⟨w.heap.size, 0, none⟩))) (w.alloc (.cells #[.slice none 0 0] 29))) :
    runF Try.prog ops Q { dst := some s, op := Op.alloc 29, type := 0, pos := pos, after := #[], guard := none } a w K' := by
  unfold runF
  go_simp
  exact h

def Fb (wc : World) (N : Nat → Prop) (d : Bool) (x : Value) (w : World) : Prop := wc.grownBy w none ∧ (d = true → ∃ b, x = .pointer (some ⟨b, 0, none⟩) ∧ w.heap[b]? = some (.cells #[.slice none 0 0] 29 (0, 0)) ∧ N b)
theorem Fb.start (w : World) (N : Nat → Prop) (x : Value) : Fb w N false x w := ⟨World.grownBy.refl _ _, fun e => by cases e⟩
theorem Fb.alloc {wc : World} {N : Nat → Prop} {x : Value} {w : World} (h : Fb wc N false x w) (hN : N w.heap.size) : Fb wc N true (.pointer (some ⟨w.heap.size, 0, none⟩)) (w.alloc (.cells #[.slice none 0 0] 29)) :=
  ⟨grown_alloc h.1 _, fun _ => ⟨_, rfl, heap_alloc_new w _, hN⟩⟩
theorem Fb.next {wc : World} {N N' : Nat → Prop} {d : Bool} {x : Value} {w w' : World} (h : Fb wc N d x w) (g : w.grownBy w' none) (hN : ∀ b, N b → b < w.heap.size → N' b) : Fb w' N' d x w' :=
  ⟨World.grownBy.refl _ _, fun e => by obtain ⟨b, e1, hb, hn⟩ := h.2 e; exact ⟨b, e1, grown_atT g hb (by simp), hN b hn (Array.getElem?_eq_some_iff.1 hb).1⟩⟩
set_option maxRecDepth 20000 in
theorem float_T {ops : Array Oper} {Q : Exit → Act → World → Prop} {a : Act} {S : World → Prop} {wc : World} {N : Nat → Prop} {s : Nat} {pos : String} (hS : ∀ w, wc.grownBy w none → S w) (hN : ∀ w, wc.grownBy w none → N w.heap.size) :
    ∀ x w, Fb wc N false x w → ∀ K' : Act → World → Prop, Shut (∀ v w', Fb wc N true v w' → S w' → K' (a.put (some s) v) w') → runF Try.prog ops Q { dst := some s, op := Op.alloc 29, type := 0, pos := pos, after := #[], guard := none } (a.put (some s) x) w K' := by
  intro x w hT K' hK
  refine float_box s pos ?_
  rw [put_put]
  exact hK _ _ (hT.alloc (hN w hT.1)) (hS _ (grown_alloc hT.1 _))
theorem Bc.put {w : World} {b : Nat} {z v : Value} {X : List (List (List Int))} {F : List Nat} (hb : w.heap[b]? = some (.cells #[z] 29 (0, 0))) (o : OwCo w (.agg #[v]) X F) (hn : b ∉ F) : Bc (w.setCell ⟨b, 0, none⟩ v) b v X F := by
  refine ⟨heap_setCell_same w b 0 _ _ _ hb, o.wr (Wr.ofRow (F := [b]) (grown_set w b 0 v) (fun g e => by have e9 := Option.some.inj e; simp [e9])) (fun x hx e => ?_)⟩
  simp at e
  subst e
  exact hn hx
theorem Bf.wr {W W' : World} {b q n base : Nat} {p wd ht rs : Int} {C : Nat → Nat → Int} {F : List Nat} (h : Bf W b p wd ht rs q n base C) (g : Wr F W W') (hb : b ∉ F) (hq : q ∉ F) : Bf W' b p wd ht rs q n base C :=
  ⟨(g.block b h.lt hb).trans h.box, own_sameAt h.own (fun x hx => by have e9 : q = x := Option.some.inj hx; subst e9; exact g.block q (h.own.lt q rfl).2 hq)⟩

end Go.Proofs.Ytibgldanmhckiaa

namespace Go.Proofs.Ytibgldanmhckiaa
open Go.RowKit

set_option maxRecDepth 20000 in
set_option maxHeartbeats 6400000 in
theorem lawWithBlock (HI : Hid ImplWith) (p wd ht rs : Int) (ao : Option Addr) (n cap : Nat) (C : Nat → Nat → Int) (v : Value) (X : List (List (List Int))) (co ro cl : Int) (bo : Option Addr) (bc : Nat) (bl : List Int) (w : World) (hr : RdC w ao n C) (hm : n ≤ maxLen) (hx : RdCz w (.agg #[v]) X) (hbl : Rd .i64 w bo bl.length bl) :
    Calls Try.prog 7 #[.agg #[.int .i64 p, .int .i64 wd, .int .i64 ht, .int .i64 rs, .slice ao n cap], .agg #[v], .agg #[.int .i64 co, .int .i64 ro, .int .i64 cl], .slice bo bl.length bc] w fun e w' => e = .returned (.bool true) ∧ Below w.heap.size w w' := by
  unfold maxLen at hm
  obtain ⟨xo, xc, rfl⟩ : ∃ xo xc, v = .slice xo X.length xc := by
    obtain ⟨v', e, h⟩ := hx
    obtain ⟨xo, xc, e2, _⟩ := h.1
    have : v = v' := by simpa using e
    exact ⟨xo, xc, this.trans e2⟩
  obtain ⟨m, HM⟩ : ∃ m, Hid (X.length = m) := ⟨_, rfl⟩
  rw [unhide HM] at hx ⊢
  have HR := hide hr
  have HX := hide hx
  clear hr hx
  obtain ⟨fb, HFB⟩ : ∃ fb, Hid (frameB p wd ht rs n C = fb) := ⟨_, rfl⟩
  have HBL : Hid (RdI .i64 w (.slice bo bl.length bc) bl) := ⟨bo, bc, rfl, hbl⟩
  clear hbl
  obtain ⟨bn, HBN⟩ : ∃ bn, Hid (bl.length = bn) := ⟨_, rfl⟩
  rw [unhide HBN] at HBL ⊢
  obtain ⟨L, HL⟩ : ∃ L, Hid (withBlockF fb wd ht n C X co ro cl bl = L) := ⟨_, rfl⟩
  have hL1 : szCo L ≤ 283144 := by rw [← unhide HL]; exact shape_sz (shape_with (unhide HFB) X co ro cl bl)
  have hL : szCo L ≤ 1048576 := by omega
  have hcL := cnt_sz L
  obtain ⟨ll, HLL⟩ : ∃ ll, Hid (L.length = ll) := ⟨_, rfl⟩
  have hneg2 : decide (1 + (cntCo L : Int) < 0) = false := decide_eq_false (by omega)
  have hcX := cnt_sz X
  have I0 := hide (In3.start w #[.int .i64 p, .int .i64 wd, .int .i64 ht, .int .i64 rs, .slice ao n cap] (.slice xo m xc) #[.int .i64 co, .int .i64 ro, .int .i64 cl])
  have c0 := (unhide I0).cell
  have ca := frameCells (unhide I0).fb
  by_cases hbb : (bn : Int) ≤ 1048576
  rotate_left 1
  · have hgt : decide ((1048576 : Int) < (bn : Int)) = true := decide_eq_true (by omega)
    go_enter Try.func7, Try.ntmps7
    go_wp2
    go_ret
    exact ⟨rfl, grown_below (unhide I0).grown⟩
  have hgt : decide ((1048576 : Int) < (bn : Int)) = false := decide_eq_false (by omega)
  have hbs : lenI bl ≤ 1048576 := by have := unhide HBN; unfold lenI; omega
  have hbs2 : bn ≤ 1048576 := by omega
  by_cases hbig : (n : Int) ≤ 1048576
  · obtain ⟨lf, hlf⟩ : ∃ lf : Nat, (1048576 : Int) - (n : Int) = (lf : Int) := ⟨1048576 - n, by omega⟩
    have HSZ : Hid ((if (n : Int) ≤ 1048576 then 1048576 - (n : Int) else -1) = (lf : Int)) := (if_pos hbig).trans hlf
    have hneg : decide ((lf : Int) < 0) = false := decide_eq_false (by omega)
    have hn : n ≤ 4194304 := by omega
    have hl1 : lf ≤ 1048576 := by omega
    clear hlf
    obtain ⟨r, HR2⟩ : ∃ r : Int, Hid ((if szCo X ≤ lf then (lf : Int) - szCo X else -1) = r) := ⟨_, rfl⟩
    by_cases hsz : szCo X ≤ lf
    · have hr2 : decide (r < 0) = false := decide_eq_false (by have := unhide HR2; rw [if_pos hsz] at this; omega)
      have hs : szCo X ≤ 1048576 := by omega
      have hk0 : 0 ≤ 1 + 4 * (n : Int) := by omega
      have hk1 : 1 + 4 * (n : Int) + (cntCo X : Int) ≤ 8388608 := by omega
      have hk2 : decide (1 + 4 * (n : Int) + (cntCo X : Int) + (lenI bl : Int) < 0) = false := decide_eq_false (by omega)
      go_enter Try.func7, Try.ntmps7
      go_wp2_with fail
      generalize (((w.alloc (.cells #[.int .i64 p, .int .i64 wd, .int .i64 ht, .int .i64 rs, .slice ao n cap] 46)).alloc (.cells #[.slice xo m xc] 53)).alloc (.cells #[.int .i64 co, .int .i64 ro, .int .i64 cl] 57)) = wx at *
      refine (szFrame p wd ht rs ao n cap 1048576 _ wx (by omega) (by omega) (by omega) HSZ).mono ?_
      rintro e wy ⟨rfl, g1⟩
      have I1 := hide ((unhide I0).new g1)
      clear c0 ca g1 I0
      have c0 := (unhide I1).cell
      go_wp2_with fail
      refine (szCoefsC wy _ X lf ((unhide HX).st (unhide I1).grown) hl1 r HR2).mono ?_
      rintro e w2 ⟨rfl, g2⟩
      have I2 := hide ((unhide I1).new g2)
      clear c0 g2 I1
      have hw3 := (unhide I2).size
      go_wp2
      refine wp_region_noPanic ?_
      have gd := grown_drew (World.grownBy.refl w2 none)
      have I3 := hide ((unhide I2).new gd)
      have hz3 := gd.size
      clear I2 gd
      refine wp_region_float 20 9 _ (fun W => In3 w W #[.int .i64 p, .int .i64 wd, .int .i64 ht, .int .i64 rs, .slice ao n cap] (.slice xo m xc) #[.int .i64 co, .int .i64 ro, .int .i64 cl]) [.held, .chain, .held, .chain, .held, .chain, .held, .chain, .chain, .flt, .chain] (by kernel_rfl) (fun _ _ _ _ _ h => h) rfl (by decide) rfl (by rfl) (by kernel_rfl) (unhide I3) ?_
      generalize w2.drew = w3 at *
      refine heldX_take (v := ?_) (Or.inl ⟨by rfl, ?_⟩) ?_
      rotate_left 1
      · intro w' hSw
        try dsimp only at hSw
        have s1 := frameCells hSw.fb
        go_simp
        try with_reducible rfl
      simp only [Act.put, List.setIfInBounds_toArray, List.set_cons_zero, List.set_cons_succ]
      refine heldX_skip ?_
      refine heldX_take (v := ?_) (Or.inl ⟨by rfl, ?_⟩) ?_
      rotate_left 1
      · intro w' hSw
        try dsimp only at hSw
        have s1 := hSw.cell
        go_simp
        try with_reducible rfl
      simp only [Act.put, List.setIfInBounds_toArray, List.set_cons_zero, List.set_cons_succ]
      refine heldX_skip ?_
      refine heldX_take (v := ?_) (Or.inl ⟨by rfl, ?_⟩) ?_
      rotate_left 1
      · intro w' hSw
        try dsimp only at hSw
        have s1 := hSw.place
        go_simp
        try with_reducible rfl
      simp only [Act.put, List.setIfInBounds_toArray, List.set_cons_zero, List.set_cons_succ]
      refine heldX_skip ?_
      refine heldX_take (v := ?_) (Or.inl ⟨by rfl, ?_⟩) ?_
      rotate_left 1
      · intro w' hSw
        try dsimp only at hSw
        go_simp
        try with_reducible rfl
      simp only [Act.put, List.setIfInBounds_toArray, List.set_cons_zero, List.set_cons_succ]
      refine heldX_skip ?_
      refine heldX_skip ?_
      refine heldX_flt ?_
      refine heldX_skip ?_
      refine heldX_nil ?_
      have HT_3 := hide (Fb.start w3 (fun b => w3.heap.size ≤ b) undef)
      refine tailX_held ?_
      refine tailX_step 10 (Fb w3 (fun b => w3.heap.size ≤ b)) (unhide HT_3) (by rfl) (float_T (fun W g => ((unhide I3).new g)) (fun W g => by have := g.size; omega)) ?_
      intro d4 x4 w4 hT K hK
      have g4 := hT.1
      clear HT_3
      have HT_4 := hide hT
      clear hT
      have I4 := hide ((unhide I3).new g4)
      have hz4 := g4.size
      clear I3 g4
      unfold runF
      simp only [Act.put, List.setIfInBounds_toArray, List.set_cons_zero, List.set_cons_succ]
      go_simp
      refine (toFrame p wd ht rs ao n cap C w4 ((unhide HR).grown (unhide I4).grown) hn).mono ?_
      rintro e w5 ⟨q5, rfl, o5, g5⟩
      have RF_0 := hide (own_rdC o5)
      clear o5
      have HT_5 : Hid (Fb w5 (fun b => w3.heap.size ≤ b) _ _ w5) := (unhide HT_4).next g5 (fun b hb _ => hb)
      clear HT_4
      have I5 := hide ((unhide I4).new g5)
      have hz5 := g5.size
      clear I4 g5
      go_simp
      refine hK.out _ _ (unhide I5) ?_
      clear hK K
      refine tailX_held ?_
      refine tailX_step 10 (Fb w5 (fun b => w3.heap.size ≤ b)) (unhide HT_5) (by rfl) (float_T (fun W g => ((unhide I5).new g)) (fun W g => by have := g.size; omega)) ?_
      intro d6 x6 w6 hT K hK
      have g6 := hT.1
      clear HT_5
      have HT_6 := hide hT
      clear hT
      have I6 := hide ((unhide I5).new g6)
      have hz6 := g6.size
      have RF_6 := hide ((unhide RF_0).grown g6)
      clear I5 g6 RF_0
      unfold runF
      simp only [Act.put, List.setIfInBounds_toArray, List.set_cons_zero, List.set_cons_succ]
      go_simp
      refine (toCoefsC w6 _ X ((unhide HX).st (unhide I6).grown).rd hs).mono ?_
      rintro e w7 ⟨u7, F7, rfl, o7, n7, l7, g7⟩
      obtain ⟨so7, sc7, rfl⟩ := Bc.form o7
      rw [unhide HM] at o7 ⊢
      have RX_0 : Hid (Rd3 w7 (.slice so7 m sc7) X) := by obtain ⟨v', e', r'⟩ := o7.rd; obtain rfl : Value.slice so7 m sc7 = v' := (by simpa using e'); exact r'
      clear o7 n7 l7
      have HT_7 : Hid (Fb w7 (fun b => w3.heap.size ≤ b) _ _ w7) := (unhide HT_6).next g7 (fun b hb _ => hb)
      clear HT_6
      have I7 := hide ((unhide I6).new g7)
      have hz7 := g7.size
      have RF_7 := hide ((unhide RF_6).grown g7)
      clear I6 g7 RF_6
      go_simp
      refine hK.out _ _ (unhide I7) ?_
      clear hK K
      refine tailX_held ?_
      refine tailX_step 10 (Fb w7 (fun b => w3.heap.size ≤ b)) (unhide HT_7) (by rfl) (float_T (fun W g => ((unhide I7).new g)) (fun W g => by have := g.size; omega)) ?_
      intro d8 x8 w8 hT K hK
      have g8 := hT.1
      clear HT_7
      have HT_8 := hide hT
      clear hT
      have I8 := hide ((unhide I7).new g8)
      have hz8 := g8.size
      have RF_8 := hide ((unhide RF_7).grown g8)
      have RX_8 := hide (st3 _ _ _ _ (unhide RX_0) g8)
      clear I7 g8 RF_7 RX_0
      unfold runF
      simp only [Act.put, List.setIfInBounds_toArray, List.set_cons_zero, List.set_cons_succ]
      go_simp
      refine (toPlace co ro cl w8).mono ?_
      rintro e w9 ⟨rfl, g9⟩
      have HT_9 : Hid (Fb w9 (fun b => w3.heap.size ≤ b) _ _ w9) := (unhide HT_8).next g9 (fun b hb _ => hb)
      clear HT_8
      have I9 := hide ((unhide I8).new g9)
      have hz9 := g9.size
      have RF_9 := hide ((unhide RF_8).grown g9)
      have RX_9 := hide (st3 _ _ _ _ (unhide RX_8) g9)
      clear I8 g9 RF_8 RX_8
      go_simp
      refine hK.out _ _ (unhide I9) ?_
      clear hK K
      refine tailX_held ?_
      refine tailX_step 10 (Fb w9 (fun b => w3.heap.size ≤ b)) (unhide HT_9) (by rfl) (float_T (fun W g => ((unhide I9).new g)) (fun W g => by have := g.size; omega)) ?_
      intro d10 x10 w10 hT K hK
      have g10 := hT.1
      clear HT_9
      have HT_10 := hide hT
      clear hT
      have I10 := hide ((unhide I9).new g10)
      have hz10 := g10.size
      have RF_10 := hide ((unhide RF_9).grown g10)
      have RX_10 := hide (st3 _ _ _ _ (unhide RX_9) g10)
      clear I9 g10 RF_9 RX_9
      unfold runF
      simp only [Act.put, List.setIfInBounds_toArray, List.set_cons_zero, List.set_cons_succ]
      go_simp
      refine (toIntSC w10 _ bl (RdI.st _ _ _ _ _ (unhide HBL) (unhide I10).grown) hbs).mono ?_
      rintro e w11 ⟨u11, F11, rfl, o11, n11, l11, g11⟩
      obtain ⟨so11, sc11, rfl⟩ := own_form o11.1
      rw [unhide HBN] at o11 ⊢
      have RB_0 : Hid (Rd .i64 w11 so11 bn bl) := by obtain ⟨a', c', e', r'⟩ := OwI.rd o11; rw [unhide HBN] at r' e'; obtain ⟨rfl, rfl⟩ : so11 = a' ∧ sc11 = c' := (by simpa using e'); exact r'
      clear o11 n11 l11
      have HT_11 : Hid (Fb w11 (fun b => w3.heap.size ≤ b) _ _ w11) := (unhide HT_10).next g11 (fun b hb _ => hb)
      clear HT_10
      have I11 := hide ((unhide I10).new g11)
      have hz11 := g11.size
      have RF_11 := hide ((unhide RF_10).grown g11)
      have RX_11 := hide (st3 _ _ _ _ (unhide RX_10) g11)
      clear I10 g11 RF_10 RX_10
      go_simp
      refine hK.out _ _ (unhide I11) ?_
      clear hK K
      refine tailX_step 10 (Fb w11 (fun b => w3.heap.size ≤ b)) (unhide HT_11) (by rfl) (float_T (fun W g => ((unhide I11).new g)) (fun W g => by have := g.size; omega)) ?_
      intro d12 x12 w12 hT K hK
      have g12 := hT.1
      clear HT_11
      have HT_12 := hide hT
      clear hT
      have I12 := hide ((unhide I11).new g12)
      have hz12 := g12.size
      have RF_12 := hide ((unhide RF_11).grown g12)
      have RX_12 := hide (st3 _ _ _ _ (unhide RX_11) g12)
      have RB_12 := hide ((unhide RB_0).grown g12)
      clear I11 g12 RF_11 RX_11 RB_0
      unfold runF
      simp only [Act.put, List.setIfInBounds_toArray, List.set_cons_zero, List.set_cons_succ]
      go_simp
      refine (specWith p wd ht rs _ n n C _ X co ro cl _ _ _ bl w12 (unhide RF_12) (unhide RX_12) hs (unhide RB_12) fb HFB L HL).mono ?_
      rintro e w13 ⟨u13, F13, rfl, o13, nd13, l13, g13⟩
      obtain ⟨so13, sc13, rfl⟩ := Bc.form o13
      rw [unhide HLL] at o13 ⊢
      have LOW : Hid (∀ g ∈ F13, w12.heap.size ≤ g ∧ g < w13.heap.size) := fun g e => ⟨l13 g e, o13.lt g e⟩
      have NDW := hide nd13
      have OT := hide o13
      clear o13 nd13 l13
      have HT_13 : Hid (Fb w13 (fun b => w3.heap.size ≤ b ∧ b ∉ F13) _ _ w13) := (unhide HT_12).next g13 (fun b hb hlt => ⟨hb, fun e => by have := unhide LOW b e; omega⟩)
      clear HT_12
      clear RF_12
      clear RX_12
      clear RB_12
      have I13 := hide ((unhide I12).new g13)
      have hz13 := g13.size
      clear I12 g13
      go_simp
      refine hK.out _ _ (unhide I13) ?_
      clear hK K
      refine tailX_last 10 (Fb w13 (fun b => w3.heap.size ≤ b ∧ b ∉ F13)) (unhide HT_13) (by rfl) (float_T (fun W g => ((unhide I13).new g)) (fun W g => ⟨by have := g.size; omega, fun e => by have := unhide LOW _ e; have := g.size; omega⟩)) ?_
      intro x14 w14 hT K hK
      have g14 := hT.1
      obtain ⟨bW, rfl, hbx, hNb⟩ := hT.2 rfl
      clear hT HT_13
      have I14 := hide ((unhide I13).new g14)
      have hz14 := g14.size
      have OT_14 := hide ((unhide OT).keep g14)
      clear I13 g14 OT
      have cb : w14.cell? ⟨bW, 0, none⟩ = some (.slice none 0 0) := by rw [cell_of_row _ _ 0 _ _ (0, 0) hbx]; rfl
      have fz := frozen_of_row w14 bW 0 _ _ hbx
      have HBX := hide hbx
      have HNB := hide hNb
      clear hbx hNb
      unfold runF
      simp only [Act.put, List.setIfInBounds_toArray, List.set_cons_zero, List.set_cons_succ]
      go_simp
      refine hK.out _ _ ?_
      clear hK K cb fz
      refine NoPanic.normal ?_
      have W_0 := hide (Bc.put (unhide HBX) (unhide OT_14) (unhide HNB).2)
      clear OT_14
      have hbW : w3.heap.size ≤ bW ∧ bW < w14.heap.size := ⟨(unhide HNB).1, (Array.getElem?_eq_some_iff.1 (unhide HBX)).1⟩
      have NBW := hide (unhide HNB).2
      have g15 : Wr [bW] w14 (w14.setCell ⟨bW, 0, none⟩ (.slice so13 ll sc13)) := Wr.ofRow (grown_set _ _ _ _) (fun g e => by have e9 := Option.some.inj e; simp [e9])
      have LOB : Hid (∀ g ∈ [bW], w3.heap.size ≤ g ∧ g = bW) := fun g e => by simp at e; omega
      clear HBX HNB
      have I15 := hide ((unhide I14).wr g15 (fun x hx => by have := unhide LOB x hx; omega))
      have hz15 := g15.size
      clear I14 g15
      clear LOB
      generalize (w14.setCell ⟨bW, 0, none⟩ (.slice so13 ll sc13)) = w15 at *
      have ca := frameCells (unhide I15).fb
      go_wp2_with fail
      refine (toFrame p wd ht rs ao n cap C w15 ((unhide HR).grown (unhide I15).grown) hn).mono ?_
      rintro e w16 ⟨q16, rfl, o16, g16⟩
      have hq : w15.heap.size ≤ q16 ∧ q16 < w16.heap.size := o16.lt q16 rfl
      have g17 := grown_alloc g16 (.cells #[.int .i64 p, .int .i64 wd, .int .i64 ht, .int .i64 rs, .slice (some ⟨q16, 0, none⟩) n n] 26)
      have hy17 : w16.heap.size < (w16.alloc (.cells #[.int .i64 p, .int .i64 wd, .int .i64 ht, .int .i64 rs, .slice (some ⟨q16, 0, none⟩) n n] 26)).heap.size := by simp
      have X0_0 := hide (Bf.new o16 p wd ht rs)
      clear ca g16 o16
      have I17 := hide ((unhide I15).new g17)
      have hz17 := g17.size
      have W_17 := hide ((unhide W_0).keep g17)
      clear I15 g17 W_0
      have c0 := (unhide I17).cell
      go_wp2_with fail
      generalize (w16.alloc (.cells #[.int .i64 p, .int .i64 wd, .int .i64 ht, .int .i64 rs, .slice (some ⟨q16, 0, none⟩) n n] 26)) = w17 at *
      refine (toCoefsC w17 _ X ((unhide HX).st (unhide I17).grown).rd hs).mono ?_
      rintro e w18 ⟨u18, F18, rfl, o18, n18, l18, g18⟩
      obtain ⟨so18, sc18, rfl⟩ := Bc.form o18
      rw [unhide HM] at o18 ⊢
      have LOX1 : Hid (∀ g ∈ F18, w17.heap.size ≤ g ∧ g < w18.heap.size) := fun g e => ⟨l18 g e, o18.lt g e⟩
      have NDX1 := hide n18
      have g19 := grown_alloc g18 (.cells #[.slice so18 m sc18] 29)
      have hy19 : w18.heap.size < (w18.alloc (.cells #[.slice so18 m sc18] 29)).heap.size := by simp
      have X1_0 := hide (Bc.new o18)
      have hv18 := g18.size
      clear c0 g18 o18 n18 l18
      have I19 := hide ((unhide I17).new g19)
      have hz19 := g19.size
      have W_19 := hide ((unhide W_17).keep g19)
      have X0_19 := hide ((unhide X0_0).keep g19)
      clear I17 g19 W_17 X0_0
      go_wp2_with fail
      generalize (w18.alloc (.cells #[.slice so18 m sc18] 29)) = w19 at *
      refine (toIntSC w19 _ bl (RdI.st _ _ _ _ _ (unhide HBL) (unhide I19).grown) hbs).mono ?_
      rintro e w20 ⟨u20, F20, rfl, o20, n20, l20, g20⟩
      obtain ⟨so20, sc20, rfl⟩ := own_form o20.1
      rw [unhide HBN] at o20 ⊢
      have LOX3 : Hid (∀ g ∈ F20, w19.heap.size ≤ g ∧ g < w20.heap.size) := fun g e => ⟨l20 g e, ok1.lt _ _ _ _ o20 g e⟩
      have NDX3 := hide n20
      have X3_0 := hide o20
      clear o20 n20 l20
      have I20 := hide ((unhide I19).new g20)
      have hz20 := g20.size
      have W_20 := hide ((unhide W_19).keep g20)
      have X0_20 := hide ((unhide X0_19).keep g20)
      have X1_20 := hide ((unhide X1_0).keep g20)
      clear I19 g20 W_19 X0_19 X1_0
      go_wp2
      refine wp_region_noPanic ?_
      have gd := grown_drew (World.grownBy.refl w20 none)
      have I21 := hide ((unhide I20).new gd)
      have hz21 := gd.size
      have W_21 := hide ((unhide W_20).keep gd)
      have X0_21 := hide ((unhide X0_20).keep gd)
      have X1_21 := hide ((unhide X1_20).keep gd)
      have X3_21 := hide (ok1.keep (unhide X3_0) gd)
      clear I20 gd W_20 X0_20 X1_20 X3_0
      refine wp_region_float 20 6 _ (fun W => In3 w W #[.int .i64 p, .int .i64 wd, .int .i64 ht, .int .i64 rs, .slice ao n cap] (.slice xo m xc) #[.int .i64 co, .int .i64 ro, .int .i64 cl] ∧ Bf W w16.heap.size p wd ht rs q16 n _ C ∧ W.cell? ⟨w18.heap.size, 0, none⟩ = some (.slice so18 m sc18)) [.held, .held, .held, .chain, .held, .chain, .flt, .chain] (by kernel_rfl) (fun _ _ _ _ _ h => h) rfl (by decide) rfl (by rfl) (by kernel_rfl) ⟨(unhide I21), (unhide X0_21), (unhide X1_21).cell⟩ ?_
      generalize w20.drew = w21 at *
      refine heldX_take (v := ?_) (Or.inl ⟨by rfl, ?_⟩) ?_
      rotate_left 1
      · intro w' hSw
        try dsimp only at hSw
        have s1 := frameCells hSw.2.1.box
        go_simp
        try with_reducible rfl
      simp only [Act.put, List.setIfInBounds_toArray, List.set_cons_zero, List.set_cons_succ]
      refine heldX_take (v := ?_) (Or.inl ⟨by rfl, ?_⟩) ?_
      rotate_left 1
      · intro w' hSw
        try dsimp only at hSw
        have s1 := hSw.2.2
        go_simp
        try with_reducible rfl
      simp only [Act.put, List.setIfInBounds_toArray, List.set_cons_zero, List.set_cons_succ]
      refine heldX_take (v := ?_) (Or.inl ⟨by rfl, ?_⟩) ?_
      rotate_left 1
      · intro w' hSw
        try dsimp only at hSw
        have s1 := hSw.1.place
        go_simp
        try with_reducible rfl
      simp only [Act.put, List.setIfInBounds_toArray, List.set_cons_zero, List.set_cons_succ]
      refine heldX_skip ?_
      refine heldX_take (v := ?_) (Or.inl ⟨by rfl, ?_⟩) ?_
      rotate_left 1
      · intro w' hSw
        try dsimp only at hSw
        go_simp
        try with_reducible rfl
      simp only [Act.put, List.setIfInBounds_toArray, List.set_cons_zero, List.set_cons_succ]
      refine heldX_skip ?_
      refine heldX_flt ?_
      refine heldX_skip ?_
      refine heldX_nil ?_
      have HT_21 := hide (Fb.start w21 (fun b => w21.heap.size ≤ b) undef)
      refine tailX_held ?_
      refine tailX_held ?_
      refine tailX_held ?_
      refine tailX_step 14 (Fb w21 (fun b => w21.heap.size ≤ b)) (unhide HT_21) (by rfl) (float_T (fun W g => ⟨(unhide I21).new g, (unhide X0_21).keep g, ((unhide X1_21).keep g).cell⟩) (fun W g => by have := g.size; omega)) ?_
      intro d22 x22 w22 hT K hK
      have g22 := hT.1
      clear HT_21
      have HT_22 := hide hT
      clear hT
      have I22 := hide ((unhide I21).new g22)
      have hz22 := g22.size
      have W_22 := hide ((unhide W_21).keep g22)
      have X0_22 := hide ((unhide X0_21).keep g22)
      have X1_22 := hide ((unhide X1_21).keep g22)
      have X3_22 := hide (ok1.keep (unhide X3_21) g22)
      clear I21 g22 W_21 X0_21 X1_21 X3_21
      unfold runF
      simp only [Act.put, List.setIfInBounds_toArray, List.set_cons_zero, List.set_cons_succ]
      go_simp
      refine (toPlace co ro cl w22).mono ?_
      rintro e w23 ⟨rfl, g23⟩
      have HT_23 : Hid (Fb w23 (fun b => w21.heap.size ≤ b) _ _ w23) := (unhide HT_22).next g23 (fun b hb _ => hb)
      clear HT_22
      have I23 := hide ((unhide I22).new g23)
      have hz23 := g23.size
      have W_23 := hide ((unhide W_22).keep g23)
      have X0_23 := hide ((unhide X0_22).keep g23)
      have X1_23 := hide ((unhide X1_22).keep g23)
      have X3_23 := hide (ok1.keep (unhide X3_22) g23)
      clear I22 g23 W_22 X0_22 X1_22 X3_22
      go_simp
      refine hK.out _ _ ⟨(unhide I23), (unhide X0_23), (unhide X1_23).cell⟩ ?_
      clear hK K
      refine tailX_held ?_
      refine tailX_step 14 (Fb w23 (fun b => w21.heap.size ≤ b)) (unhide HT_23) (by rfl) (float_T (fun W g => ⟨(unhide I23).new g, (unhide X0_23).keep g, ((unhide X1_23).keep g).cell⟩) (fun W g => by have := g.size; omega)) ?_
      intro d24 x24 w24 hT K hK
      have g24 := hT.1
      clear HT_23
      have HT_24 := hide hT
      clear hT
      have I24 := hide ((unhide I23).new g24)
      have hz24 := g24.size
      have W_24 := hide ((unhide W_23).keep g24)
      have X0_24 := hide ((unhide X0_23).keep g24)
      have X1_24 := hide ((unhide X1_23).keep g24)
      have X3_24 := hide (ok1.keep (unhide X3_23) g24)
      clear I23 g24 W_23 X0_23 X1_23 X3_23
      unfold runF
      simp only [Act.put, List.setIfInBounds_toArray, List.set_cons_zero, List.set_cons_succ]
      go_simp
      refine (unhide HI p wd ht rs _ n n C _ X co ro cl _ _ _ bl w24 (unhide X0_24).rd hn (by obtain ⟨v', e', r'⟩ := (unhide X1_24).own.rd; obtain rfl : Value.slice so18 m sc18 = v' := (by simpa using e'); exact r') hs (by obtain ⟨a', c', e', r'⟩ := OwI.rd (unhide X3_24); rw [unhide HBN] at r' e'; obtain ⟨rfl, rfl⟩ : so20 = a' ∧ sc20 = c' := (by simpa using e'); exact r') hbs2 fb HFB L HL).mono ?_
      rintro e w25 ⟨u25, F25, rfl, o25, nd25, l25, g25⟩
      obtain ⟨so25, sc25, rfl⟩ := Bc.form o25
      rw [unhide HLL] at o25 ⊢
      have LOY : Hid (∀ g ∈ F25, w24.heap.size ≤ g ∧ g < w25.heap.size) := fun g e => ⟨l25 g e, o25.lt g e⟩
      have NDY := hide nd25
      have OT := hide o25
      clear o25 nd25 l25
      have HT_25 : Hid (Fb w25 (fun b => w21.heap.size ≤ b ∧ b ∉ F25) _ _ w25) := (unhide HT_24).next g25 (fun b hb hlt => ⟨hb, fun e => by have := unhide LOY b e; omega⟩)
      clear HT_24
      have I25 := hide ((unhide I24).new g25)
      have hz25 := g25.size
      have W_25 := hide ((unhide W_24).keep g25)
      have X0_25 := hide ((unhide X0_24).keep g25)
      have X1_25 := hide ((unhide X1_24).keep g25)
      have X3_25 := hide (ok1.keep (unhide X3_24) g25)
      clear I24 g25 W_24 X0_24 X1_24 X3_24
      go_simp
      refine hK.out _ _ ⟨(unhide I25), (unhide X0_25), (unhide X1_25).cell⟩ ?_
      clear hK K
      refine tailX_last 14 (Fb w25 (fun b => w21.heap.size ≤ b ∧ b ∉ F25)) (unhide HT_25) (by rfl) (float_T (fun W g => ⟨(unhide I25).new g, (unhide X0_25).keep g, ((unhide X1_25).keep g).cell⟩) (fun W g => ⟨by have := g.size; omega, fun e => by have := unhide LOY _ e; have := g.size; omega⟩)) ?_
      intro x26 w26 hT K hK
      have g26 := hT.1
      obtain ⟨bY, rfl, hbx, hNb⟩ := hT.2 rfl
      clear hT HT_25
      have I26 := hide ((unhide I25).new g26)
      have hz26 := g26.size
      have W_26 := hide ((unhide W_25).keep g26)
      have X0_26 := hide ((unhide X0_25).keep g26)
      have X1_26 := hide ((unhide X1_25).keep g26)
      have X3_26 := hide (ok1.keep (unhide X3_25) g26)
      have OT_26 := hide ((unhide OT).keep g26)
      clear I25 g26 W_25 X0_25 X1_25 X3_25 OT
      have cb : w26.cell? ⟨bY, 0, none⟩ = some (.slice none 0 0) := by rw [cell_of_row _ _ 0 _ _ (0, 0) hbx]; rfl
      have fz := frozen_of_row w26 bY 0 _ _ hbx
      have HBX := hide hbx
      have HNB := hide hNb
      clear hbx hNb
      unfold runF
      simp only [Act.put, List.setIfInBounds_toArray, List.set_cons_zero, List.set_cons_succ]
      go_simp
      refine hK.out _ _ ?_
      clear hK K cb fz
      refine NoPanic.normal ?_
      have Y_0 := hide (Bc.put (unhide HBX) (unhide OT_26) (unhide HNB).2)
      clear OT_26
      have hbY : w21.heap.size ≤ bY ∧ bY < w26.heap.size := ⟨(unhide HNB).1, (Array.getElem?_eq_some_iff.1 (unhide HBX)).1⟩
      have NBY := hide (unhide HNB).2
      have g27 : Wr [bY] w26 (w26.setCell ⟨bY, 0, none⟩ (.slice so25 ll sc25)) := Wr.ofRow (grown_set _ _ _ _) (fun g e => by have e9 := Option.some.inj e; simp [e9])
      have LOB : Hid (∀ g ∈ [bY], w21.heap.size ≤ g ∧ g = bY) := fun g e => by simp at e; omega
      clear HBX HNB
      have I27 := hide ((unhide I26).wr g27 (fun x hx => by have := unhide LOB x hx; omega))
      have hz27 := g27.size
      have W_27 := hide ((unhide W_26).wr g27 (fun e => by have := unhide LOB _ e; omega) (fun x hx e => by have := unhide LOB x e; have := unhide LOW x hx; omega))
      have X0_27 := hide ((unhide X0_26).wr g27 (fun e => by have := unhide LOB _ e; omega) (fun e => by have := unhide LOB _ e; omega))
      have X1_27 := hide ((unhide X1_26).wr g27 (fun e => by have := unhide LOB _ e; omega) (fun x hx e => by have := unhide LOB x e; have := unhide LOX1 x hx; omega))
      have X3_27 := hide (ok1.wr (unhide X3_26) g27 (fun x hx e => by have := unhide LOB x e; have := unhide LOX3 x hx; omega))
      clear I26 g27 W_26 X0_26 X1_26 X3_26
      clear LOB
      generalize (w26.setCell ⟨bY, 0, none⟩ (.slice so25 ll sc25)) = w27 at *
      have ccY := (unhide Y_0).cell
      have ccW := (unhide W_27).cell
      go_wp2_with fail
      refine (eqCoefsC w27 _ _ L (unhide Y_0).own.rd (unhide W_27).own.rd hL).mono ?_
      rintro e w28 ⟨rfl, g28⟩
      clear ccY ccW
      have I28 := hide ((unhide I27).new g28)
      have hz28 := g28.size
      have W_28 := hide ((unhide W_27).keep g28)
      have X0_28 := hide ((unhide X0_27).keep g28)
      have X1_28 := hide ((unhide X1_27).keep g28)
      have X3_28 := hide (ok1.keep (unhide X3_27) g28)
      have Y_28 := hide ((unhide Y_0).keep g28)
      clear I27 g28 W_27 X0_27 X1_27 X3_27 Y_0
      go_wp2
      refine wp_region_noPanic ?_
      have gd := grown_drew (World.grownBy.refl w28 none)
      have I29 := hide ((unhide I28).new gd)
      have hz29 := gd.size
      have W_29 := hide ((unhide W_28).keep gd)
      have X0_29 := hide ((unhide X0_28).keep gd)
      have X1_29 := hide ((unhide X1_28).keep gd)
      have X3_29 := hide (ok1.keep (unhide X3_28) gd)
      have Y_29 := hide ((unhide Y_28).keep gd)
      clear I28 gd W_28 X0_28 X1_28 X3_28 Y_28
      refine wp_region_tailL 20 (fun W => In3 w W #[.int .i64 p, .int .i64 wd, .int .i64 ht, .int .i64 rs, .slice ao n cap] (.slice xo m xc) #[.int .i64 co, .int .i64 ro, .int .i64 cl] ∧ Bf W w16.heap.size p wd ht rs q16 n _ C) [true, true, false, false, false] (by kernel_rfl) (fun _ _ _ _ _ h => h) rfl (by decide) (by kernel_rfl) ⟨(unhide I29), (unhide X0_29)⟩ ?_
      generalize w28.drew = w29 at *
      refine heldF_take (v := ?_) (Or.inl ⟨by rfl, ?_⟩) ?_
      rotate_left 1
      · intro w' hSw
        try dsimp only at hSw
        have s1 := frameCells hSw.2.box
        go_simp
        try with_reducible rfl
      simp only [Act.put, List.setIfInBounds_toArray, List.set_cons_zero, List.set_cons_succ]
      refine heldF_take (v := ?_) (Or.inl ⟨by rfl, ?_⟩) ?_
      rotate_left 1
      · intro w' hSw
        try dsimp only at hSw
        have s1 := frameCells hSw.1.fb
        go_simp
        try with_reducible rfl
      simp only [Act.put, List.setIfInBounds_toArray, List.set_cons_zero, List.set_cons_succ]
      refine heldF_skip ?_
      refine heldF_skip ?_
      refine heldF_skip ?_
      refine heldF_nil ?_
      refine tailL_skip ?_
      refine tailL_skip ?_
      refine tailL_step (fun K hK => ?_)
      go_simp
      refine (toFrame p wd ht rs ao n cap C w29 ((unhide HR).grown (unhide I29).grown) hn).mono ?_
      rintro e w30 ⟨q30, rfl, o30, g30⟩
      have RF_0 := hide (own_rdC o30)
      clear o30
      have I30 := hide ((unhide I29).new g30)
      have hz30 := g30.size
      have W_30 := hide ((unhide W_29).keep g30)
      have X0_30 := hide ((unhide X0_29).keep g30)
      have X1_30 := hide ((unhide X1_29).keep g30)
      have X3_30 := hide (ok1.keep (unhide X3_29) g30)
      have Y_30 := hide ((unhide Y_29).keep g30)
      clear I29 g30 W_29 X0_29 X1_29 X3_29 Y_29
      go_simp
      refine hK.out _ _ (.inr ⟨(unhide I30), (unhide X0_30)⟩) ?_
      clear hK K
      refine tailL_step (fun K hK => ?_)
      go_simp
      refine (eqFrame p wd ht rs _ _ n n n C w30 (unhide X0_30).rd (unhide RF_0) hn).mono ?_
      rintro e w31 ⟨rfl, g31⟩
      clear RF_0
      have I31 := hide ((unhide I30).new g31)
      have hz31 := g31.size
      have W_31 := hide ((unhide W_30).keep g31)
      have X0_31 := hide ((unhide X0_30).keep g31)
      have X1_31 := hide ((unhide X1_30).keep g31)
      have X3_31 := hide (ok1.keep (unhide X3_30) g31)
      have Y_31 := hide ((unhide Y_30).keep g31)
      clear I30 g31 W_30 X0_30 X1_30 X3_30 Y_30
      go_simp
      refine hK.out _ _ (.inr ⟨(unhide I31), (unhide X0_31)⟩) ?_
      clear hK K
      refine tailL_step (fun K hK => ?_)
      go_simp
      refine hK.out _ _ (.inl rfl) ?_
      clear hK K
      refine tailL_nil (NoPanic.normal ?_)
      go_wp2
      refine wp_region_noPanic ?_
      have gd := grown_drew (World.grownBy.refl w31 none)
      have I32 := hide ((unhide I31).new gd)
      have hz32 := gd.size
      have W_32 := hide ((unhide W_31).keep gd)
      have X0_32 := hide ((unhide X0_31).keep gd)
      have X1_32 := hide ((unhide X1_31).keep gd)
      have X3_32 := hide (ok1.keep (unhide X3_31) gd)
      have Y_32 := hide ((unhide Y_31).keep gd)
      clear I31 gd W_31 X0_31 X1_31 X3_31 Y_31
      refine wp_region_tailL 20 (fun W => In3 w W #[.int .i64 p, .int .i64 wd, .int .i64 ht, .int .i64 rs, .slice ao n cap] (.slice xo m xc) #[.int .i64 co, .int .i64 ro, .int .i64 cl] ∧ W.cell? ⟨w18.heap.size, 0, none⟩ = some (.slice so18 m sc18)) [true, true, false, false, false] (by kernel_rfl) (fun _ _ _ _ _ h => h) rfl (by decide) (by kernel_rfl) ⟨(unhide I32), (unhide X1_32).cell⟩ ?_
      generalize w31.drew = w32 at *
      refine heldF_take (v := ?_) (Or.inl ⟨by rfl, ?_⟩) ?_
      rotate_left 1
      · intro w' hSw
        try dsimp only at hSw
        have s1 := hSw.2
        go_simp
        try with_reducible rfl
      simp only [Act.put, List.setIfInBounds_toArray, List.set_cons_zero, List.set_cons_succ]
      refine heldF_take (v := ?_) (Or.inl ⟨by rfl, ?_⟩) ?_
      rotate_left 1
      · intro w' hSw
        try dsimp only at hSw
        have s1 := hSw.1.cell
        go_simp
        try with_reducible rfl
      simp only [Act.put, List.setIfInBounds_toArray, List.set_cons_zero, List.set_cons_succ]
      refine heldF_skip ?_
      refine heldF_skip ?_
      refine heldF_skip ?_
      refine heldF_nil ?_
      refine tailL_skip ?_
      refine tailL_skip ?_
      refine tailL_step (fun K hK => ?_)
      go_simp
      refine (toCoefsC w32 _ X ((unhide HX).st (unhide I32).grown).rd hs).mono ?_
      rintro e w33 ⟨u33, F33, rfl, o33, n33, l33, g33⟩
      obtain ⟨so33, sc33, rfl⟩ := Bc.form o33
      rw [unhide HM] at o33 ⊢
      have OG := hide o33.rd
      clear o33 n33 l33
      have I33 := hide ((unhide I32).new g33)
      have hz33 := g33.size
      have W_33 := hide ((unhide W_32).keep g33)
      have X0_33 := hide ((unhide X0_32).keep g33)
      have X1_33 := hide ((unhide X1_32).keep g33)
      have X3_33 := hide (ok1.keep (unhide X3_32) g33)
      have Y_33 := hide ((unhide Y_32).keep g33)
      clear I32 g33 W_32 X0_32 X1_32 X3_32 Y_32
      go_simp
      refine hK.out _ _ (.inr ⟨(unhide I33), (unhide X1_33).cell⟩) ?_
      clear hK K
      refine tailL_step (fun K hK => ?_)
      go_simp
      refine (eqCoefsC w33 _ _ X (unhide X1_33).own.rd (unhide OG) hs).mono ?_
      rintro e w34 ⟨rfl, g34⟩
      clear OG
      have I34 := hide ((unhide I33).new g34)
      have hz34 := g34.size
      have W_34 := hide ((unhide W_33).keep g34)
      have X0_34 := hide ((unhide X0_33).keep g34)
      have X1_34 := hide ((unhide X1_33).keep g34)
      have X3_34 := hide (ok1.keep (unhide X3_33) g34)
      have Y_34 := hide ((unhide Y_33).keep g34)
      clear I33 g34 W_33 X0_33 X1_33 X3_33 Y_33
      go_simp
      refine hK.out _ _ (.inr ⟨(unhide I34), (unhide X1_34).cell⟩) ?_
      clear hK K
      refine tailL_step (fun K hK => ?_)
      go_simp
      refine hK.out _ _ (.inl rfl) ?_
      clear hK K
      refine tailL_nil (NoPanic.normal ?_)
      go_wp2_with fail
      refine (toIntSC w34 _ bl (RdI.st _ _ _ _ _ (unhide HBL) (unhide I34).grown) hbs).mono ?_
      rintro e w35 ⟨u35, F35, rfl, o35, n35, l35, g35⟩
      obtain ⟨so35, sc35, rfl⟩ := own_form o35.1
      rw [unhide HBN] at o35 ⊢
      have OG := hide (OwI.rd o35)
      clear o35 n35 l35
      have I35 := hide ((unhide I34).new g35)
      have hz35 := g35.size
      have W_35 := hide ((unhide W_34).keep g35)
      have X0_35 := hide ((unhide X0_34).keep g35)
      have X1_35 := hide ((unhide X1_34).keep g35)
      have X3_35 := hide (ok1.keep (unhide X3_34) g35)
      have Y_35 := hide ((unhide Y_34).keep g35)
      clear I34 g35 W_34 X0_34 X1_34 X3_34 Y_34
      go_wp2_with fail
      refine (eqIntSC w35 _ _ bl (OwI.rd (unhide X3_35)) (unhide OG) hbs).mono ?_
      rintro e w36 ⟨rfl, g36⟩
      clear OG
      have I36 := hide ((unhide I35).new g36)
      have hz36 := g36.size
      have W_36 := hide ((unhide W_35).keep g36)
      have X0_36 := hide ((unhide X0_35).keep g36)
      have X1_36 := hide ((unhide X1_35).keep g36)
      have X3_36 := hide (ok1.keep (unhide X3_35) g36)
      have Y_36 := hide ((unhide Y_35).keep g36)
      clear I35 g36 W_35 X0_35 X1_35 X3_35 Y_35
      have cx := frameCells (unhide X0_36).box
      go_wp2_with fail
      refine (markFrame p wd ht rs _ n _ _ C 1 w36 (unhide X0_36).own hn (by omega) (by omega)).mono ?_
      rintro e w37 ⟨rfl, _, gb37⟩
      have g37 : Wr [q16] w36 w37 := Wr.ofRow gb37 (fun g e => by have e9 : q16 = g := Option.some.inj e; simp [e9])
      clear cx gb37
      have LOQ : Hid (∀ g ∈ [q16], w.heap.size + 3 ≤ g ∧ g = q16) := fun g e => by simp at e; omega
      have I37 := hide ((unhide I36).wr g37 (fun x hx => by have := unhide LOQ x hx; omega))
      have hz37 := g37.size
      have W_37 := hide ((unhide W_36).wr g37 (fun e => by have := unhide LOQ _ e; omega) (fun x hx e => by have := unhide LOQ x e; have := unhide LOW x hx; omega))
      have X1_37 := hide ((unhide X1_36).wr g37 (fun e => by have := unhide LOQ _ e; omega) (fun x hx e => by have := unhide LOQ x e; have := unhide LOX1 x hx; omega))
      have X3_37 := hide (ok1.wr (unhide X3_36) g37 (fun x hx e => by have := unhide LOQ x e; have := unhide LOX3 x hx; omega))
      have Y_37 := hide ((unhide Y_36).wr g37 (fun e => by have := unhide LOQ _ e; omega) (fun x hx e => by have := unhide LOQ x e; have := unhide LOY x hx; omega))
      clear I36 g37 W_36 X0_36 X1_36 X3_36 Y_36
      generalize (1 : Int) + 4 * (n : Int) = pk at *
      have c1 := (unhide X1_37).cell
      go_wp2_with fail
      refine (markCoefsC w37 _ X F18 pk (unhide X1_37).own (unhide NDX1) hs (by omega) (by omega)).mono ?_
      rintro e w38 ⟨rfl, _, g38⟩
      clear c1
      have I38 := hide ((unhide I37).wr g38 (fun x hx => by have := unhide LOX1 x hx; omega))
      have hz38 := g38.size
      have W_38 := hide ((unhide W_37).wr g38 (fun e => by have := unhide LOX1 _ e; omega) (fun x hx e => by have := unhide LOX1 x e; have := unhide LOW x hx; omega))
      have X3_38 := hide (ok1.wr (unhide X3_37) g38 (fun x hx e => by have := unhide LOX1 x e; have := unhide LOX3 x hx; omega))
      have Y_38 := hide ((unhide Y_37).wr g38 (fun e => by have := unhide LOX1 _ e; omega) (fun x hx e => by have := unhide LOX1 x e; have := unhide LOY x hx; omega))
      clear I37 g38 W_37 X1_37 X3_37 Y_37
      have hp2 : 0 ≤ pk + (cntCo X : Int) := by omega
      generalize pk + (cntCo X : Int) = pk2 at *
      go_wp2_with fail
      refine (markIntSC w38 _ bl F20 pk2 (unhide X3_38) (unhide NDX3) hbs (by omega) (by omega)).mono ?_
      rintro e w39 ⟨rfl, _, g39⟩
      have I39 := hide ((unhide I38).wr g39 (fun x hx => by have := unhide LOX3 x hx; omega))
      have hz39 := g39.size
      have W_39 := hide ((unhide W_38).wr g39 (fun e => by have := unhide LOX3 _ e; omega) (fun x hx e => by have := unhide LOX3 x e; have := unhide LOW x hx; omega))
      have Y_39 := hide ((unhide Y_38).wr g39 (fun e => by have := unhide LOX3 _ e; omega) (fun x hx e => by have := unhide LOX3 x e; have := unhide LOY x hx; omega))
      clear I38 g39 W_38 X3_38 Y_38
      have ccY := (unhide Y_39).cell
      have ccW := (unhide W_39).cell
      go_wp2_with fail
      refine (eqCoefsC w39 _ _ L (unhide Y_39).own.rd (unhide W_39).own.rd hL).mono ?_
      rintro e w40 ⟨rfl, g40⟩
      clear ccY ccW
      have I40 := hide ((unhide I39).new g40)
      have hz40 := g40.size
      have W_40 := hide ((unhide W_39).keep g40)
      have Y_40 := hide ((unhide Y_39).keep g40)
      clear I39 g40 W_39 Y_39
      have ccY := (unhide Y_40).cell
      go_wp2_with fail
      refine (markCoefsC w40 _ L F25 1 (unhide Y_40).own (unhide NDY) hL (by omega) (by omega)).mono ?_
      rintro e w41 ⟨rfl, oy, g41⟩
      clear ccY
      have YB := hide ((g41.block _ (unhide Y_40).lt (unhide NBY)).trans (unhide Y_40).box)
      have Y_m : Hid (Bc w41 bY (.slice so25 ll sc25) (mkCo L 1) F25) := ⟨unhide YB, oy⟩
      clear YB oy
      have I41 := hide ((unhide I40).wr g41 (fun x hx => by have := unhide LOY x hx; omega))
      have hz41 := g41.size
      have W_41 := hide ((unhide W_40).wr g41 (fun e => by have := unhide LOY _ e; omega) (fun x hx e => by have := unhide LOY x e; have := unhide LOW x hx; omega))
      clear I40 g41 W_40 Y_40
      have ccY := (unhide Y_m).cell
      go_wp2_with fail
      refine (heldCoefsC w41 _ L 1 (unhide Y_m).own.rd hL (by omega) (by omega)).mono ?_
      rintro e w42 ⟨rfl, g42⟩
      clear ccY
      have I42 := hide ((unhide I41).new g42)
      have hz42 := g42.size
      have W_42 := hide ((unhide W_41).keep g42)
      have Y_42 := hide ((unhide Y_m).keep g42)
      clear I41 g42 W_41 Y_m
      go_wp2
      refine wp_region_noPanic ?_
      have gd := grown_drew (World.grownBy.refl w42 none)
      have I43 := hide ((unhide I42).new gd)
      have hz43 := gd.size
      have W_43 := hide ((unhide W_42).keep gd)
      have Y_43 := hide ((unhide Y_42).keep gd)
      clear I42 gd W_42 Y_42
      refine wp_region_float 20 9 _ (fun W => In3 w W #[.int .i64 p, .int .i64 wd, .int .i64 ht, .int .i64 rs, .slice ao n cap] (.slice xo m xc) #[.int .i64 co, .int .i64 ro, .int .i64 cl]) [.held, .chain, .held, .chain, .held, .chain, .held, .chain, .chain, .flt, .chain] (by kernel_rfl) (fun _ _ _ _ _ h => h) rfl (by decide) rfl (by rfl) (by kernel_rfl) (unhide I43) ?_
      generalize w42.drew = w43 at *
      refine heldX_take (v := ?_) (Or.inl ⟨by rfl, ?_⟩) ?_
      rotate_left 1
      · intro w' hSw
        try dsimp only at hSw
        have s1 := frameCells hSw.fb
        go_simp
        try with_reducible rfl
      simp only [Act.put, List.setIfInBounds_toArray, List.set_cons_zero, List.set_cons_succ]
      refine heldX_skip ?_
      refine heldX_take (v := ?_) (Or.inl ⟨by rfl, ?_⟩) ?_
      rotate_left 1
      · intro w' hSw
        try dsimp only at hSw
        have s1 := hSw.cell
        go_simp
        try with_reducible rfl
      simp only [Act.put, List.setIfInBounds_toArray, List.set_cons_zero, List.set_cons_succ]
      refine heldX_skip ?_
      refine heldX_take (v := ?_) (Or.inl ⟨by rfl, ?_⟩) ?_
      rotate_left 1
      · intro w' hSw
        try dsimp only at hSw
        have s1 := hSw.place
        go_simp
        try with_reducible rfl
      simp only [Act.put, List.setIfInBounds_toArray, List.set_cons_zero, List.set_cons_succ]
      refine heldX_skip ?_
      refine heldX_take (v := ?_) (Or.inl ⟨by rfl, ?_⟩) ?_
      rotate_left 1
      · intro w' hSw
        try dsimp only at hSw
        go_simp
        try with_reducible rfl
      simp only [Act.put, List.setIfInBounds_toArray, List.set_cons_zero, List.set_cons_succ]
      refine heldX_skip ?_
      refine heldX_skip ?_
      refine heldX_flt ?_
      refine heldX_skip ?_
      refine heldX_nil ?_
      have HT_43 := hide (Fb.start w43 (fun b => w43.heap.size ≤ b) undef)
      refine tailX_held ?_
      refine tailX_step 18 (Fb w43 (fun b => w43.heap.size ≤ b)) (unhide HT_43) (by rfl) (float_T (fun W g => ((unhide I43).new g)) (fun W g => by have := g.size; omega)) ?_
      intro d44 x44 w44 hT K hK
      have g44 := hT.1
      clear HT_43
      have HT_44 := hide hT
      clear hT
      have I44 := hide ((unhide I43).new g44)
      have hz44 := g44.size
      have W_44 := hide ((unhide W_43).keep g44)
      have Y_44 := hide ((unhide Y_43).keep g44)
      clear I43 g44 W_43 Y_43
      unfold runF
      simp only [Act.put, List.setIfInBounds_toArray, List.set_cons_zero, List.set_cons_succ]
      go_simp
      refine (toFrame p wd ht rs ao n cap C w44 ((unhide HR).grown (unhide I44).grown) hn).mono ?_
      rintro e w45 ⟨q45, rfl, o45, g45⟩
      have RF_0 := hide (own_rdC o45)
      clear o45
      have HT_45 : Hid (Fb w45 (fun b => w43.heap.size ≤ b) _ _ w45) := (unhide HT_44).next g45 (fun b hb _ => hb)
      clear HT_44
      have I45 := hide ((unhide I44).new g45)
      have hz45 := g45.size
      have W_45 := hide ((unhide W_44).keep g45)
      have Y_45 := hide ((unhide Y_44).keep g45)
      clear I44 g45 W_44 Y_44
      go_simp
      refine hK.out _ _ (unhide I45) ?_
      clear hK K
      refine tailX_held ?_
      refine tailX_step 18 (Fb w45 (fun b => w43.heap.size ≤ b)) (unhide HT_45) (by rfl) (float_T (fun W g => ((unhide I45).new g)) (fun W g => by have := g.size; omega)) ?_
      intro d46 x46 w46 hT K hK
      have g46 := hT.1
      clear HT_45
      have HT_46 := hide hT
      clear hT
      have I46 := hide ((unhide I45).new g46)
      have hz46 := g46.size
      have W_46 := hide ((unhide W_45).keep g46)
      have Y_46 := hide ((unhide Y_45).keep g46)
      have RF_46 := hide ((unhide RF_0).grown g46)
      clear I45 g46 W_45 Y_45 RF_0
      unfold runF
      simp only [Act.put, List.setIfInBounds_toArray, List.set_cons_zero, List.set_cons_succ]
      go_simp
      refine (toCoefsC w46 _ X ((unhide HX).st (unhide I46).grown).rd hs).mono ?_
      rintro e w47 ⟨u47, F47, rfl, o47, n47, l47, g47⟩
      obtain ⟨so47, sc47, rfl⟩ := Bc.form o47
      rw [unhide HM] at o47 ⊢
      have RX_0 : Hid (Rd3 w47 (.slice so47 m sc47) X) := by obtain ⟨v', e', r'⟩ := o47.rd; obtain rfl : Value.slice so47 m sc47 = v' := (by simpa using e'); exact r'
      clear o47 n47 l47
      have HT_47 : Hid (Fb w47 (fun b => w43.heap.size ≤ b) _ _ w47) := (unhide HT_46).next g47 (fun b hb _ => hb)
      clear HT_46
      have I47 := hide ((unhide I46).new g47)
      have hz47 := g47.size
      have W_47 := hide ((unhide W_46).keep g47)
      have Y_47 := hide ((unhide Y_46).keep g47)
      have RF_47 := hide ((unhide RF_46).grown g47)
      clear I46 g47 W_46 Y_46 RF_46
      go_simp
      refine hK.out _ _ (unhide I47) ?_
      clear hK K
      refine tailX_held ?_
      refine tailX_step 18 (Fb w47 (fun b => w43.heap.size ≤ b)) (unhide HT_47) (by rfl) (float_T (fun W g => ((unhide I47).new g)) (fun W g => by have := g.size; omega)) ?_
      intro d48 x48 w48 hT K hK
      have g48 := hT.1
      clear HT_47
      have HT_48 := hide hT
      clear hT
      have I48 := hide ((unhide I47).new g48)
      have hz48 := g48.size
      have W_48 := hide ((unhide W_47).keep g48)
      have Y_48 := hide ((unhide Y_47).keep g48)
      have RF_48 := hide ((unhide RF_47).grown g48)
      have RX_48 := hide (st3 _ _ _ _ (unhide RX_0) g48)
      clear I47 g48 W_47 Y_47 RF_47 RX_0
      unfold runF
      simp only [Act.put, List.setIfInBounds_toArray, List.set_cons_zero, List.set_cons_succ]
      go_simp
      refine (toPlace co ro cl w48).mono ?_
      rintro e w49 ⟨rfl, g49⟩
      have HT_49 : Hid (Fb w49 (fun b => w43.heap.size ≤ b) _ _ w49) := (unhide HT_48).next g49 (fun b hb _ => hb)
      clear HT_48
      have I49 := hide ((unhide I48).new g49)
      have hz49 := g49.size
      have W_49 := hide ((unhide W_48).keep g49)
      have Y_49 := hide ((unhide Y_48).keep g49)
      have RF_49 := hide ((unhide RF_48).grown g49)
      have RX_49 := hide (st3 _ _ _ _ (unhide RX_48) g49)
      clear I48 g49 W_48 Y_48 RF_48 RX_48
      go_simp
      refine hK.out _ _ (unhide I49) ?_
      clear hK K
      refine tailX_held ?_
      refine tailX_step 18 (Fb w49 (fun b => w43.heap.size ≤ b)) (unhide HT_49) (by rfl) (float_T (fun W g => ((unhide I49).new g)) (fun W g => by have := g.size; omega)) ?_
      intro d50 x50 w50 hT K hK
      have g50 := hT.1
      clear HT_49
      have HT_50 := hide hT
      clear hT
      have I50 := hide ((unhide I49).new g50)
      have hz50 := g50.size
      have W_50 := hide ((unhide W_49).keep g50)
      have Y_50 := hide ((unhide Y_49).keep g50)
      have RF_50 := hide ((unhide RF_49).grown g50)
      have RX_50 := hide (st3 _ _ _ _ (unhide RX_49) g50)
      clear I49 g50 W_49 Y_49 RF_49 RX_49
      unfold runF
      simp only [Act.put, List.setIfInBounds_toArray, List.set_cons_zero, List.set_cons_succ]
      go_simp
      refine (toIntSC w50 _ bl (RdI.st _ _ _ _ _ (unhide HBL) (unhide I50).grown) hbs).mono ?_
      rintro e w51 ⟨u51, F51, rfl, o51, n51, l51, g51⟩
      obtain ⟨so51, sc51, rfl⟩ := own_form o51.1
      rw [unhide HBN] at o51 ⊢
      have RB_0 : Hid (Rd .i64 w51 so51 bn bl) := by obtain ⟨a', c', e', r'⟩ := OwI.rd o51; rw [unhide HBN] at r' e'; obtain ⟨rfl, rfl⟩ : so51 = a' ∧ sc51 = c' := (by simpa using e'); exact r'
      clear o51 n51 l51
      have HT_51 : Hid (Fb w51 (fun b => w43.heap.size ≤ b) _ _ w51) := (unhide HT_50).next g51 (fun b hb _ => hb)
      clear HT_50
      have I51 := hide ((unhide I50).new g51)
      have hz51 := g51.size
      have W_51 := hide ((unhide W_50).keep g51)
      have Y_51 := hide ((unhide Y_50).keep g51)
      have RF_51 := hide ((unhide RF_50).grown g51)
      have RX_51 := hide (st3 _ _ _ _ (unhide RX_50) g51)
      clear I50 g51 W_50 Y_50 RF_50 RX_50
      go_simp
      refine hK.out _ _ (unhide I51) ?_
      clear hK K
      refine tailX_step 18 (Fb w51 (fun b => w43.heap.size ≤ b)) (unhide HT_51) (by rfl) (float_T (fun W g => ((unhide I51).new g)) (fun W g => by have := g.size; omega)) ?_
      intro d52 x52 w52 hT K hK
      have g52 := hT.1
      clear HT_51
      have HT_52 := hide hT
      clear hT
      have I52 := hide ((unhide I51).new g52)
      have hz52 := g52.size
      have W_52 := hide ((unhide W_51).keep g52)
      have Y_52 := hide ((unhide Y_51).keep g52)
      have RF_52 := hide ((unhide RF_51).grown g52)
      have RX_52 := hide (st3 _ _ _ _ (unhide RX_51) g52)
      have RB_52 := hide ((unhide RB_0).grown g52)
      clear I51 g52 W_51 Y_51 RF_51 RX_51 RB_0
      unfold runF
      simp only [Act.put, List.setIfInBounds_toArray, List.set_cons_zero, List.set_cons_succ]
      go_simp
      refine (unhide HI p wd ht rs _ n n C _ X co ro cl _ _ _ bl w52 (unhide RF_52) hn (unhide RX_52) hs (unhide RB_52) hbs2 fb HFB L HL).mono ?_
      rintro e w53 ⟨u53, F53, rfl, o53, nd53, l53, g53⟩
      obtain ⟨so53, sc53, rfl⟩ := Bc.form o53
      rw [unhide HLL] at o53 ⊢
      have LOH : Hid (∀ g ∈ F53, w52.heap.size ≤ g ∧ g < w53.heap.size) := fun g e => ⟨l53 g e, o53.lt g e⟩
      have NDH := hide nd53
      have OT := hide o53
      clear o53 nd53 l53
      have HT_53 : Hid (Fb w53 (fun b => w43.heap.size ≤ b ∧ b ∉ F53) _ _ w53) := (unhide HT_52).next g53 (fun b hb hlt => ⟨hb, fun e => by have := unhide LOH b e; omega⟩)
      clear HT_52
      clear RF_52
      clear RX_52
      clear RB_52
      have I53 := hide ((unhide I52).new g53)
      have hz53 := g53.size
      have W_53 := hide ((unhide W_52).keep g53)
      have Y_53 := hide ((unhide Y_52).keep g53)
      clear I52 g53 W_52 Y_52
      go_simp
      refine hK.out _ _ (unhide I53) ?_
      clear hK K
      refine tailX_last 18 (Fb w53 (fun b => w43.heap.size ≤ b ∧ b ∉ F53)) (unhide HT_53) (by rfl) (float_T (fun W g => ((unhide I53).new g)) (fun W g => ⟨by have := g.size; omega, fun e => by have := unhide LOH _ e; have := g.size; omega⟩)) ?_
      intro x54 w54 hT K hK
      have g54 := hT.1
      obtain ⟨bH, rfl, hbx, hNb⟩ := hT.2 rfl
      clear hT HT_53
      have I54 := hide ((unhide I53).new g54)
      have hz54 := g54.size
      have W_54 := hide ((unhide W_53).keep g54)
      have Y_54 := hide ((unhide Y_53).keep g54)
      have OT_54 := hide ((unhide OT).keep g54)
      clear I53 g54 W_53 Y_53 OT
      have cb : w54.cell? ⟨bH, 0, none⟩ = some (.slice none 0 0) := by rw [cell_of_row _ _ 0 _ _ (0, 0) hbx]; rfl
      have fz := frozen_of_row w54 bH 0 _ _ hbx
      have HBX := hide hbx
      have HNB := hide hNb
      clear hbx hNb
      unfold runF
      simp only [Act.put, List.setIfInBounds_toArray, List.set_cons_zero, List.set_cons_succ]
      go_simp
      refine hK.out _ _ ?_
      clear hK K cb fz
      refine NoPanic.normal ?_
      have H_0 := hide (Bc.put (unhide HBX) (unhide OT_54) (unhide HNB).2)
      clear OT_54
      have hbH : w43.heap.size ≤ bH ∧ bH < w54.heap.size := ⟨(unhide HNB).1, (Array.getElem?_eq_some_iff.1 (unhide HBX)).1⟩
      have NBH := hide (unhide HNB).2
      have g55 : Wr [bH] w54 (w54.setCell ⟨bH, 0, none⟩ (.slice so53 ll sc53)) := Wr.ofRow (grown_set _ _ _ _) (fun g e => by have e9 := Option.some.inj e; simp [e9])
      have LOB : Hid (∀ g ∈ [bH], w43.heap.size ≤ g ∧ g = bH) := fun g e => by simp at e; omega
      clear HBX HNB
      have I55 := hide ((unhide I54).wr g55 (fun x hx => by have := unhide LOB x hx; omega))
      have hz55 := g55.size
      have W_55 := hide ((unhide W_54).wr g55 (fun e => by have := unhide LOB _ e; omega) (fun x hx e => by have := unhide LOB x e; have := unhide LOW x hx; omega))
      have Y_55 := hide ((unhide Y_54).wr g55 (fun e => by have := unhide LOB _ e; omega) (fun x hx e => by have := unhide LOB x e; have := unhide LOY x hx; omega))
      clear I54 g55 W_54 Y_54
      clear LOB
      generalize (w54.setCell ⟨bH, 0, none⟩ (.slice so53 ll sc53)) = w55 at *
      have ccH := (unhide H_0).cell
      have ccW := (unhide W_55).cell
      go_wp2_with fail
      refine (eqCoefsC w55 _ _ L (unhide H_0).own.rd (unhide W_55).own.rd hL).mono ?_
      rintro e w56 ⟨rfl, g56⟩
      clear ccH ccW
      have I56 := hide ((unhide I55).new g56)
      have hz56 := g56.size
      have W_56 := hide ((unhide W_55).keep g56)
      have Y_56 := hide ((unhide Y_55).keep g56)
      have H_56 := hide ((unhide H_0).keep g56)
      clear I55 g56 W_55 Y_55 H_0
      have ccY := (unhide Y_56).cell
      go_wp2_with fail
      refine (heldCoefsC w56 _ L 1 (unhide Y_56).own.rd hL (by omega) (by omega)).mono ?_
      rintro e w57 ⟨rfl, g57⟩
      clear ccY
      have I57 := hide ((unhide I56).new g57)
      have hz57 := g57.size
      have W_57 := hide ((unhide W_56).keep g57)
      have Y_57 := hide ((unhide Y_56).keep g57)
      have H_57 := hide ((unhide H_56).keep g57)
      clear I56 g57 W_56 Y_56 H_56
      go_wp2
      go_ret
      exact ⟨rfl, grown_below (unhide I57).grown⟩
    · have hr2 : decide (r < 0) = true := decide_eq_true (by have := unhide HR2; rw [if_neg hsz] at this; omega)
      go_enter Try.func7, Try.ntmps7
      go_wp2_with fail
      generalize (((w.alloc (.cells #[.int .i64 p, .int .i64 wd, .int .i64 ht, .int .i64 rs, .slice ao n cap] 46)).alloc (.cells #[.slice xo m xc] 53)).alloc (.cells #[.int .i64 co, .int .i64 ro, .int .i64 cl] 57)) = wx at *
      refine (szFrame p wd ht rs ao n cap 1048576 _ wx (by omega) (by omega) (by omega) HSZ).mono ?_
      rintro e wy ⟨rfl, g1⟩
      have I1 := hide ((unhide I0).new g1)
      clear c0 ca g1 I0
      have c0 := (unhide I1).cell
      go_wp2_with fail
      refine (szCoefsC wy _ X lf ((unhide HX).st (unhide I1).grown) hl1 r HR2).mono ?_
      rintro e w2 ⟨rfl, g2⟩
      have I2 := hide ((unhide I1).new g2)
      clear c0 g2 I1
      go_wp2
      go_ret
      exact ⟨rfl, grown_below (unhide I2).grown⟩
  · have HSZ : Hid ((if (n : Int) ≤ 1048576 then 1048576 - (n : Int) else -1) = -1) := if_neg hbig
    go_enter Try.func7, Try.ntmps7
    go_wp2_with fail
    generalize (((w.alloc (.cells #[.int .i64 p, .int .i64 wd, .int .i64 ht, .int .i64 rs, .slice ao n cap] 46)).alloc (.cells #[.slice xo m xc] 53)).alloc (.cells #[.int .i64 co, .int .i64 ro, .int .i64 cl] 57)) = wx at *
    refine (szFrame p wd ht rs ao n cap 1048576 _ wx (by omega) (by omega) (by omega) HSZ).mono ?_
    rintro e w1 ⟨rfl, g1⟩
    have I1 := hide ((unhide I0).new g1)
    clear c0 ca g1 I0
    go_wp2
    go_ret
    exact ⟨rfl, grown_below (unhide I1).grown⟩

theorem lawWithBlockN (HI : Hid ImplWith) (p wd ht rs : Int) (ao : Option Addr) (n cap : Nat) (C : Nat → Nat → Int) (v : Value) (X : List (List (List Int))) (co ro cl : Int) (bo : Option Addr) (bn bc : Nat) (bl : List Int) (w : World) (hr : RdC w ao n C) (hm : n ≤ maxLen) (hx : RdCz w (.agg #[v]) X) (hbl : Rd .i64 w bo bn bl) :
    Calls Try.prog 7 #[.agg #[.int .i64 p, .int .i64 wd, .int .i64 ht, .int .i64 rs, .slice ao n cap], .agg #[v], .agg #[.int .i64 co, .int .i64 ro, .int .i64 cl], .slice bo bn bc] w fun e w' => e = .returned (.bool true) ∧ Below w.heap.size w w' := by
  obtain rfl := hbl.1
  exact lawWithBlock HI p wd ht rs ao n cap C v X co ro cl bo bc bl w hr hm hx hbl

end Go.Proofs.Ytibgldanmhckiaa
