/-
  A region that draws its order: some operations yield what they yield in every world that meets S, and all that change the world wait for them; some yield the same in every world; the others then come in the order of the text, and S need not hold behind them.
-/
import Derived.Test.YtcbaiagkdphkeaaHeldLast
namespace Go.Proofs.Ytcbaiagkdphkeaa
open Go.RowKit

/-- tail: comes in the order of the text behind the others; held: yields wherever S holds; free: yields in every world. -/
inductive Mk where
  | tail
  | held
  | free

section
variable {P : Program} {ops : Array Oper} {md : Region.Mode} {S : World → Prop} {Q : Exit → Act → World → Prop} {M : Nat → Bool}

/-- Whatever order is picked from here on; behind every operation that is not in M S holds. -/
def wpAnyM (P : Program) (md : Region.Mode) (ops : Array Oper) (Q : Exit → Act → World → Prop) (S : World → Prop) (M : Nat → Bool) : Nat → Array Bool → Act → World → Prop
  | 0, listed, a, w => Region.ready md ops listed = [] ∧ Q .normal a w
  | fuel + 1, listed, a, w => (Region.ready md ops listed = [] → Q .normal a w) ∧ ∀ i ∈ Region.ready md ops listed, wpOp P ops Q i (fun a' w' => (M i = true ∨ (S w → S w')) ∧ wpAnyM P md ops Q S M fuel (listed.setIfInBounds i true) a' w') a w
theorem wpAny_of_M : ∀ (fuel : Nat) (listed : Array Bool) (a : Act) (w : World), wpAnyM P md ops Q S M fuel listed a w → wpAny P md ops Q fuel listed a w
  | 0, _, _, _, h => h
  | fuel + 1, listed, _, _, h => ⟨h.1, fun i hi => wpOp_mono (fun a' w' h2 => wpAny_of_M fuel (listed.setIfInBounds i true) a' w' h2.2) (h.2 i hi)⟩

/-- An operation that yields the same wherever T holds may be taken first, if T holds wherever it may come. -/
theorem wpAnyM_first {T : World → Prop} {i : Nat} {oi : Oper} {v : Value} (hi : ops[i]? = some oi) (hsel : ∀ (j : Nat) (o : Oper) cs b, ops[j]? = some o → o.op ≠ .select cs b)
    (hQ : ∀ c a w, Q (.panic c) (a.put oi.dst v) w → Q (.panic c) a w) (hT : (∀ w, T w) ∨ ((∀ w, S w ↔ T w) ∧ ∃ f, ∀ j, M j = true → waits md ops (f + 1) j i = true)) :
    ∀ (fuel : Nat) (listed : Array Bool) (a : Act) (w : World), Cl md ops listed →
      (∀ j oj, ops[j]? = some oj → j ≠ i → listed.getD j true = false → (∀ e ∈ oj.after, Region.binds md e = true → e.on ≠ i) → oi.apart ops oj = true) →
      i ∈ Region.ready md ops listed → YieldsIf P ops T oi v a → T w →
      wpAnyM P md ops Q S M fuel (listed.setIfInBounds i true) (a.put oi.dst v) w → wpAnyM P md ops Q S M (fuel + 1) listed a w := by
  intro fuel
  induction fuel with
  | zero =>
    intro listed a w _ _ hr hy hS H
    refine ⟨fun h => (by rw [h] at hr; cases hr), fun j hj => ?_⟩
    by_cases hji : j = i
    · subst hji; exact hy.wpOp hi hS ⟨.inr id, H⟩
    · have := ready_mono hj hji
      rw [H.1] at this
      cases this
  | succ fuel ih =>
    intro listed a w hcl hfree hr hy hS H
    have hun := (mem_ready.1 hr).1
    refine ⟨fun h => (by rw [h] at hr; cases hr), fun j hj => ?_⟩
    by_cases hji : j = i
    · subst hji; exact hy.wpOp hi hS ⟨.inr id, H⟩
    · have h1 := H.2 j (ready_mono hj hji)
      obtain ⟨hjun, oj, hoj, hall⟩ := mem_ready.1 hj
      have hnot : ∀ e ∈ oj.after, Region.binds md e = true → e.on ≠ i := fun e he hb heq => by
        have h1 := hall e he hb
        rw [heq] at h1
        rcases Nat.lt_or_ge i listed.size with h' | h'
        · simp [h'] at h1 hun; rw [hun] at h1; cases h1
        · simp [Array.getElem?_eq_none h'] at h1
      have h2 := wpOp_putIf hoj (hfree j oj hoj hji hjun hnot) (fun cs b => hsel i oi cs b hi) (fun cs b => hsel j oj cs b hoj) hQ hy h1
      refine wpOp_mono (fun a' w' h3 => ?_) h2
      have hS' : T w' := by
        rcases hT with hT | ⟨hT, f, hwt⟩
        · exact hT w'
        · refine (hT w').1 (h3.2.1.resolve_left (fun hm => ?_) ((hT w).2 hS))
          have h1 := waits_ready hcl i f hj (hwt j hm)
          rcases Nat.lt_or_ge i listed.size with h' | h'
          · simp [h'] at h1 hun; rw [hun] at h1; cases h1
          · simp [Array.getElem?_eq_none h'] at h1
      refine ⟨h3.2.1, ih (listed.setIfInBounds j true) a' w' (hcl.set hj) (fun k ok hk hki hu hno => hfree k ok hk hki ?_ hno) (ready_mono hr (Ne.symm hji)) h3.1 hS' ?_⟩
      · by_cases hjk : j = k
        · subst hjk; exact hjun
        · rw [getD_set_ne true hjk] at hu; exact hu
      · rw [Array.setIfInBounds_comm _ _ hji]
        exact h3.2.2

def heldM (P : Program) (ops : Array Oper) (S : World → Prop) (L : Act → Prop) : List Oper → List Mk → Act → Prop
  | o :: rest, .held :: ms, a => ∃ v, YieldsIf P ops S o v a ∧ heldM P ops S L rest ms (a.put o.dst v)
  | o :: rest, .free :: ms, a => ∃ v, YieldsIf P ops (fun _ => True) o v a ∧ heldM P ops S L rest ms (a.put o.dst v)
  | _ :: rest, .tail :: ms, a => heldM P ops S L rest ms a
  | _, _, a => L a
theorem heldM_take {L : Act → Prop} {o : Oper} {rest : List Oper} {ms : List Mk} {a : Act} {v : Value} (hy : YieldsIf P ops S o v a) (h : heldM P ops S L rest ms (a.put o.dst v)) : heldM P ops S L (o :: rest) (.held :: ms) a := ⟨v, hy, h⟩
theorem heldM_free {L : Act → Prop} {o : Oper} {rest : List Oper} {ms : List Mk} {a : Act} {v : Value} (hy : YieldsIf P ops (fun _ => True) o v a) (h : heldM P ops S L rest ms (a.put o.dst v)) : heldM P ops S L (o :: rest) (.free :: ms) a := ⟨v, hy, h⟩
theorem heldM_skip {L : Act → Prop} {o : Oper} {rest : List Oper} {ms : List Mk} {a : Act} (h : heldM P ops S L rest ms a) : heldM P ops S L (o :: rest) (.tail :: ms) a := h
theorem heldM_nil {L : Act → Prop} {a : Act} (h : L a) : heldM P ops S L [] [] a := h

def tailM (P : Program) (ops : Array Oper) (Q : Exit → Act → World → Prop) : List Oper → List Mk → Act → World → Prop
  | o :: rest, .tail :: ms, a, w => ∀ K' : Act → World → Prop, Shut (∀ a w, tailM P ops Q rest ms a w → K' a w) → if Region.wanted o (yielded ops a.tmps) = true then Oper.wp P o a w K' Q else K' (a.put o.dst undef) w
  | _ :: rest, .held :: ms, a, w => tailM P ops Q rest ms a w
  | _ :: rest, .free :: ms, a, w => tailM P ops Q rest ms a w
  | _, _, a, w => Q .normal a w
theorem tailM_step {o : Oper} {rest : List Oper} {ms : List Mk} {a : Act} {w : World} (h : ∀ K' : Act → World → Prop, Shut (∀ a w, tailM P ops Q rest ms a w → K' a w) → if Region.wanted o (yielded ops a.tmps) = true then Oper.wp P o a w K' Q else K' (a.put o.dst undef) w) :
    tailM P ops Q (o :: rest) (.tail :: ms) a w := h
theorem tailM_skip1 {o : Oper} {rest : List Oper} {ms : List Mk} {a : Act} {w : World} (h : tailM P ops Q rest ms a w) : tailM P ops Q (o :: rest) (.held :: ms) a w := h
theorem tailM_skip2 {o : Oper} {rest : List Oper} {ms : List Mk} {a : Act} {w : World} (h : tailM P ops Q rest ms a w) : tailM P ops Q (o :: rest) (.free :: ms) a w := h
theorem tailM_nil {a : Act} {w : World} (h : Q .normal a w) : tailM P ops Q [] [] a w := h

def leftM : List Mk → Nat
  | [] => 0
  | .tail :: ms => leftM ms + 1
  | .held :: ms => leftM ms
  | .free :: ms => leftM ms
def takenM : List Mk → Nat
  | [] => 0
  | .tail :: ms => takenM ms
  | .held :: ms => takenM ms + 1
  | .free :: ms => takenM ms + 1
def lexTailM (md : Region.Mode) (ops : Array Oper) : List Mk → Nat → Array Bool → Bool
  | [], _, listed => (Region.ready md ops listed).isEmpty
  | .tail :: ms, k, listed => (Region.ready md ops listed == [k]) && lexTailM md ops ms (k + 1) (listed.setIfInBounds k true)
  | .held :: ms, k, listed => lexTailM md ops ms (k + 1) listed
  | .free :: ms, k, listed => lexTailM md ops ms (k + 1) listed
def inM (all : List Mk) (j : Nat) : Bool := match all.getD j .held with | .tail => true | _ => false
def lexM (md : Region.Mode) (ops : Array Oper) (f : Nat) (all : List Mk) : List Mk → Nat → Array Bool → Bool
  | [], _, listed => lexTailM md ops all 0 listed
  | .tail :: ms, k, listed => lexM md ops f all ms (k + 1) listed
  | .held :: ms, k, listed => (Region.ready md ops listed).contains k && Region.free md ops listed k && ((List.range all.length).all fun j => !inM all j || waits md ops (f + 1) j k) && lexM md ops f all ms (k + 1) (listed.setIfInBounds k true)
  | .free :: ms, k, listed => (Region.ready md ops listed).contains k && Region.free md ops listed k && lexM md ops f all ms (k + 1) (listed.setIfInBounds k true)

theorem anyM_tail : ∀ (l : List Oper) (ms : List Mk) (k : Nat) (listed : Array Bool) (a : Act) (w : World), l.length = ms.length → (∀ j, j < l.length → l[j]? = ops[k + j]?) → (∀ j, ms[j]? = some .tail → M (k + j) = true) →
    lexTailM md ops ms k listed = true → tailM P ops Q l ms a w → wpAnyM P md ops Q S M (leftM ms) listed a w
  | [], [], _, listed, a, w, _, _, _, hB, h => ⟨by simpa [lexTailM] using hB, h⟩
  | [], _ :: _, _, _, _, _, hl, _, _, _, _ => by simp at hl
  | _ :: _, [], _, _, _, _, hl, _, _, _, _ => by simp at hl
  | o :: l, .held :: ms, k, listed, a, w, hl, ha, hM, hB, h =>
    anyM_tail l ms (k + 1) listed a w (by simpa using hl) (fun j hj => by have := ha (j + 1) (by simpa using hj); simpa [Nat.add_assoc, Nat.add_comm 1 j] using this) (fun j hj => by have := hM (j + 1) (by simpa using hj); simpa [Nat.add_assoc, Nat.add_comm 1 j] using this) hB h
  | o :: l, .free :: ms, k, listed, a, w, hl, ha, hM, hB, h =>
    anyM_tail l ms (k + 1) listed a w (by simpa using hl) (fun j hj => by have := ha (j + 1) (by simpa using hj); simpa [Nat.add_assoc, Nat.add_comm 1 j] using this) (fun j hj => by have := hM (j + 1) (by simpa using hj); simpa [Nat.add_assoc, Nat.add_comm 1 j] using this) hB h
  | o :: l, .tail :: ms, k, listed, a, w, hl, ha, hM, hB, h => by
    have h0 : ops[k]? = some o := by have := ha 0 (by simp); simpa using this.symm
    simp only [lexTailM, Bool.and_eq_true, beq_iff_eq] at hB
    refine ⟨fun h1 => by rw [hB.1] at h1; simp at h1, fun i hi => ?_⟩
    rw [hB.1, List.mem_singleton] at hi
    subst hi
    refine wpOp_step h0 (fun K' hK => h K' (fun a' w' ht => hK a' w' ⟨.inl (by have := hM 0 rfl; simpa using this), ?_⟩))
    exact anyM_tail l ms (i + 1) _ a' w' (by simpa using hl) (fun j hj => by have := ha (j + 1) (by simpa using hj); simpa [Nat.add_assoc, Nat.add_comm 1 j] using this) (fun j hj => by have := hM (j + 1) (by simpa using hj); simpa [Nat.add_assoc, Nat.add_comm 1 j] using this) hB.2 ht

theorem anyM_held {f : Nat} {l0 : List Oper} {all : List Mk} (hs : Region.noSelect ops = true) (hQ : ∀ c a d v w, Q (.panic c) (Act.put a d v) w → Q (.panic c) a w) (hl0 : l0.length = all.length) (ha0 : ∀ j, j < l0.length → l0[j]? = ops[0 + j]?) :
    ∀ (l : List Oper) (ms : List Mk) (k : Nat) (listed : Array Bool) (a : Act) (w : World), l.length = ms.length → (∀ j, j < l.length → l[j]? = ops[k + j]?) → Cl md ops listed →
    lexM md ops f all ms k listed = true → S w → heldM P ops S (fun a' => tailM P ops Q l0 all a' w) l ms a → wpAnyM P md ops Q S (inM all) (takenM ms + leftM all) listed a w
  | [], [], _, listed, a, w, _, _, _, hB, _, h => by
    simp only [takenM, Nat.zero_add]
    exact anyM_tail l0 all 0 listed a w hl0 ha0 (fun j hj => by simp [inM, hj]) hB h
  | [], _ :: _, _, _, _, _, hl, _, _, _, _, _ => by simp at hl
  | _ :: _, [], _, _, _, _, hl, _, _, _, _, _ => by simp at hl
  | o :: l, .tail :: ms, k, listed, a, w, hl, ha, hcl, hB, hS, h =>
    anyM_held hs hQ hl0 ha0 l ms (k + 1) listed a w (by simpa using hl) (fun j hj => by have := ha (j + 1) (by simpa using hj); simpa [Nat.add_assoc, Nat.add_comm 1 j] using this) hcl hB hS h
  | o :: l, .held :: ms, k, listed, a, w, hl, ha, hcl, hB, hS, h => by
    have h0 : ops[k]? = some o := by have := ha 0 (by simp); simpa using this.symm
    simp only [lexM, Bool.and_eq_true] at hB
    obtain ⟨⟨⟨hr, hf⟩, hw⟩, hB'⟩ := hB
    obtain ⟨v, hy, hK⟩ := h
    have hrm : k ∈ Region.ready md ops listed := by simpa using hr
    have e : takenM (.held :: ms) + leftM all = (takenM ms + leftM all) + 1 := by simp only [takenM]; omega
    rw [e]
    refine wpAnyM_first (T := S) h0 (Region.noSelect_spec hs) (fun c a' w' hq => hQ c a' _ _ w' hq) (.inr ⟨fun _ => Iff.rfl, f, fun j hj => ?_⟩) _ listed a w hcl (Region.free_spec h0 hf) hrm hy hS
      (anyM_held hs hQ hl0 ha0 l ms (k + 1) _ _ w (by simpa using hl) (fun j hj => by have := ha (j + 1) (by simpa using hj); simpa [Nat.add_assoc, Nat.add_comm 1 j] using this) (hcl.set hrm) hB' hS hK)
    have hjl : j < all.length := by
      unfold inM at hj
      rcases Nat.lt_or_ge j all.length with h | h
      · exact h
      · rw [List.getD_eq_getElem?_getD, List.getElem?_eq_none h] at hj; simp at hj
    have := List.all_eq_true.1 hw j (List.mem_range.2 hjl)
    rw [hj] at this
    simpa using this
  | o :: l, .free :: ms, k, listed, a, w, hl, ha, hcl, hB, hS, h => by
    have h0 : ops[k]? = some o := by have := ha 0 (by simp); simpa using this.symm
    simp only [lexM, Bool.and_eq_true] at hB
    obtain ⟨⟨hr, hf⟩, hB'⟩ := hB
    obtain ⟨v, hy, hK⟩ := h
    have hrm : k ∈ Region.ready md ops listed := by simpa using hr
    have e : takenM (.free :: ms) + leftM all = (takenM ms + leftM all) + 1 := by simp only [takenM]; omega
    rw [e]
    have H := anyM_held hs hQ hl0 ha0 l ms (k + 1) _ _ w (by simpa using hl) (fun j hj => by have := ha (j + 1) (by simpa using hj); simpa [Nat.add_assoc, Nat.add_comm 1 j] using this) (hcl.set hrm) hB' hS hK
    exact wpAnyM_first (T := fun _ => True) h0 (Region.noSelect_spec hs) (fun c a' w' hq => hQ c a' _ _ w' hq) (.inl fun _ => trivial) _ listed a w hcl (Region.free_spec h0 hf) hrm hy trivial H
theorem count_M : ∀ ms : List Mk, takenM ms + leftM ms = ms.length
  | [] => rfl
  | .tail :: ms => by have := count_M ms; simp only [takenM, leftM, List.length_cons]; omega
  | .held :: ms => by have := count_M ms; simp only [takenM, leftM, List.length_cons]; omega
  | .free :: ms => by have := count_M ms; simp only [takenM, leftM, List.length_cons]; omega
end

/-- A region whose operations are written out, and which of them are taken first. -/
theorem wp_region_more {P : Program} {id : Nat} {Q : Exit → Act → World → Prop} {a : Act} {w : World} {l : List Oper} (f : Nat) (S : World → Prop) (ms : List Mk) (hm : P.follows .mixedOrders = true) (hQ : ∀ c a d v w, Q (.panic c) (Act.put a d v) w → Q (.panic c) a w)
    (hl : l.length = ms.length) (hB : (Region.noSelect l.toArray && lexM .any l.toArray f ms ms 0 (Array.replicate l.length false)) = true)
    (hS : S w.drew) (h : heldM P l.toArray S (fun a' => tailM P l.toArray Q l ms a' w.drew) l ms a) : (Code.region id l.toArray true).wp P Q a w := by
  rw [Bool.and_eq_true] at hB
  refine wp_region_any hm (wpAny_of_M (S := S) (M := inM ms) _ _ _ _ ?_)
  have := anyM_held (P := P) (ops := l.toArray) (md := .any) (S := S) (Q := Q) (f := f) (l0 := l) (all := ms) hB.1 hQ hl (fun j hj => by simp) l ms 0 (Array.replicate l.length false) a w.drew hl (fun j hj => by simp) (Cl.none _) hB.2 hS h
  rw [count_M ms, ← hl] at this
  simpa using this

end Go.Proofs.Ytcbaiagkdphkeaa
