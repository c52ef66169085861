/-
  A region that draws its order, in which some operations yield what they yield in every world that meets S, the others come one behind the other, and the last one waits for them all: behind it S need not hold.
-/
import Derived.Test.YtgknninkfdgebaaHeldTail
import Derived.Test.YtgknninkfdgebaaQuietLast
namespace Go.Proofs.Ytgknninkfdgebaa
open Go.RowKit

section
variable {P : Program} {ops : Array Oper} {md : Region.Mode} {S : World → Prop} {Q : Exit → Act → World → Prop} {m : Nat}

/-- Whatever order is picked from here on; behind every operation but number m S holds. -/
def wpAnyT (P : Program) (md : Region.Mode) (ops : Array Oper) (Q : Exit → Act → World → Prop) (S : World → Prop) (m : Nat) : Nat → Array Bool → Act → World → Prop
  | 0, listed, a, w => Region.ready md ops listed = [] ∧ Q .normal a w
  | fuel + 1, listed, a, w => (Region.ready md ops listed = [] → Q .normal a w) ∧ ∀ i ∈ Region.ready md ops listed, wpOp P ops Q i (fun a' w' => (i = m ∨ S w') ∧ wpAnyT P md ops Q S m fuel (listed.setIfInBounds i true) a' w') a w
theorem wpAny_of_T : ∀ (fuel : Nat) (listed : Array Bool) (a : Act) (w : World), wpAnyT P md ops Q S m fuel listed a w → wpAny P md ops Q fuel listed a w
  | 0, _, _, _, h => h
  | fuel + 1, listed, _, _, h => ⟨h.1, fun i hi => wpOp_mono (fun a' w' h2 => wpAny_of_T fuel (listed.setIfInBounds i true) a' w' h2.2) (h.2 i hi)⟩

/-- An operation that yields the same wherever S holds, and for which m waits, may be taken first. -/
theorem wpAnyT_first {i f : Nat} {oi : Oper} {v : Value} (hi : ops[i]? = some oi) (him : i ≠ m) (hwt : waits md ops (f + 1) m i = true) (hsel : ∀ (j : Nat) (o : Oper) cs b, ops[j]? = some o → o.op ≠ .select cs b)
    (hQ : ∀ c a w, Q (.panic c) (a.put oi.dst v) w → Q (.panic c) a w) :
    ∀ (fuel : Nat) (listed : Array Bool) (a : Act) (w : World), Cl md ops listed →
      (∀ j oj, ops[j]? = some oj → j ≠ i → listed.getD j true = false → (∀ e ∈ oj.after, Region.binds md e = true → e.on ≠ i) → oi.apart ops oj = true) →
      i ∈ Region.ready md ops listed → YieldsIf P ops S oi v a → S w →
      wpAnyT P md ops Q S m fuel (listed.setIfInBounds i true) (a.put oi.dst v) w → wpAnyT P md ops Q S m (fuel + 1) listed a w := by
  intro fuel
  induction fuel with
  | zero =>
    intro listed a w _ _ hr hy hS H
    refine ⟨fun h => (by rw [h] at hr; cases hr), fun j hj => ?_⟩
    by_cases hji : j = i
    · subst hji; exact hy.wpOp hi hS ⟨.inr hS, H⟩
    · have := ready_mono hj hji
      rw [H.1] at this
      cases this
  | succ fuel ih =>
    intro listed a w hcl hfree hr hy hS H
    have hun := (mem_ready.1 hr).1
    refine ⟨fun h => (by rw [h] at hr; cases hr), fun j hj => ?_⟩
    by_cases hji : j = i
    · subst hji; exact hy.wpOp hi hS ⟨.inr hS, H⟩
    · have hjm : j ≠ m := by
        intro e
        subst e
        have h1 := waits_ready hcl i f hj hwt
        rcases Nat.lt_or_ge i listed.size with h' | h'
        · simp [h'] at h1 hun; rw [hun] at h1; cases h1
        · simp [Array.getElem?_eq_none h'] at h1
      have h1 := H.2 j (ready_mono hj hji)
      obtain ⟨hjun, oj, hoj, hall⟩ := mem_ready.1 hj
      have hnot : ∀ e ∈ oj.after, Region.binds md e = true → e.on ≠ i := fun e he hb heq => by
        have h1 := hall e he hb
        rw [heq] at h1
        rcases Nat.lt_or_ge i listed.size with h' | h'
        · simp [h'] at h1 hun; rw [hun] at h1; cases h1
        · simp [Array.getElem?_eq_none h'] at h1
      have h2 := wpOp_putIf hoj (hfree j oj hoj hji hjun hnot) (fun cs b => hsel i oi cs b hi) (fun cs b => hsel j oj cs b hoj) hQ hy h1
      refine wpOp_mono (fun a' w' h3 => ?_) h2
      have hS' : S w' := h3.2.1.resolve_left hjm
      refine ⟨.inr hS', ih (listed.setIfInBounds j true) a' w' (hcl.set hj) (fun k ok hk hki hu hno => hfree k ok hk hki ?_ hno) (ready_mono hr (Ne.symm hji)) h3.1 hS' ?_⟩
      · by_cases hjk : j = k
        · subst hjk; exact hjun
        · rw [getD_set_ne true hjk] at hu; exact hu
      · rw [Array.setIfInBounds_comm _ _ hji]
        exact h3.2.2

/-- Those that are not marked, in the order of the text; behind each but the last S. -/
def tailL (P : Program) (ops : Array Oper) (Q : Exit → Act → World → Prop) (S : World → Prop) : List Oper → List Bool → Act → World → Prop
  | o :: rest, false :: ms, a, w => ∀ K' : Act → World → Prop, Shut (∀ a w, (ms = [] ∨ S w) → tailL P ops Q S rest ms a w → K' a w) → if Region.wanted o (yielded ops a.tmps) = true then Oper.wp P o a w K' Q else K' (a.put o.dst undef) w
  | _ :: rest, true :: ms, a, w => tailL P ops Q S rest ms a w
  | _, _, a, w => Q .normal a w
theorem tailL_step {o : Oper} {rest : List Oper} {ms : List Bool} {a : Act} {w : World} (h : ∀ K' : Act → World → Prop, Shut (∀ a w, (ms = [] ∨ S w) → tailL P ops Q S rest ms a w → K' a w) → if Region.wanted o (yielded ops a.tmps) = true then Oper.wp P o a w K' Q else K' (a.put o.dst undef) w) :
    tailL P ops Q S (o :: rest) (false :: ms) a w := h
theorem tailL_skip {o : Oper} {rest : List Oper} {ms : List Bool} {a : Act} {w : World} (h : tailL P ops Q S rest ms a w) : tailL P ops Q S (o :: rest) (true :: ms) a w := h
theorem tailL_nil {a : Act} {w : World} (h : Q .normal a w) : tailL P ops Q S [] [] a w := h

theorem anyT_tail : ∀ (l : List Oper) (ms : List Bool) (k : Nat) (listed : Array Bool) (a : Act) (w : World), l.length = ms.length → (∀ j, j < l.length → l[j]? = ops[k + j]?) → k + l.length = m + 1 →
    lexTail md ops ms k listed = true → tailL P ops Q S l ms a w → wpAnyT P md ops Q S m (leftF ms) listed a w
  | [], [], _, listed, a, w, _, _, _, hB, h => ⟨by simpa [lexTail] using hB, h⟩
  | [], _ :: _, _, _, _, _, hl, _, _, _, _ => by simp at hl
  | _ :: _, [], _, _, _, _, hl, _, _, _, _ => by simp at hl
  | o :: l, true :: ms, k, listed, a, w, hl, ha, hm, hB, h =>
    anyT_tail l ms (k + 1) listed a w (by simpa using hl) (fun j hj => by have := ha (j + 1) (by simpa using hj); simpa [Nat.add_assoc, Nat.add_comm 1 j] using this) (by simp at hm; omega) hB h
  | o :: l, false :: ms, k, listed, a, w, hl, ha, hm, hB, h => by
    have h0 : ops[k]? = some o := by have := ha 0 (by simp); simpa using this.symm
    simp only [lexTail, Bool.and_eq_true, beq_iff_eq] at hB
    refine ⟨fun h1 => by rw [hB.1] at h1; simp at h1, fun i hi => ?_⟩
    rw [hB.1, List.mem_singleton] at hi
    subst hi
    refine wpOp_step h0 (fun K' hK => h K' (fun a' w' hS ht => hK a' w' ⟨?_, ?_⟩))
    · rcases hS with rfl | hS
      · have : l.length = 0 := by simpa using hl
        simp at hm
        exact .inl (by omega)
      · exact .inr hS
    · exact anyT_tail l ms (i + 1) _ a' w' (by simpa using hl) (fun j hj => by have := ha (j + 1) (by simpa using hj); simpa [Nat.add_assoc, Nat.add_comm 1 j] using this) (by simp at hm; omega) hB.2 ht

def lexLast (md : Region.Mode) (ops : Array Oper) (m f : Nat) (all : List Bool) : List Bool → Nat → Array Bool → Bool
  | [], _, listed => lexTail md ops all 0 listed
  | true :: ms, k, listed => (Region.ready md ops listed).contains k && Region.free md ops listed k && (k != m) && waits md ops (f + 1) m k && lexLast md ops m f all ms (k + 1) (listed.setIfInBounds k true)
  | false :: ms, k, listed => lexLast md ops m f all ms (k + 1) listed
theorem anyT_held {f : Nat} {l0 : List Oper} {all : List Bool} (hs : Region.noSelect ops = true) (hQ : ∀ c a d v w, Q (.panic c) (Act.put a d v) w → Q (.panic c) a w) (hl0 : l0.length = all.length) (ha0 : ∀ j, j < l0.length → l0[j]? = ops[0 + j]?) (hm : l0.length = m + 1) :
    ∀ (l : List Oper) (ms : List Bool) (k : Nat) (listed : Array Bool) (a : Act) (w : World), l.length = ms.length → (∀ j, j < l.length → l[j]? = ops[k + j]?) → Cl md ops listed →
    lexLast md ops m f all ms k listed = true → S w → heldF P ops S (fun a' => tailL P ops Q S l0 all a' w) l ms a → wpAnyT P md ops Q S m (takenF ms + leftF all) listed a w
  | [], [], _, listed, a, w, _, _, _, hB, _, h => by
    simp only [takenF, Nat.zero_add]
    exact anyT_tail l0 all 0 listed a w hl0 ha0 (by omega) hB h
  | [], _ :: _, _, _, _, _, hl, _, _, _, _, _ => by simp at hl
  | _ :: _, [], _, _, _, _, hl, _, _, _, _, _ => by simp at hl
  | o :: l, true :: ms, k, listed, a, w, hl, ha, hcl, hB, hS, h => by
    have h0 : ops[k]? = some o := by have := ha 0 (by simp); simpa using this.symm
    simp only [lexLast, Bool.and_eq_true, bne_iff_ne] at hB
    obtain ⟨⟨⟨⟨hr, hf⟩, hne⟩, hw⟩, hB'⟩ := hB
    obtain ⟨v, hy, hK⟩ := h
    have hrm : k ∈ Region.ready md ops listed := by simpa using hr
    have e : takenF (true :: ms) + leftF all = (takenF ms + leftF all) + 1 := by simp only [takenF]; omega
    rw [e]
    exact wpAnyT_first h0 hne hw (Region.noSelect_spec hs) (fun c a' w' hq => hQ c a' _ _ w' hq) _ listed a w hcl (Region.free_spec h0 hf) hrm hy hS
      (anyT_held hs hQ hl0 ha0 hm l ms (k + 1) _ _ w (by simpa using hl) (fun j hj => by have := ha (j + 1) (by simpa using hj); simpa [Nat.add_assoc, Nat.add_comm 1 j] using this) (hcl.set hrm) hB' hS hK)
  | o :: l, false :: ms, k, listed, a, w, hl, ha, hcl, hB, hS, h =>
    anyT_held hs hQ hl0 ha0 hm l ms (k + 1) listed a w (by simpa using hl) (fun j hj => by have := ha (j + 1) (by simpa using hj); simpa [Nat.add_assoc, Nat.add_comm 1 j] using this) hcl hB hS h
end

/-- A region whose operations are written out, and which of them are taken first; the last one waits for all. -/
theorem wp_region_tailL {P : Program} {id : Nat} {Q : Exit → Act → World → Prop} {a : Act} {w : World} {l : List Oper} (f : Nat) (S : World → Prop) (ms : List Bool) (hm : P.follows .mixedOrders = true) (hQ : ∀ c a d v w, Q (.panic c) (Act.put a d v) w → Q (.panic c) a w)
    (hl : l.length = ms.length) (hpos : 0 < l.length) (hB : (Region.noSelect l.toArray && lexLast .any l.toArray (l.length - 1) f ms ms 0 (Array.replicate l.length false)) = true)
    (hS : S w.drew) (h : heldF P l.toArray S (fun a' => tailL P l.toArray Q S l ms a' w.drew) l ms a) : (Code.region id l.toArray true).wp P Q a w := by
  rw [Bool.and_eq_true] at hB
  refine wp_region_any hm (wpAny_of_T (S := S) (m := l.length - 1) _ _ _ _ ?_)
  have := anyT_held (P := P) (ops := l.toArray) (md := .any) (S := S) (Q := Q) (m := l.length - 1) (f := f) (l0 := l) (all := ms) hB.1 hQ hl (fun j hj => by simp) (by omega) l ms 0 (Array.replicate l.length false) a w.drew hl (fun j hj => by simp) (Cl.none _) hB.2 hS h
  rw [count_all ms, ← hl] at this
  simpa using this

end Go.Proofs.Ytgknninkfdgebaa
