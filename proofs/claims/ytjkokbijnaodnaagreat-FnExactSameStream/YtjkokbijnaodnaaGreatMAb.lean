/-
  HeldTail, QuietLast, HeldLast, IntSSD, IntSSSD, IntRows, DeepI0, DeepR2, DeepI2, DeepI, CoefFns, TreeOpen0, TreeOpen, TreeG, ScanRows.
-/
import Derived.OrdersHeld
import Derived.Deep.RegionHeld
import Derived.Deep.Quiet
import Derived.BigQuiet
import Derived.Deep.QuietTactic
import Derived.Deep.RegionHeld3
import Derived.Test.YtjkokbijnaodnaaGreatRows
import Derived.OpenShut
import Derived.Deep.SlicePairs
import Derived.Deep.Slices
import Derived.Test.YtjkokbijnaodnaaGreatMAa

namespace Go.Proofs.YtjkokbijnaodnaaGreat
open Go.RowKit

section
variable {P : Program} {ops : Array Oper} {md : Region.Mode} {S : World → Prop} {Q : Exit → Act → World → Prop}

/-- Those that are marked, in the order of the text, each with what it yields; then L. -/
def heldF (P : Program) (ops : Array Oper) (S : World → Prop) (L : Act → Prop) : List Oper → List Bool → Act → Prop
  | o :: rest, true :: ms, a => ∃ v, YieldsIf P ops S o v a ∧ heldF P ops S L rest ms (a.put o.dst v)
  | _ :: rest, false :: ms, a => heldF P ops S L rest ms a
  | _, _, a => L a
theorem heldF_take {L : Act → Prop} {o : Oper} {rest : List Oper} {ms : List Bool} {a : Act} {v : Value} (hy : YieldsIf P ops S o v a) (h : heldF P ops S L rest ms (a.put o.dst v)) : heldF P ops S L (o :: rest) (true :: ms) a := ⟨v, hy, h⟩
theorem heldF_skip {L : Act → Prop} {o : Oper} {rest : List Oper} {ms : List Bool} {a : Act} (h : heldF P ops S L rest ms a) : heldF P ops S L (o :: rest) (false :: ms) a := h
theorem heldF_nil {L : Act → Prop} {a : Act} (h : L a) : heldF P ops S L [] [] a := h

/-- Those that are not marked, in the order of the text; behind each S. -/
def tailF (P : Program) (ops : Array Oper) (Q : Exit → Act → World → Prop) (S : World → Prop) : List Oper → List Bool → Act → World → Prop
  | o :: rest, false :: ms, a, w => ∀ K' : Act → World → Prop, Shut (∀ a w, S w → tailF P ops Q S rest ms a w → K' a w) → if Region.wanted o (yielded ops a.tmps) = true then Oper.wp P o a w K' Q else K' (a.put o.dst undef) w
  | _ :: rest, true :: ms, a, w => tailF P ops Q S rest ms a w
  | _, _, a, w => Q .normal a w
theorem tailF_step {o : Oper} {rest : List Oper} {ms : List Bool} {a : Act} {w : World} (h : ∀ K' : Act → World → Prop, Shut (∀ a w, S w → tailF P ops Q S rest ms a w → K' a w) → if Region.wanted o (yielded ops a.tmps) = true then Oper.wp P o a w K' Q else K' (a.put o.dst undef) w) :
    tailF P ops Q S (o :: rest) (false :: ms) a w := h
theorem tailF_skip {o : Oper} {rest : List Oper} {ms : List Bool} {a : Act} {w : World} (h : tailF P ops Q S rest ms a w) : tailF P ops Q S (o :: rest) (true :: ms) a w := h
theorem tailF_nil {a : Act} {w : World} (h : Q .normal a w) : tailF P ops Q S [] [] a w := h

/-- How many are not marked. -/
def leftF : List Bool → Nat
  | [] => 0
  | true :: ms => leftF ms
  | false :: ms => leftF ms + 1
def takenF : List Bool → Nat
  | [] => 0
  | true :: ms => takenF ms + 1
  | false :: ms => takenF ms
def lexTail (md : Region.Mode) (ops : Array Oper) : List Bool → Nat → Array Bool → Bool
  | [], _, listed => (Region.ready md ops listed).isEmpty
  | true :: ms, k, listed => lexTail md ops ms (k + 1) listed
  | false :: ms, k, listed => (Region.ready md ops listed == [k]) && lexTail md ops ms (k + 1) (listed.setIfInBounds k true)
def lexHeld (md : Region.Mode) (ops : Array Oper) (all : List Bool) : List Bool → Nat → Array Bool → Bool
  | [], _, listed => lexTail md ops all 0 listed
  | true :: ms, k, listed => (Region.ready md ops listed).contains k && Region.free md ops listed k && lexHeld md ops all ms (k + 1) (listed.setIfInBounds k true)
  | false :: ms, k, listed => lexHeld md ops all ms (k + 1) listed

theorem anyH_tail : ∀ (l : List Oper) (ms : List Bool) (k : Nat) (listed : Array Bool) (a : Act) (w : World), l.length = ms.length → (∀ j, j < l.length → l[j]? = ops[k + j]?) →
    lexTail md ops ms k listed = true → tailF P ops Q S l ms a w → wpAnyH P md ops Q S (leftF ms) listed a w
  | [], [], _, listed, a, w, _, _, hB, h => wpAnyH_done (by simpa [lexTail] using hB) h _
  | [], _ :: _, _, _, _, _, hl, _, _, _ => by simp at hl
  | _ :: _, [], _, _, _, _, hl, _, _, _ => by simp at hl
  | o :: l, true :: ms, k, listed, a, w, hl, ha, hB, h =>
    anyH_tail l ms (k + 1) listed a w (by simpa using hl) (fun j hj => by have := ha (j + 1) (by simpa using hj); simpa [Nat.add_assoc, Nat.add_comm 1 j] using this) hB h
  | o :: l, false :: ms, k, listed, a, w, hl, ha, hB, h => by
    have h0 : ops[k]? = some o := by have := ha 0 (by simp); simpa using this.symm
    simp only [lexTail, Bool.and_eq_true, beq_iff_eq] at hB
    refine wpAnyH_all (rs := [k]) hB.1 (by simp) (fun i hi => ?_)
    obtain rfl : i = k := by simpa using hi
    refine wpOp_step h0 (fun K' hK => h K' (fun a' w' hS ht => hK a' w' ⟨hS, ?_⟩))
    exact anyH_tail l ms (i + 1) _ a' w' (by simpa using hl) (fun j hj => by have := ha (j + 1) (by simpa using hj); simpa [Nat.add_assoc, Nat.add_comm 1 j] using this) hB.2 ht

theorem anyH_held {l0 : List Oper} {all : List Bool} (hs : Region.noSelect ops = true) (hQ : ∀ c a d v w, Q (.panic c) (Act.put a d v) w → Q (.panic c) a w) (hl0 : l0.length = all.length) (ha0 : ∀ j, j < l0.length → l0[j]? = ops[0 + j]?) :
    ∀ (l : List Oper) (ms : List Bool) (k : Nat) (listed : Array Bool) (a : Act) (w : World), l.length = ms.length → (∀ j, j < l.length → l[j]? = ops[k + j]?) →
    lexHeld md ops all ms k listed = true → S w → heldF P ops S (fun a' => tailF P ops Q S l0 all a' w) l ms a → wpAnyH P md ops Q S (takenF ms + leftF all) listed a w
  | [], [], _, listed, a, w, _, _, hB, _, h => by
    simp only [takenF, Nat.zero_add]
    exact anyH_tail l0 all 0 listed a w hl0 ha0 hB h
  | [], _ :: _, _, _, _, _, hl, _, _, _, _ => by simp at hl
  | _ :: _, [], _, _, _, _, hl, _, _, _, _ => by simp at hl
  | o :: l, true :: ms, k, listed, a, w, hl, ha, hB, hS, h => by
    have h0 : ops[k]? = some o := by have := ha 0 (by simp); simpa using this.symm
    simp only [lexHeld, Bool.and_eq_true] at hB
    obtain ⟨⟨hr, hf⟩, hB'⟩ := hB
    obtain ⟨v, hy, hK⟩ := h
    have e : takenF (true :: ms) + leftF all = (takenF ms + leftF all) + 1 := by simp only [takenF]; omega
    rw [e]
    exact wpAnyH_take h0 hs hf hr (fun c a' w' hq => hQ c a' _ _ w' hq) hy hS
      (anyH_held hs hQ hl0 ha0 l ms (k + 1) _ _ w (by simpa using hl) (fun j hj => by have := ha (j + 1) (by simpa using hj); simpa [Nat.add_assoc, Nat.add_comm 1 j] using this) hB' hS hK)
  | o :: l, false :: ms, k, listed, a, w, hl, ha, hB, hS, h =>
    anyH_held hs hQ hl0 ha0 l ms (k + 1) listed a w (by simpa using hl) (fun j hj => by have := ha (j + 1) (by simpa using hj); simpa [Nat.add_assoc, Nat.add_comm 1 j] using this) hB hS h

theorem count_all : ∀ ms : List Bool, takenF ms + leftF ms = ms.length
  | [] => rfl
  | true :: ms => by have := count_all ms; simp only [takenF, leftF, List.length_cons]; omega
  | false :: ms => by have := count_all ms; simp only [takenF, leftF, List.length_cons]; omega
end

/-- A region whose operations are written out, and which of them are taken first. -/
theorem wp_region_tail {P : Program} {id : Nat} {Q : Exit → Act → World → Prop} {a : Act} {w : World} {l : List Oper} (S : World → Prop) (ms : List Bool) (hm : P.follows .mixedOrders = true) (hQ : ∀ c a d v w, Q (.panic c) (Act.put a d v) w → Q (.panic c) a w)
    (hl : l.length = ms.length) (hB : (Region.noSelect l.toArray && lexHeld .any l.toArray ms ms 0 (Array.replicate l.length false)) = true)
    (hS : S w.drew) (h : heldF P l.toArray S (fun a' => tailF P l.toArray Q S l ms a' w.drew) l ms a) : (Code.region id l.toArray true).wp P Q a w := by
  rw [Bool.and_eq_true] at hB
  refine wp_region_held_drew (S := S) hm hS (fun _ => ?_)
  have := anyH_held (P := P) (ops := l.toArray) (md := .any) (S := S) (Q := Q) (l0 := l) (all := ms) hB.1 hQ hl (fun j hj => by simp) l ms 0 (Array.replicate l.length false) a w.drew hl (fun j hj => by simp) hB.2 hS h
  rw [count_all ms, ← hl] at this
  simpa using this

/-! The same, what comes behind those that are taken first being told step by step. -/
section
variable {P : Program} {ops : Array Oper} {md : Region.Mode} {S : World → Prop} {Q : Exit → Act → World → Prop}

def listedOf : List Bool → Nat → Array Bool → Array Bool
  | [], _, listed => listed
  | true :: ms, k, listed => listedOf ms (k + 1) (listed.setIfInBounds k true)
  | false :: ms, k, listed => listedOf ms (k + 1) listed
def lexRaw (md : Region.Mode) (ops : Array Oper) : List Bool → Nat → Array Bool → Bool
  | [], _, _ => true
  | true :: ms, k, listed => (Region.ready md ops listed).contains k && Region.free md ops listed k && lexRaw md ops ms (k + 1) (listed.setIfInBounds k true)
  | false :: ms, k, listed => lexRaw md ops ms (k + 1) listed
theorem anyH_raw (f : Nat) (hs : Region.noSelect ops = true) (hQ : ∀ c a d v w, Q (.panic c) (Act.put a d v) w → Q (.panic c) a w) :
    ∀ (l : List Oper) (ms : List Bool) (k : Nat) (listed : Array Bool) (a : Act) (w : World), l.length = ms.length → (∀ j, j < l.length → l[j]? = ops[k + j]?) →
    lexRaw md ops ms k listed = true → S w → heldF P ops S (fun a' => wpAnyH P md ops Q S f (listedOf ms k listed) a' w) l ms a → wpAnyH P md ops Q S (takenF ms + f) listed a w
  | [], [], _, listed, a, w, _, _, _, _, h => by simp only [takenF, Nat.zero_add]; exact h
  | [], _ :: _, _, _, _, _, hl, _, _, _, _ => by simp at hl
  | _ :: _, [], _, _, _, _, hl, _, _, _, _ => by simp at hl
  | o :: l, true :: ms, k, listed, a, w, hl, ha, hB, hS, h => by
    have h0 : ops[k]? = some o := by have := ha 0 (by simp); simpa using this.symm
    simp only [lexRaw, Bool.and_eq_true] at hB
    obtain ⟨⟨hr, hf⟩, hB'⟩ := hB
    obtain ⟨v, hy, hK⟩ := h
    have e : takenF (true :: ms) + f = (takenF ms + f) + 1 := by simp only [takenF]; omega
    rw [e]
    exact wpAnyH_take h0 hs hf hr (fun c a' w' hq => hQ c a' _ _ w' hq) hy hS
      (anyH_raw f hs hQ l ms (k + 1) _ _ w (by simpa using hl) (fun j hj => by have := ha (j + 1) (by simpa using hj); simpa [Nat.add_assoc, Nat.add_comm 1 j] using this) hB' hS hK)
  | o :: l, false :: ms, k, listed, a, w, hl, ha, hB, hS, h =>
    anyH_raw f hs hQ l ms (k + 1) listed a w (by simpa using hl) (fun j hj => by have := ha (j + 1) (by simpa using hj); simpa [Nat.add_assoc, Nat.add_comm 1 j] using this) hB hS h

/-- One alone may come up. -/
theorem anyH_step1 {l : List Oper} {i f : Nat} {o : Oper} {listed : Array Bool} {a : Act} {w : World} (ho : l[i]? = some o) (hr : Region.ready md l.toArray listed = [i])
    (h : ∀ K' : Act → World → Prop, Shut (∀ a w, S w → wpAnyH P md l.toArray Q S f (listed.setIfInBounds i true) a w → K' a w) → if Region.wanted o (yielded l.toArray a.tmps) = true then Oper.wp P o a w K' Q else K' (a.put o.dst undef) w) :
    wpAnyH P md l.toArray Q S (f + 1) listed a w := by
  refine wpAnyH_all (rs := [i]) hr (by simp) (fun j hj => ?_)
  obtain rfl : j = i := by simpa using hj
  exact wpOp_step (by simpa using ho) (fun K' hK => h K' (fun a' w' hS ht => hK a' w' ⟨hS, ht⟩))
/-- One of two may come up. -/
theorem anyH_step2 {l : List Oper} {i j f : Nat} {oi oj : Oper} {listed : Array Bool} {a : Act} {w : World} (hoi : l[i]? = some oi) (hoj : l[j]? = some oj) (hr : Region.ready md l.toArray listed = [i, j])
    (hi : ∀ K' : Act → World → Prop, Shut (∀ a w, S w → wpAnyH P md l.toArray Q S f (listed.setIfInBounds i true) a w → K' a w) → if Region.wanted oi (yielded l.toArray a.tmps) = true then Oper.wp P oi a w K' Q else K' (a.put oi.dst undef) w)
    (hj : ∀ K' : Act → World → Prop, Shut (∀ a w, S w → wpAnyH P md l.toArray Q S f (listed.setIfInBounds j true) a w → K' a w) → if Region.wanted oj (yielded l.toArray a.tmps) = true then Oper.wp P oj a w K' Q else K' (a.put oj.dst undef) w) :
    wpAnyH P md l.toArray Q S (f + 1) listed a w := by
  refine wpAnyH_all (rs := [i, j]) hr (by simp) (fun q hq => ?_)
  rcases List.mem_cons.1 hq with rfl | hq
  · exact wpOp_step (by simpa using hoi) (fun K' hK => hi K' (fun a' w' hS ht => hK a' w' ⟨hS, ht⟩))
  · obtain rfl : q = j := by simpa using hq
    exact wpOp_step (by simpa using hoj) (fun K' hK => hj K' (fun a' w' hS ht => hK a' w' ⟨hS, ht⟩))
end

theorem wp_region_raw {P : Program} {id : Nat} {Q : Exit → Act → World → Prop} {a : Act} {w : World} {l : List Oper} (S : World → Prop) (ms : List Bool) (hm : P.follows .mixedOrders = true) (hQ : ∀ c a d v w, Q (.panic c) (Act.put a d v) w → Q (.panic c) a w)
    (hl : l.length = ms.length) (hB : (Region.noSelect l.toArray && lexRaw .any l.toArray ms 0 (Array.replicate l.length false)) = true)
    (hS : S w.drew) (h : heldF P l.toArray S (fun a' => wpAnyH P .any l.toArray Q S (leftF ms) (listedOf ms 0 (Array.replicate l.length false)) a' w.drew) l ms a) : (Code.region id l.toArray true).wp P Q a w := by
  rw [Bool.and_eq_true] at hB
  refine wp_region_held_drew (S := S) hm hS (fun _ => ?_)
  have := anyH_raw (P := P) (ops := l.toArray) (md := .any) (S := S) (Q := Q) (leftF ms) hB.1 hQ l ms 0 (Array.replicate l.length false) a w.drew hl (fun j hj => by simp) hB.2 hS h
  rw [count_all ms, ← hl] at this
  simpa using this

end Go.Proofs.YtjkokbijnaodnaaGreat

namespace Go.Proofs.YtjkokbijnaodnaaGreat
open Go.RowKit

section
variable {P : Program} {ops : Array Oper} {md : Region.Mode} {C : World → Prop} {m : Nat} {L : Act → Prop}

/-- Whatever order is picked from here on: number m comes last, and then L is asked. -/
def anyL (P : Program) (md : Region.Mode) (ops : Array Oper) (C : World → Prop) (m : Nat) (L : Act → Prop) : Nat → Array Bool → Act → Prop
  | 0, _, _ => False
  | fuel + 1, listed, a => Region.ready md ops listed ≠ [] ∧ ∀ i ∈ Region.ready md ops listed, if i = m then (L a ∧ Region.ready md ops (listed.setIfInBounds m true) = []) else qOp P ops C i (anyL P md ops C m L fuel (listed.setIfInBounds i true)) a

theorem any_done {Q : Exit → Act → World → Prop} {listed : Array Bool} {a : Act} {w : World} (hr : Region.ready md ops listed = []) (hq : Q .normal a w) : ∀ fuel, wpAny P md ops Q fuel listed a w
  | 0 => ⟨hr, hq⟩
  | _ + 1 => ⟨fun _ => hq, fun i hi => by rw [hr] at hi; cases hi⟩

theorem anyL_sound {Q : Exit → Act → World → Prop} (hL : ∀ a w, C w → L a → wpOp P ops Q m (fun a' w' => Q .normal a' w') a w) :
    ∀ (fuel : Nat) (listed : Array Bool) (a : Act) (w : World), C w → anyL P md ops C m L fuel listed a → wpAny P md ops Q fuel listed a w
  | 0, _, _, _, _, h => h.elim
  | fuel + 1, listed, a, w, hw, h => ⟨fun h0 => absurd h0 h.1, fun i hi => by
      have h2 := h.2 i hi
      by_cases e : i = m
      · subst e
        rw [if_pos rfl] at h2
        exact wpOp_mono (fun a' w' hq => any_done h2.2 hq fuel) (hL a w hw h2.1)
      · rw [if_neg e] at h2
        exact wpOp_of_qOp hw (fun a' w' hw' hh => anyL_sound hL fuel _ a' w' hw' hh) h2⟩

/-- What has come up has come up behind what it waits for. -/
def Cl (md : Region.Mode) (ops : Array Oper) (listed : Array Bool) : Prop := ∀ k ok, ops[k]? = some ok → listed.getD k false = true → ∀ e ∈ ok.after, Region.binds md e = true → listed.getD e.on false = true
theorem Cl.set {listed : Array Bool} {j : Nat} (h : Cl md ops listed) (hj : j ∈ Region.ready md ops listed) : Cl md ops (listed.setIfInBounds j true) := by
  intro k ok hk hl e he hb
  by_cases hjk : j = k
  · subst hjk
    obtain ⟨_, o, ho, hall⟩ := mem_ready.1 hj
    rw [ho] at hk
    cases hk
    exact getD_set_true (hall e he hb)
  · rw [getD_set_ne false hjk] at hl
    exact getD_set_true (h k ok hk hl e he hb)
theorem Cl.none (n : Nat) : Cl md ops (Array.replicate n false) := by
  intro k ok _ hl
  exfalso
  have : (Array.replicate n false).getD k false = false := by simp [Array.getD]
  rw [this] at hl
  cases hl
/-- Whether an operation waits for another, by so many steps at most. -/
def waits (md : Region.Mode) (ops : Array Oper) : Nat → Nat → Nat → Bool
  | 0, _, _ => false
  | f + 1, j, i => match ops[j]? with
    | none => false
    | some o => o.after.any (fun e => Region.binds md e && (e.on == i || waits md ops f e.on i))
theorem waits_listed {listed : Array Bool} (h : Cl md ops listed) (i : Nat) : ∀ (f j : Nat), listed.getD j false = true → waits md ops f j i = true → listed.getD i false = true
  | 0, _, _, hw => by simp [waits] at hw
  | f + 1, j, hj, hw => by
    unfold waits at hw
    cases ho : ops[j]? with
    | none => simp [ho] at hw
    | some o =>
      simp only [ho] at hw
      obtain ⟨q, hq, hb⟩ := Array.any_eq_true.1 hw
      have he := Array.getElem_mem hq
      generalize o.after[q] = e at *
      simp only [Bool.and_eq_true, Bool.or_eq_true, beq_iff_eq] at hb
      have hl := h j o ho hj e he hb.1
      rcases hb.2 with hb2 | hb2
      · rw [← hb2]; exact hl
      · exact waits_listed h i f e.on hl hb2
theorem waits_ready {listed : Array Bool} (h : Cl md ops listed) (i f : Nat) (hm : m ∈ Region.ready md ops listed) (hw : waits md ops (f + 1) m i = true) : listed.getD i false = true := by
  obtain ⟨_, o, ho, hall⟩ := mem_ready.1 hm
  unfold waits at hw
  simp only [ho] at hw
  obtain ⟨q, hq, hb⟩ := Array.any_eq_true.1 hw
  have he := Array.getElem_mem hq
  generalize o.after[q] = e at *
  simp only [Bool.and_eq_true, Bool.or_eq_true, beq_iff_eq] at hb
  have hl := hall e he hb.1
  rcases hb.2 with hb2 | hb2
  · rw [← hb2]; exact hl
  · exact waits_listed h i f e.on hl hb2

/-- An operation that only reads, and for which m waits, may be taken first. -/
theorem anyL_first {i f : Nat} {oi : Oper} {v : Value} (hi : ops[i]? = some oi) (him : i ≠ m) (hwt : waits md ops (f + 1) m i = true) (hsel : ∀ (j : Nat) (o : Oper) cs b, ops[j]? = some o → o.op ≠ .select cs b) :
    ∀ (fuel : Nat) (listed : Array Bool) (a : Act), Cl md ops listed →
      (∀ j oj, ops[j]? = some oj → j ≠ i → listed.getD j true = false → (∀ e ∈ oj.after, Region.binds md e = true → e.on ≠ i) → oi.apart ops oj = true) →
      i ∈ Region.ready md ops listed → YieldsIn P ops C oi v a →
      anyL P md ops C m L fuel (listed.setIfInBounds i true) (a.put oi.dst v) → anyL P md ops C m L (fuel + 1) listed a := by
  intro fuel
  induction fuel with
  | zero => intro listed a _ _ _ _ H; exact H.elim
  | succ fuel ih =>
    intro listed a hcl hfree hr hy H
    have hun := (mem_ready.1 hr).1
    refine ⟨fun h => (by rw [h] at hr; cases hr), fun j hj => ?_⟩
    by_cases hji : j = i
    · subst hji
      rw [if_neg him]
      exact hy.qOp hi H
    · by_cases hjm : j = m
      · exfalso
        subst hjm
        have h1 := waits_ready hcl i f hj hwt
        rcases Nat.lt_or_ge i listed.size with h' | h'
        · simp [h'] at h1 hun; rw [hun] at h1; cases h1
        · simp [Array.getElem?_eq_none h'] at h1
      · rw [if_neg hjm]
        have h1 := H.2 j (ready_mono hj hji)
        rw [if_neg hjm] at h1
        obtain ⟨hjun, oj, hoj, hall⟩ := mem_ready.1 hj
        have hnot : ∀ e ∈ oj.after, Region.binds md e = true → e.on ≠ i := fun e he hb heq => by
          have h1 := hall e he hb
          rw [heq] at h1
          rcases Nat.lt_or_ge i listed.size with h' | h'
          · simp [h'] at h1 hun; rw [hun] at h1; cases h1
          · simp [Array.getElem?_eq_none h'] at h1
        have h2 := qOp_put hoj (hfree j oj hoj hji hjun hnot) (fun cs b => hsel i oi cs b hi) (fun cs b => hsel j oj cs b hoj) hy h1
        refine qOp_mono (fun a' h3 => ih (listed.setIfInBounds j true) a' (hcl.set hj) (fun k ok hk hki hu hno => hfree k ok hk hki ?_ hno) (ready_mono hr (Ne.symm hji)) h3.1 ?_) h2
        · by_cases hjk : j = k
          · subst hjk; exact hjun
          · rw [getD_set_ne true hjk] at hu; exact hu
        · rw [Array.setIfInBounds_comm _ _ hji]
          exact h3.2

/-- The lexical order can be gone, all but the last. -/
def lexL (md : Region.Mode) (ops : Array Oper) (m f : Nat) : Nat → Nat → Array Bool → Bool
  | 0, _, listed => (Region.ready md ops listed == [m]) && (Region.ready md ops (listed.setIfInBounds m true)).isEmpty
  | fuel + 1, k, listed => (Region.ready md ops listed).contains k && Region.free md ops listed k && (k != m) && waits md ops (f + 1) m k && lexL md ops m f fuel (k + 1) (listed.setIfInBounds k true)

theorem anyL_lex (f : Nat) (hs : Region.noSelect ops = true) : ∀ (l : List Oper) (k : Nat) (listed : Array Bool) (a : Act), Cl md ops listed → (∀ j, j < l.length → l[j]? = ops[k + j]?) →
    lexL md ops m f l.length k listed = true → wpQuiet P ops C L l a → anyL P md ops C m L (l.length + 1) listed a
  | [], _, listed, a, _, _, hB, h => by
    simp only [List.length_nil, lexL, Bool.and_eq_true, beq_iff_eq, List.isEmpty_iff] at hB
    refine ⟨by rw [hB.1]; simp, fun i hi => ?_⟩
    rw [hB.1, List.mem_singleton] at hi
    rw [if_pos hi]
    exact ⟨h, hB.2⟩
  | o :: l, k, listed, a, hcl, hl, hB, h => by
    have h0 : ops[k]? = some o := by have := hl 0 (by simp); simpa using this.symm
    simp only [List.length_cons, lexL, Bool.and_eq_true, bne_iff_ne] at hB
    obtain ⟨⟨⟨⟨hr, hf⟩, hne⟩, hw⟩, hB'⟩ := hB
    have hst : qOp P ops C k (wpQuiet P ops C L l) a := by unfold qOp; simp only [h0]; exact h
    obtain ⟨v, hy, hK⟩ := yieldsIn_of_qOp h0 hst
    have hrm : k ∈ Region.ready md ops listed := by simpa using hr
    exact anyL_first h0 hne hw (Region.noSelect_spec hs) (l.length + 1) listed a hcl (Region.free_spec h0 hf) hrm hy
      (anyL_lex f hs l (k + 1) _ _ (hcl.set hrm) (fun j hj => by have := hl (j + 1) (by simpa using hj); simpa [Nat.add_assoc, Nat.add_comm 1 j] using this) hB' hK)
end

/-- A region whose operations are written out: all but the last only read. -/
theorem wp_region_last {P : Program} {id : Nat} {Q : Exit → Act → World → Prop} {a : Act} {w : World} {l : List Oper} (f : Nat) (last : Oper) (hm : P.follows .mixedOrders = true) (hlast : l[l.length - 1]? = some last) (hg : last.guard = none)
    (hB : (Region.noSelect l.toArray && lexL .any l.toArray (l.length - 1) f (l.length - 1) 0 (Array.replicate l.length false)) = true)
    (h : wpQuiet P l.toArray (fun w' => ∃ n, w' = w.drewN n) (fun a' => ∀ n, Oper.wp P last a' (w.drewN n) (fun a' w' => Q .normal a' w') Q) l.dropLast a) : (Code.region id l.toArray true).wp P Q a w := by
  rw [Bool.and_eq_true] at hB
  have hpos : 0 < l.length := by
    have := (List.getElem?_eq_some_iff.1 hlast).1
    omega
  have hlen : l.dropLast.length + 1 = l.length := by rw [List.length_dropLast]; omega
  refine wp_region_any hm (anyL_sound (C := fun w' => ∃ n, w' = w.drewN n) (m := l.length - 1) (L := fun a' => ∀ n, Oper.wp P last a' (w.drewN n) (fun a' w' => Q .normal a' w') Q) (fun a' w' hw' hL => ?_) _ _ _ _ ⟨1, rfl⟩ ?_)
  · obtain ⟨n, rfl⟩ := hw'
    unfold wpOp
    have e : l.toArray[l.length - 1]? = some last := by simpa using hlast
    have hwn : Region.wanted last (yielded l.toArray a'.tmps) = true := by simp [Region.wanted, hg]
    simp only [e, hwn, if_true]
    exact .inl (hL n)
  · have hx := anyL_lex (P := P) (ops := l.toArray) (md := .any) (C := fun w' => ∃ n, w' = w.drewN n) (m := l.length - 1) (L := fun a' => ∀ n, Oper.wp P last a' (w.drewN n) (fun a' w' => Q .normal a' w') Q) f hB.1 l.dropLast 0 (Array.replicate l.length false) a (Cl.none _)
      (fun j hj => by
        rw [List.length_dropLast] at hj
        rw [List.getElem?_dropLast, if_pos hj]
        simp) (by rw [List.length_dropLast]; exact hB.2) h
    rw [hlen] at hx
    simpa using hx

end Go.Proofs.YtjkokbijnaodnaaGreat

namespace Go.Proofs.YtjkokbijnaodnaaGreat
open Go.RowKit

section
variable {P : Program} {ops : Array Oper} {md : Region.Mode} {S : World → Prop} {Q : Exit → Act → World → Prop} {m : Nat}

/-- Whatever order is picked from here on; behind every operation but number m S holds. -/
def wpAnyT (P : Program) (md : Region.Mode) (ops : Array Oper) (Q : Exit → Act → World → Prop) (S : World → Prop) (m : Nat) : Nat → Array Bool → Act → World → Prop
  | 0, listed, a, w => Region.ready md ops listed = [] ∧ Q .normal a w
  | fuel + 1, listed, a, w => (Region.ready md ops listed = [] → Q .normal a w) ∧ ∀ i ∈ Region.ready md ops listed, wpOp P ops Q i (fun a' w' => (i = m ∨ S w') ∧ wpAnyT P md ops Q S m fuel (listed.setIfInBounds i true) a' w') a w
theorem wpAny_of_T : ∀ (fuel : Nat) (listed : Array Bool) (a : Act) (w : World), wpAnyT P md ops Q S m fuel listed a w → wpAny P md ops Q fuel listed a w
  | 0, _, _, _, h => h
  | fuel + 1, listed, _, _, h => ⟨h.1, fun i hi => wpOp_mono (fun a' w' h2 => wpAny_of_T fuel (listed.setIfInBounds i true) a' w' h2.2) (h.2 i hi)⟩

/-- An operation that yields the same wherever S holds, and for which m waits, may be taken first. -/
theorem wpAnyT_first {i f : Nat} {oi : Oper} {v : Value} (hi : ops[i]? = some oi) (him : i ≠ m) (hwt : waits md ops (f + 1) m i = true) (hsel : ∀ (j : Nat) (o : Oper) cs b, ops[j]? = some o → o.op ≠ .select cs b)
    (hQ : ∀ c a w, Q (.panic c) (a.put oi.dst v) w → Q (.panic c) a w) :
    ∀ (fuel : Nat) (listed : Array Bool) (a : Act) (w : World), Cl md ops listed →
      (∀ j oj, ops[j]? = some oj → j ≠ i → listed.getD j true = false → (∀ e ∈ oj.after, Region.binds md e = true → e.on ≠ i) → oi.apart ops oj = true) →
      i ∈ Region.ready md ops listed → YieldsIf P ops S oi v a → S w →
      wpAnyT P md ops Q S m fuel (listed.setIfInBounds i true) (a.put oi.dst v) w → wpAnyT P md ops Q S m (fuel + 1) listed a w := by
  intro fuel
  induction fuel with
  | zero =>
    intro listed a w _ _ hr hy hS H
    refine ⟨fun h => (by rw [h] at hr; cases hr), fun j hj => ?_⟩
    by_cases hji : j = i
    · subst hji; exact hy.wpOp hi hS ⟨.inr hS, H⟩
    · have := ready_mono hj hji
      rw [H.1] at this
      cases this
  | succ fuel ih =>
    intro listed a w hcl hfree hr hy hS H
    have hun := (mem_ready.1 hr).1
    refine ⟨fun h => (by rw [h] at hr; cases hr), fun j hj => ?_⟩
    by_cases hji : j = i
    · subst hji; exact hy.wpOp hi hS ⟨.inr hS, H⟩
    · have hjm : j ≠ m := by
        intro e
        subst e
        have h1 := waits_ready hcl i f hj hwt
        rcases Nat.lt_or_ge i listed.size with h' | h'
        · simp [h'] at h1 hun; rw [hun] at h1; cases h1
        · simp [Array.getElem?_eq_none h'] at h1
      have h1 := H.2 j (ready_mono hj hji)
      obtain ⟨hjun, oj, hoj, hall⟩ := mem_ready.1 hj
      have hnot : ∀ e ∈ oj.after, Region.binds md e = true → e.on ≠ i := fun e he hb heq => by
        have h1 := hall e he hb
        rw [heq] at h1
        rcases Nat.lt_or_ge i listed.size with h' | h'
        · simp [h'] at h1 hun; rw [hun] at h1; cases h1
        · simp [Array.getElem?_eq_none h'] at h1
      have h2 := wpOp_putIf hoj (hfree j oj hoj hji hjun hnot) (fun cs b => hsel i oi cs b hi) (fun cs b => hsel j oj cs b hoj) hQ hy h1
      refine wpOp_mono (fun a' w' h3 => ?_) h2
      have hS' : S w' := h3.2.1.resolve_left hjm
      refine ⟨.inr hS', ih (listed.setIfInBounds j true) a' w' (hcl.set hj) (fun k ok hk hki hu hno => hfree k ok hk hki ?_ hno) (ready_mono hr (Ne.symm hji)) h3.1 hS' ?_⟩
      · by_cases hjk : j = k
        · subst hjk; exact hjun
        · rw [getD_set_ne true hjk] at hu; exact hu
      · rw [Array.setIfInBounds_comm _ _ hji]
        exact h3.2.2

/-- Those that are not marked, in the order of the text; behind each but the last S. -/
def tailL (P : Program) (ops : Array Oper) (Q : Exit → Act → World → Prop) (S : World → Prop) : List Oper → List Bool → Act → World → Prop
  | o :: rest, false :: ms, a, w => ∀ K' : Act → World → Prop, Shut (∀ a w, (ms = [] ∨ S w) → tailL P ops Q S rest ms a w → K' a w) → if Region.wanted o (yielded ops a.tmps) = true then Oper.wp P o a w K' Q else K' (a.put o.dst undef) w
  | _ :: rest, true :: ms, a, w => tailL P ops Q S rest ms a w
  | _, _, a, w => Q .normal a w
theorem tailL_step {o : Oper} {rest : List Oper} {ms : List Bool} {a : Act} {w : World} (h : ∀ K' : Act → World → Prop, Shut (∀ a w, (ms = [] ∨ S w) → tailL P ops Q S rest ms a w → K' a w) → if Region.wanted o (yielded ops a.tmps) = true then Oper.wp P o a w K' Q else K' (a.put o.dst undef) w) :
    tailL P ops Q S (o :: rest) (false :: ms) a w := h
theorem tailL_skip {o : Oper} {rest : List Oper} {ms : List Bool} {a : Act} {w : World} (h : tailL P ops Q S rest ms a w) : tailL P ops Q S (o :: rest) (true :: ms) a w := h
theorem tailL_nil {a : Act} {w : World} (h : Q .normal a w) : tailL P ops Q S [] [] a w := h

theorem anyT_tail : ∀ (l : List Oper) (ms : List Bool) (k : Nat) (listed : Array Bool) (a : Act) (w : World), l.length = ms.length → (∀ j, j < l.length → l[j]? = ops[k + j]?) → k + l.length = m + 1 →
    lexTail md ops ms k listed = true → tailL P ops Q S l ms a w → wpAnyT P md ops Q S m (leftF ms) listed a w
  | [], [], _, listed, a, w, _, _, _, hB, h => ⟨by simpa [lexTail] using hB, h⟩
  | [], _ :: _, _, _, _, _, hl, _, _, _, _ => by simp at hl
  | _ :: _, [], _, _, _, _, hl, _, _, _, _ => by simp at hl
  | o :: l, true :: ms, k, listed, a, w, hl, ha, hm, hB, h =>
    anyT_tail l ms (k + 1) listed a w (by simpa using hl) (fun j hj => by have := ha (j + 1) (by simpa using hj); simpa [Nat.add_assoc, Nat.add_comm 1 j] using this) (by simp at hm; omega) hB h
  | o :: l, false :: ms, k, listed, a, w, hl, ha, hm, hB, h => by
    have h0 : ops[k]? = some o := by have := ha 0 (by simp); simpa using this.symm
    simp only [lexTail, Bool.and_eq_true, beq_iff_eq] at hB
    refine ⟨fun h1 => by rw [hB.1] at h1; simp at h1, fun i hi => ?_⟩
    rw [hB.1, List.mem_singleton] at hi
    subst hi
    refine wpOp_step h0 (fun K' hK => h K' (fun a' w' hS ht => hK a' w' ⟨?_, ?_⟩))
    · rcases hS with rfl | hS
      · have : l.length = 0 := by simpa using hl
        simp at hm
        exact .inl (by omega)
      · exact .inr hS
    · exact anyT_tail l ms (i + 1) _ a' w' (by simpa using hl) (fun j hj => by have := ha (j + 1) (by simpa using hj); simpa [Nat.add_assoc, Nat.add_comm 1 j] using this) (by simp at hm; omega) hB.2 ht

def lexLast (md : Region.Mode) (ops : Array Oper) (m f : Nat) (all : List Bool) : List Bool → Nat → Array Bool → Bool
  | [], _, listed => lexTail md ops all 0 listed
  | true :: ms, k, listed => (Region.ready md ops listed).contains k && Region.free md ops listed k && (k != m) && waits md ops (f + 1) m k && lexLast md ops m f all ms (k + 1) (listed.setIfInBounds k true)
  | false :: ms, k, listed => lexLast md ops m f all ms (k + 1) listed
theorem anyT_held {f : Nat} {l0 : List Oper} {all : List Bool} (hs : Region.noSelect ops = true) (hQ : ∀ c a d v w, Q (.panic c) (Act.put a d v) w → Q (.panic c) a w) (hl0 : l0.length = all.length) (ha0 : ∀ j, j < l0.length → l0[j]? = ops[0 + j]?) (hm : l0.length = m + 1) :
    ∀ (l : List Oper) (ms : List Bool) (k : Nat) (listed : Array Bool) (a : Act) (w : World), l.length = ms.length → (∀ j, j < l.length → l[j]? = ops[k + j]?) → Cl md ops listed →
    lexLast md ops m f all ms k listed = true → S w → heldF P ops S (fun a' => tailL P ops Q S l0 all a' w) l ms a → wpAnyT P md ops Q S m (takenF ms + leftF all) listed a w
  | [], [], _, listed, a, w, _, _, _, hB, _, h => by
    simp only [takenF, Nat.zero_add]
    exact anyT_tail l0 all 0 listed a w hl0 ha0 (by omega) hB h
  | [], _ :: _, _, _, _, _, hl, _, _, _, _, _ => by simp at hl
  | _ :: _, [], _, _, _, _, hl, _, _, _, _, _ => by simp at hl
  | o :: l, true :: ms, k, listed, a, w, hl, ha, hcl, hB, hS, h => by
    have h0 : ops[k]? = some o := by have := ha 0 (by simp); simpa using this.symm
    simp only [lexLast, Bool.and_eq_true, bne_iff_ne] at hB
    obtain ⟨⟨⟨⟨hr, hf⟩, hne⟩, hw⟩, hB'⟩ := hB
    obtain ⟨v, hy, hK⟩ := h
    have hrm : k ∈ Region.ready md ops listed := by simpa using hr
    have e : takenF (true :: ms) + leftF all = (takenF ms + leftF all) + 1 := by simp only [takenF]; omega
    rw [e]
    exact wpAnyT_first h0 hne hw (Region.noSelect_spec hs) (fun c a' w' hq => hQ c a' _ _ w' hq) _ listed a w hcl (Region.free_spec h0 hf) hrm hy hS
      (anyT_held hs hQ hl0 ha0 hm l ms (k + 1) _ _ w (by simpa using hl) (fun j hj => by have := ha (j + 1) (by simpa using hj); simpa [Nat.add_assoc, Nat.add_comm 1 j] using this) (hcl.set hrm) hB' hS hK)
  | o :: l, false :: ms, k, listed, a, w, hl, ha, hcl, hB, hS, h =>
    anyT_held hs hQ hl0 ha0 hm l ms (k + 1) listed a w (by simpa using hl) (fun j hj => by have := ha (j + 1) (by simpa using hj); simpa [Nat.add_assoc, Nat.add_comm 1 j] using this) hcl hB hS h
end

/-- A region whose operations are written out, and which of them are taken first; the last one waits for all. -/
theorem wp_region_tailL {P : Program} {id : Nat} {Q : Exit → Act → World → Prop} {a : Act} {w : World} {l : List Oper} (f : Nat) (S : World → Prop) (ms : List Bool) (hm : P.follows .mixedOrders = true) (hQ : ∀ c a d v w, Q (.panic c) (Act.put a d v) w → Q (.panic c) a w)
    (hl : l.length = ms.length) (hpos : 0 < l.length) (hB : (Region.noSelect l.toArray && lexLast .any l.toArray (l.length - 1) f ms ms 0 (Array.replicate l.length false)) = true)
    (hS : S w.drew) (h : heldF P l.toArray S (fun a' => tailL P l.toArray Q S l ms a' w.drew) l ms a) : (Code.region id l.toArray true).wp P Q a w := by
  rw [Bool.and_eq_true] at hB
  refine wp_region_any hm (wpAny_of_T (S := S) (m := l.length - 1) _ _ _ _ ?_)
  have := anyT_held (P := P) (ops := l.toArray) (md := .any) (S := S) (Q := Q) (m := l.length - 1) (f := f) (l0 := l) (all := ms) hB.1 hQ hl (fun j hj => by simp) (by omega) l ms 0 (Array.replicate l.length false) a w.drew hl (fun j hj => by simp) (Cl.none _) hB.2 hS h
  rw [count_all ms, ← hl] at this
  simpa using this

end Go.Proofs.YtjkokbijnaodnaaGreat

namespace Go.Proofs.YtjkokbijnaodnaaGreat
open Go.RowKit

theorem infoIntSS : (Tryz.prog.info? 64).map (fun i => (i.zero, i.size, i.bytes)) = some (some (.slice none 0 0), 1, 24) := by kernel_rfl

theorem fillIntSS (a : List (List Int)) (i : Nat) (h : i < a.length) : (a.take i ++ List.replicate (a.length - i) []).set i a[i] = a.take (i + 1) ++ List.replicate (a.length - (i + 1)) [] := by
  have hl : (a.take i).length = i := by rw [List.length_take]; omega
  rw [List.set_append_right _ _ (by omega), hl, Nat.sub_self, show a.length - i = (a.length - (i + 1)) + 1 by omega, List.replicate_succ, List.set_cons_zero, List.take_succ_eq_append_getElem h, List.append_assoc]
  rfl

set_option maxRecDepth 20000 in
set_option maxHeartbeats 1600000 in
theorem toIntSSD (HE : ToC 42 (RdI .i64) (OwI .i64 3) (lenI)) (hQ : StR (RdI .i64)) (hP : OwOk (OwI .i64 3)) (hN : ∀ w, (OwI .i64 3) w (.slice none 0 0) [] []) : ToC 18 (RdR (RdI .i64)) (OwR 64 (OwI .i64 3)) (szR (lenI)) := by
  intro w u a hq hs
  obtain ⟨ao, cap, rfl, hel⟩ := hq
  obtain ⟨i0, hi, hz0, hz1, hz2⟩ := info_parts infoIntSS
  have HEL := hide hel
  have HEE := hide HE
  have hlen := szR_len (lenI) a
  have HSE := hide (fun i h => (szR_el (lenI) a i h).2)
  obtain ⟨n, HN⟩ : ∃ n, Hid (a.length = n) := ⟨_, rfl⟩
  have hn : n ≤ 1048576 := by have := unhide HN; omega
  have HS := hide hs
  rw [unhide HN]
  clear hel HE hs hlen
  go_enter Tryz.func18, Tryz.ntmps18
  go_wp2_with (at_make; refine wpList_make_full _ rfl _ _ 25 rfl w.heap.size 64 i0 (.slice none 0 0) 1 Tryz.underlying25 hi hz0 hz1 .i64 .i64 _ _ n rfl rfl rfl rfl (by rw [hz2]; omega) (by unfold maxLen; omega) (Nat.le_refl _) ?_)
  intro w1 hown hgrow
  rw [toList_madeCells_one] at hown
  have HO1 : Hid (OwR 64 (OwI .i64 3) w1 (.slice (some ⟨w.heap.size, 0, none⟩) n n) (a.take 0 ++ List.replicate (a.length - 0) []) (blk (.slice (some ⟨w.heap.size, 0, none⟩) n n))) := by
    have h := OwR.made hN hown
    rw [List.take_zero, List.nil_append, Nat.sub_zero, unhide HN]
    exact h
  have HG1 := hide hgrow
  have HF1 : Hid (∀ g ∈ blk (.slice (some ⟨w.heap.size, 0, none⟩) n n), w.heap.size ≤ g) := fun g hg => by have : w.heap.size = g := Option.some.inj (mem_blk.1 hg); omega
  clear hown hgrow hi hz0 hz1 hz2
  go_wp2
  go_loopw [4] (fun iv wr => ∃ (i : Nat) (F : List Nat), i ≤ n ∧ iv = .int .i64 i ∧ Hid (OwR 64 (OwI .i64 3) wr (.slice (some ⟨w.heap.size, 0, none⟩) n n) (a.take i ++ List.replicate (a.length - i) []) F) ∧ Hid F.Nodup ∧ Hid (∀ g ∈ F, w.heap.size ≤ g) ∧ Hid (w.grownBy wr none)) (fun iv _ => n - (intOf iv).toNat)
  case atStart => exact ⟨0, _, Nat.zero_le _, rfl, HO1, blk_nodup _, HF1, HG1⟩
  case round =>
    clear HO1 HG1 HF1
    obtain ⟨i, F, hin, rfl, ho, hnd, hF, hg⟩ := hrel
    by_cases hlt : i < n
    · have hia : i < a.length := by rw [unhide HN]; exact hlt
      obtain ⟨b, off, u, rfl, c0, q0⟩ := unhide HEL i hia
      have c1 := (unhide hg).cell c0 (by simp)
      have HT := hide (unhide HEE wr u a[i] (hQ _ _ _ _ q0 (unhide hg)) (Nat.le_trans (unhide HSE i hia) (unhide HS)))
      have hiI : (i : Int) < (n : Int) := by omega
      clear c0 q0
      go_wp2_with fail
      refine (unhide HT).mono ?_
      rintro e w2 ⟨u', F', rfl, p2, n2, b2, g2⟩
      obtain ⟨uo, un, uc, rfl⟩ := hP.form _ _ _ _ p2
      have ho2 := (OwR.ok hP).keep (unhide ho) g2
      have hll : i < (a.take i ++ List.replicate (a.length - i) ([] : List Int)).length := by simp; omega
      obtain ⟨g0, cap0, u0, e0, c2, f2⟩ := ho2.slot i hll
      obtain rfl : g0 = w.heap.size := by simp at e0; exact e0.1.symm
      obtain ⟨F3, o3, n3, m3⟩ := ho2.put hP (unhide hnd) i hll (g := w.heap.size) rfl p2 n2 (fun x hx hx2 => by
        have h1 := b2 x hx
        have h2 := (OwR.ok hP).lt _ _ _ _ (unhide ho) x hx2
        omega)
      rw [fillIntSS a i hia] at o3
      have HO3 := hide o3
      have HF3 : Hid (∀ g ∈ F3, w.heap.size ≤ g) := fun g hg3 => by
        rcases m3 g hg3 with h | h
        · exact unhide hF g h
        · exact Nat.le_trans (unhide hg).size (b2 g h)
      have HG3 : Hid (w.grownBy (w2.setCell ⟨w.heap.size, i, none⟩ (.slice uo un uc)) none) := grown_new (grown_trans (unhide hg) g2) (grown_set w2 w.heap.size i (.slice uo un uc)) (fun k e => by have := Option.some.inj e; omega)
      have HN3 := hide n3
      clear ho2 o3 n3 m3 p2 n2 b2 g2 HT ho hnd hF hg e0 c1
      go_wp2
      go_roundw
      case rel => exact ⟨i + 1, F3, by omega, by go_num, HO3, HN3, HF3, HG3⟩
      case measure => simp [intOf]; omega
    · obtain rfl : i = n := by omega
      have HO4 : Hid (OwR 64 (OwI .i64 3) wr (.slice (some ⟨w.heap.size, 0, none⟩) i i) a F) := by
        have h := unhide ho
        rw [← unhide HN, List.take_length, Nat.sub_self, List.replicate_zero, List.append_nil, unhide HN] at h
        exact h
      clear ho
      go_wp2
      go_ret
      exact ⟨_, F, rfl, unhide HO4, unhide hnd, unhide hF, unhide hg⟩

set_option maxRecDepth 20000 in
set_option maxHeartbeats 1600000 in
theorem eqIntSSD (HE : EqC 56 (RdI .i64) (lenI)) (hQ : StR (RdI .i64)) : EqC 28 (RdR (RdI .i64)) (szR (lenI)) := by
  intro w u u' a hq hq' hs
  obtain ⟨ao, cap, rfl, hel⟩ := hq
  obtain ⟨bo, cap', rfl, hel'⟩ := hq'
  have HEL := hide hel
  have HEM := hide hel'
  have HEE := hide HE
  have hlen := szR_len (lenI) a
  have HSE := hide (fun i h => (szR_el (lenI) a i h).2)
  obtain ⟨n, HN⟩ : ∃ n, Hid (a.length = n) := ⟨_, rfl⟩
  have hn : n ≤ 1048576 := by have := unhide HN; omega
  have HS := hide hs
  rw [unhide HN]
  have hne : ((n : Int) != n) = false := by simp
  clear hel hel' HE hs hlen
  go_enter Tryz.func28, Tryz.ntmps28
  go_wp2
  go_loopw [5] (fun iv wr => ∃ i : Nat, i ≤ n ∧ iv = .int .i64 i ∧ Hid (w.grownBy wr none)) (fun iv _ => n - (intOf iv).toNat)
  case atStart => exact ⟨0, Nat.zero_le _, rfl, World.grownBy.refl _ _⟩
  case round =>
    obtain ⟨i, hin, rfl, hg⟩ := hrel
    by_cases hlt : i < n
    · have hia : i < a.length := by rw [unhide HN]; exact hlt
      obtain ⟨b, off, u, rfl, c0, q0⟩ := unhide HEL i hia
      obtain ⟨b', off', u', rfl, c0', q0'⟩ := unhide HEM i hia
      have d0 := (unhide hg).cell c0 (by simp)
      have d1 := (unhide hg).cell c0' (by simp)
      have HD := hide (And.intro d0 d1)
      have HT : Hid (∀ W, wr.grownBy W none → Calls Tryz.prog 56 #[u, u'] W fun e w' => e = .returned (.bool true) ∧ W.grownBy w' none) := fun W gW => unhide HEE W u u' a[i] (hQ _ _ _ _ q0 (grown_trans (unhide hg) gW)) (hQ _ _ _ _ q0' (grown_trans (unhide hg) gW)) (Nat.le_trans (unhide HSE i hia) (unhide HS))
      have hiI : (i : Int) < (n : Int) := by omega
      clear c0 q0 c0' q0'
      go_wp2
      refine wp_region_noPanic ?_
      refine wp_region_tailL 20 (fun w' => w'.cell? ⟨b, off + i, none⟩ = some u ∧ w'.cell? ⟨b', off' + i, none⟩ = some u') [true, true, true, true, true, true, true, true, false, false] (by kernel_rfl) (fun _ _ _ _ _ h => h) rfl (by decide) (by kernel_rfl) (unhide HD) ?_
      iterate 8
        refine heldF_take (v := ?_) (Or.inl ⟨by rfl, ?_⟩) ?_
        rotate_left 1
        · intro w' hSw
          try dsimp only at hSw
          obtain ⟨z0, z1⟩ := hSw
          go_simp
          try with_reducible rfl
        simp only [Act.put, List.setIfInBounds_toArray, List.set_cons_zero, List.set_cons_succ]
      iterate 2 refine heldF_skip ?_
      refine heldF_nil ?_
      iterate 8 refine tailL_skip ?_
      refine tailL_step (fun K hK => ?_)
      go_simp
      refine (unhide HT _ (grown_drew (World.grownBy.refl _ _))).mono ?_
      rintro e w2 ⟨rfl, g2⟩
      have g3 := grown_trans (grown_drew (World.grownBy.refl wr none)) g2
      have HD2 := hide (And.intro (g3.cell d0 (by simp)) (g3.cell d1 (by simp)))
      have HG3 := hide (grown_trans (unhide hg) g3)
      clear g2 g3 hg HT d0 d1 HD
      go_simp
      refine hK.out _ _ (.inr (unhide HD2)) ?_
      clear hK K
      refine tailL_step (fun K hK => ?_)
      go_simp
      refine hK.out _ _ (.inl rfl) ?_
      clear hK K HD2
      refine tailL_nil (NoPanic.normal ?_)
      go_wp2
      go_roundw
      case rel => exact ⟨i + 1, by omega, by go_num, HG3⟩
      case measure => simp [intOf]; omega
    · obtain rfl : i = n := by omega
      go_wp2
      go_ret
      exact ⟨rfl, unhide hg⟩

set_option maxRecDepth 20000 in
set_option maxHeartbeats 1600000 in
theorem szIntSSD (HE : SzC 33 (RdZ (RdI .i64)) (lenI)) : SzC 10 (RdZ (RdR (RdZ (RdI .i64)))) (szR (lenI)) := by
  intro w u a left hq hl
  obtain ⟨⟨ao, cap, rfl, hel⟩, hmx⟩ := hq
  unfold maxLen at hmx
  have HEL := hide hel
  have HEE := hide HE
  obtain ⟨n, HN⟩ : ∃ n, Hid (a.length = n) := ⟨_, rfl⟩
  have HSZ : Hid (szR (lenI) a = n + cntR (lenI) a) := by unfold Hid szR; rw [unhide HN]; rfl
  obtain ⟨res, HRES⟩ : ∃ res : Int, Hid ((if szR (lenI) a ≤ left then (left : Int) - szR (lenI) a else -1) = res) := ⟨_, rfl⟩
  rw [unhide HRES]
  rw [unhide HN] at hmx ⊢
  have e1 := i64_in ((left : Int) - (n : Int)) (by omega)
  clear hel HE
  by_cases hnl : n ≤ left
  · have hd : decide ((left : Int) - (n : Int) < 0) = false := decide_eq_false (by omega)
    go_enter Tryz.func10, Tryz.ntmps10
    go_wp2
    go_loopw [1, 5] (fun kv iv wr => ∃ (i c : Nat), i ≤ n ∧ iv = .int .i64 i ∧ kv = .int .i64 ((left : Int) - (n : Int) - (c : Int)) ∧ n + c ≤ left ∧ Hid (cntR (lenI) (a.take i) = c) ∧ wr = w) (fun _ iv _ => n - (intOf iv).toNat)
    case atStart => exact ⟨0, 0, Nat.zero_le _, rfl, by simp, by omega, rfl, rfl⟩
    case round =>
      obtain ⟨i, c, hin, rfl, rfl, hcl, hc, rfl⟩ := hrel
      by_cases hlt : i < n
      · have hia : i < a.length := by rw [unhide HN]; exact hlt
        have hnx := cntR_next (lenI) a i hia
        have hle := cntR_le (lenI) a (i + 1)
        rw [unhide hc] at hnx
        obtain ⟨b, off, u, rfl, c0, q0⟩ := unhide HEL i hia
        obtain ⟨lf, hlf⟩ : ∃ lf : Nat, left - n - c = lf := ⟨_, rfl⟩
        have e2 : (left : Int) - (n : Int) - (c : Int) = (lf : Int) := by omega
        have HT := hide (unhide HEE wr u a[i] lf q0 (by omega))
        obtain ⟨ce, HCE⟩ : ∃ ce, Hid ((lenI) a[i] = ce) := ⟨_, hide rfl⟩
        rw [unhide HCE] at HT hnx
        have hiI : (i : Int) < (n : Int) := by omega
        rw [e2]
        by_cases hce : ce ≤ lf
        · have hi1 : (if ce ≤ lf then (lf : Int) - (ce : Int) else -1) = (left : Int) - (n : Int) - ((c + ce : Nat) : Int) := by rw [if_pos hce]; omega
          rw [hi1] at HT
          have HNX := hide hnx
          have hneg : decide ((left : Int) - (n : Int) - ((c + ce : Nat) : Int) < 0) = false := decide_eq_false (by omega)
          obtain ⟨kk, HKK⟩ : ∃ kk : Int, Hid ((left : Int) - (n : Int) - ((c + ce : Nat) : Int) = kk) := ⟨_, hide rfl⟩
          rw [unhide HKK] at hneg HT
          clear q0 hnx hle hi1
          go_wp2_with fail
          refine (unhide HT).mono ?_
          rintro e w2 ⟨rfl, rfl⟩
          clear HT
          go_wp2
          go_roundw
          case rel => exact ⟨i + 1, c + ce, by omega, by go_num, by rw [unhide HKK], by omega, HNX, trivial⟩
          case measure => simp [intOf]; omega
        · rw [if_neg hce] at HT
          have hres : res = -1 := by
            rw [← unhide HRES, if_neg]
            rw [unhide HSZ]
            omega
          subst hres
          clear q0 hnx hle
          go_wp2_with fail
          refine (unhide HT).mono ?_
          rintro e w2 ⟨rfl, rfl⟩
          clear HT
          go_wp2
          go_ret
          exact ⟨rfl, rfl⟩
      · obtain rfl : i = n := by omega
        have hct : cntR (lenI) a = c := by rw [← unhide hc, ← unhide HN, cntR_all]
        have hres : res = (left : Int) - (i : Int) - (c : Int) := by
          rw [← unhide HRES, unhide HSZ, hct, if_pos (by omega)]
          omega
        subst hres
        clear hc hct
        go_wp2
        go_ret
        exact ⟨rfl, rfl⟩
  · have hd : decide ((left : Int) - (n : Int) < 0) = true := decide_eq_true (by omega)
    have hres : res = -1 := by
      rw [← unhide HRES, if_neg]
      rw [unhide HSZ]
      omega
    subst hres
    go_enter Tryz.func10, Tryz.ntmps10
    go_wp2
    go_ret
    exact ⟨rfl, rfl⟩

end Go.Proofs.YtjkokbijnaodnaaGreat

namespace Go.Proofs.YtjkokbijnaodnaaGreat
open Go.RowKit

theorem infoIntSSS : (Tryz.prog.info? 25).map (fun i => (i.zero, i.size, i.bytes)) = some (some (.slice none 0 0), 1, 24) := by kernel_rfl

theorem fillIntSSS (a : List (List (List Int))) (i : Nat) (h : i < a.length) : (a.take i ++ List.replicate (a.length - i) []).set i a[i] = a.take (i + 1) ++ List.replicate (a.length - (i + 1)) [] := by
  have hl : (a.take i).length = i := by rw [List.length_take]; omega
  rw [List.set_append_right _ _ (by omega), hl, Nat.sub_self, show a.length - i = (a.length - (i + 1)) + 1 by omega, List.replicate_succ, List.set_cons_zero, List.take_succ_eq_append_getElem h, List.append_assoc]
  rfl

set_option maxRecDepth 20000 in
set_option maxHeartbeats 1600000 in
theorem toIntSSSD (HE : ToC 18 (RdR (RdI .i64)) (OwR 64 (OwI .i64 3)) (szR lenI)) (hQ : StR (RdR (RdI .i64))) (hP : OwOk (OwR 64 (OwI .i64 3))) (hN : ∀ w, (OwR 64 (OwI .i64 3)) w (.slice none 0 0) [] []) : ToC 43 (RdR (RdR (RdI .i64))) (OwR 25 (OwR 64 (OwI .i64 3))) (szR (szR lenI)) := by
  intro w u a hq hs
  obtain ⟨ao, cap, rfl, hel⟩ := hq
  obtain ⟨i0, hi, hz0, hz1, hz2⟩ := info_parts infoIntSSS
  have HEL := hide hel
  have HEE := hide HE
  have hlen := szR_len (szR lenI) a
  have HSE := hide (fun i h => (szR_el (szR lenI) a i h).2)
  obtain ⟨n, HN⟩ : ∃ n, Hid (a.length = n) := ⟨_, rfl⟩
  have hn : n ≤ 1048576 := by have := unhide HN; omega
  have HS := hide hs
  rw [unhide HN]
  clear hel HE hs hlen
  go_enter Tryz.func43, Tryz.ntmps43
  go_wp2_with (at_make; refine wpList_make_full _ rfl _ _ 26 rfl w.heap.size 25 i0 (.slice none 0 0) 1 Tryz.underlying26 hi hz0 hz1 .i64 .i64 _ _ n rfl rfl rfl rfl (by rw [hz2]; omega) (by unfold maxLen; omega) (Nat.le_refl _) ?_)
  intro w1 hown hgrow
  rw [toList_madeCells_one] at hown
  have HO1 : Hid (OwR 25 (OwR 64 (OwI .i64 3)) w1 (.slice (some ⟨w.heap.size, 0, none⟩) n n) (a.take 0 ++ List.replicate (a.length - 0) []) (blk (.slice (some ⟨w.heap.size, 0, none⟩) n n))) := by
    have h := OwR.made hN hown
    rw [List.take_zero, List.nil_append, Nat.sub_zero, unhide HN]
    exact h
  have HG1 := hide hgrow
  have HF1 : Hid (∀ g ∈ blk (.slice (some ⟨w.heap.size, 0, none⟩) n n), w.heap.size ≤ g) := fun g hg => by have : w.heap.size = g := Option.some.inj (mem_blk.1 hg); omega
  clear hown hgrow hi hz0 hz1 hz2
  go_wp2
  go_loopw [4] (fun iv wr => ∃ (i : Nat) (F : List Nat), i ≤ n ∧ iv = .int .i64 i ∧ Hid (OwR 25 (OwR 64 (OwI .i64 3)) wr (.slice (some ⟨w.heap.size, 0, none⟩) n n) (a.take i ++ List.replicate (a.length - i) []) F) ∧ Hid F.Nodup ∧ Hid (∀ g ∈ F, w.heap.size ≤ g) ∧ Hid (w.grownBy wr none)) (fun iv _ => n - (intOf iv).toNat)
  case atStart => exact ⟨0, _, Nat.zero_le _, rfl, HO1, blk_nodup _, HF1, HG1⟩
  case round =>
    clear HO1 HG1 HF1
    obtain ⟨i, F, hin, rfl, ho, hnd, hF, hg⟩ := hrel
    by_cases hlt : i < n
    · have hia : i < a.length := by rw [unhide HN]; exact hlt
      obtain ⟨b, off, u, rfl, c0, q0⟩ := unhide HEL i hia
      have c1 := (unhide hg).cell c0 (by simp)
      have HT := hide (unhide HEE wr u a[i] (hQ _ _ _ _ q0 (unhide hg)) (Nat.le_trans (unhide HSE i hia) (unhide HS)))
      have hiI : (i : Int) < (n : Int) := by omega
      clear c0 q0
      go_wp2_with fail
      refine (unhide HT).mono ?_
      rintro e w2 ⟨u', F', rfl, p2, n2, b2, g2⟩
      obtain ⟨uo, un, uc, rfl⟩ := hP.form _ _ _ _ p2
      have ho2 := (OwR.ok hP).keep (unhide ho) g2
      have hll : i < (a.take i ++ List.replicate (a.length - i) ([] : List (List Int))).length := by simp; omega
      obtain ⟨g0, cap0, u0, e0, c2, f2⟩ := ho2.slot i hll
      obtain rfl : g0 = w.heap.size := by simp at e0; exact e0.1.symm
      obtain ⟨F3, o3, n3, m3⟩ := ho2.put hP (unhide hnd) i hll (g := w.heap.size) rfl p2 n2 (fun x hx hx2 => by
        have h1 := b2 x hx
        have h2 := (OwR.ok hP).lt _ _ _ _ (unhide ho) x hx2
        omega)
      rw [fillIntSSS a i hia] at o3
      have HO3 := hide o3
      have HF3 : Hid (∀ g ∈ F3, w.heap.size ≤ g) := fun g hg3 => by
        rcases m3 g hg3 with h | h
        · exact unhide hF g h
        · exact Nat.le_trans (unhide hg).size (b2 g h)
      have HG3 : Hid (w.grownBy (w2.setCell ⟨w.heap.size, i, none⟩ (.slice uo un uc)) none) := grown_new (grown_trans (unhide hg) g2) (grown_set w2 w.heap.size i (.slice uo un uc)) (fun k e => by have := Option.some.inj e; omega)
      have HN3 := hide n3
      clear ho2 o3 n3 m3 p2 n2 b2 g2 HT ho hnd hF hg e0 c1
      go_wp2
      go_roundw
      case rel => exact ⟨i + 1, F3, by omega, by go_num, HO3, HN3, HF3, HG3⟩
      case measure => simp [intOf]; omega
    · obtain rfl : i = n := by omega
      have HO4 : Hid (OwR 25 (OwR 64 (OwI .i64 3)) wr (.slice (some ⟨w.heap.size, 0, none⟩) i i) a F) := by
        have h := unhide ho
        rw [← unhide HN, List.take_length, Nat.sub_self, List.replicate_zero, List.append_nil, unhide HN] at h
        exact h
      clear ho
      go_wp2
      go_ret
      exact ⟨_, F, rfl, unhide HO4, unhide hnd, unhide hF, unhide hg⟩

set_option maxRecDepth 20000 in
set_option maxHeartbeats 1600000 in
theorem eqIntSSSD (HE : EqC 28 (RdR (RdI .i64)) (szR lenI)) (hQ : StR (RdR (RdI .i64))) : EqC 57 (RdR (RdR (RdI .i64))) (szR (szR lenI)) := by
  intro w u u' a hq hq' hs
  obtain ⟨ao, cap, rfl, hel⟩ := hq
  obtain ⟨bo, cap', rfl, hel'⟩ := hq'
  have HEL := hide hel
  have HEM := hide hel'
  have HEE := hide HE
  have hlen := szR_len (szR lenI) a
  have HSE := hide (fun i h => (szR_el (szR lenI) a i h).2)
  obtain ⟨n, HN⟩ : ∃ n, Hid (a.length = n) := ⟨_, rfl⟩
  have hn : n ≤ 1048576 := by have := unhide HN; omega
  have HS := hide hs
  rw [unhide HN]
  have hne : ((n : Int) != n) = false := by simp
  clear hel hel' HE hs hlen
  go_enter Tryz.func57, Tryz.ntmps57
  go_wp2
  go_loopw [5] (fun iv wr => ∃ i : Nat, i ≤ n ∧ iv = .int .i64 i ∧ Hid (w.grownBy wr none)) (fun iv _ => n - (intOf iv).toNat)
  case atStart => exact ⟨0, Nat.zero_le _, rfl, World.grownBy.refl _ _⟩
  case round =>
    obtain ⟨i, hin, rfl, hg⟩ := hrel
    by_cases hlt : i < n
    · have hia : i < a.length := by rw [unhide HN]; exact hlt
      obtain ⟨b, off, u, rfl, c0, q0⟩ := unhide HEL i hia
      obtain ⟨b', off', u', rfl, c0', q0'⟩ := unhide HEM i hia
      have d0 := (unhide hg).cell c0 (by simp)
      have d1 := (unhide hg).cell c0' (by simp)
      have HD := hide (And.intro d0 d1)
      have HT : Hid (∀ W, wr.grownBy W none → Calls Tryz.prog 28 #[u, u'] W fun e w' => e = .returned (.bool true) ∧ W.grownBy w' none) := fun W gW => unhide HEE W u u' a[i] (hQ _ _ _ _ q0 (grown_trans (unhide hg) gW)) (hQ _ _ _ _ q0' (grown_trans (unhide hg) gW)) (Nat.le_trans (unhide HSE i hia) (unhide HS))
      have hiI : (i : Int) < (n : Int) := by omega
      clear c0 q0 c0' q0'
      go_wp2
      refine wp_region_noPanic ?_
      refine wp_region_tailL 20 (fun w' => w'.cell? ⟨b, off + i, none⟩ = some u ∧ w'.cell? ⟨b', off' + i, none⟩ = some u') [true, true, true, true, true, true, true, true, false, false] (by kernel_rfl) (fun _ _ _ _ _ h => h) rfl (by decide) (by kernel_rfl) (unhide HD) ?_
      iterate 8
        refine heldF_take (v := ?_) (Or.inl ⟨by rfl, ?_⟩) ?_
        rotate_left 1
        · intro w' hSw
          try dsimp only at hSw
          obtain ⟨z0, z1⟩ := hSw
          go_simp
          try with_reducible rfl
        simp only [Act.put, List.setIfInBounds_toArray, List.set_cons_zero, List.set_cons_succ]
      iterate 2 refine heldF_skip ?_
      refine heldF_nil ?_
      iterate 8 refine tailL_skip ?_
      refine tailL_step (fun K hK => ?_)
      go_simp
      refine (unhide HT _ (grown_drew (World.grownBy.refl _ _))).mono ?_
      rintro e w2 ⟨rfl, g2⟩
      have g3 := grown_trans (grown_drew (World.grownBy.refl wr none)) g2
      have HD2 := hide (And.intro (g3.cell d0 (by simp)) (g3.cell d1 (by simp)))
      have HG3 := hide (grown_trans (unhide hg) g3)
      clear g2 g3 hg HT d0 d1 HD
      go_simp
      refine hK.out _ _ (.inr (unhide HD2)) ?_
      clear hK K
      refine tailL_step (fun K hK => ?_)
      go_simp
      refine hK.out _ _ (.inl rfl) ?_
      clear hK K HD2
      refine tailL_nil (NoPanic.normal ?_)
      go_wp2
      go_roundw
      case rel => exact ⟨i + 1, by omega, by go_num, HG3⟩
      case measure => simp [intOf]; omega
    · obtain rfl : i = n := by omega
      go_wp2
      go_ret
      exact ⟨rfl, unhide hg⟩

set_option maxRecDepth 20000 in
set_option maxHeartbeats 1600000 in
theorem szIntSSSD (HE : SzC 10 (RdZ (RdR (RdZ (RdI .i64)))) (szR lenI)) : SzC 34 (RdZ (RdR (RdZ (RdR (RdZ (RdI .i64)))))) (szR (szR lenI)) := by
  intro w u a left hq hl
  obtain ⟨⟨ao, cap, rfl, hel⟩, hmx⟩ := hq
  unfold maxLen at hmx
  have HEL := hide hel
  have HEE := hide HE
  obtain ⟨n, HN⟩ : ∃ n, Hid (a.length = n) := ⟨_, rfl⟩
  have HSZ : Hid (szR (szR lenI) a = n + cntR (szR lenI) a) := by unfold Hid szR; rw [unhide HN]; rfl
  obtain ⟨res, HRES⟩ : ∃ res : Int, Hid ((if szR (szR lenI) a ≤ left then (left : Int) - szR (szR lenI) a else -1) = res) := ⟨_, rfl⟩
  rw [unhide HRES]
  rw [unhide HN] at hmx ⊢
  have e1 := i64_in ((left : Int) - (n : Int)) (by omega)
  clear hel HE
  by_cases hnl : n ≤ left
  · have hd : decide ((left : Int) - (n : Int) < 0) = false := decide_eq_false (by omega)
    go_enter Tryz.func34, Tryz.ntmps34
    go_wp2
    go_loopw [1, 5] (fun kv iv wr => ∃ (i c : Nat), i ≤ n ∧ iv = .int .i64 i ∧ kv = .int .i64 ((left : Int) - (n : Int) - (c : Int)) ∧ n + c ≤ left ∧ Hid (cntR (szR lenI) (a.take i) = c) ∧ wr = w) (fun _ iv _ => n - (intOf iv).toNat)
    case atStart => exact ⟨0, 0, Nat.zero_le _, rfl, by simp, by omega, rfl, rfl⟩
    case round =>
      obtain ⟨i, c, hin, rfl, rfl, hcl, hc, rfl⟩ := hrel
      by_cases hlt : i < n
      · have hia : i < a.length := by rw [unhide HN]; exact hlt
        have hnx := cntR_next (szR lenI) a i hia
        have hle := cntR_le (szR lenI) a (i + 1)
        rw [unhide hc] at hnx
        obtain ⟨b, off, u, rfl, c0, q0⟩ := unhide HEL i hia
        obtain ⟨lf, hlf⟩ : ∃ lf : Nat, left - n - c = lf := ⟨_, rfl⟩
        have e2 : (left : Int) - (n : Int) - (c : Int) = (lf : Int) := by omega
        have HT := hide (unhide HEE wr u a[i] lf q0 (by omega))
        obtain ⟨ce, HCE⟩ : ∃ ce, Hid ((szR lenI) a[i] = ce) := ⟨_, hide rfl⟩
        rw [unhide HCE] at HT hnx
        have hiI : (i : Int) < (n : Int) := by omega
        rw [e2]
        by_cases hce : ce ≤ lf
        · have hi1 : (if ce ≤ lf then (lf : Int) - (ce : Int) else -1) = (left : Int) - (n : Int) - ((c + ce : Nat) : Int) := by rw [if_pos hce]; omega
          rw [hi1] at HT
          have HNX := hide hnx
          have hneg : decide ((left : Int) - (n : Int) - ((c + ce : Nat) : Int) < 0) = false := decide_eq_false (by omega)
          obtain ⟨kk, HKK⟩ : ∃ kk : Int, Hid ((left : Int) - (n : Int) - ((c + ce : Nat) : Int) = kk) := ⟨_, hide rfl⟩
          rw [unhide HKK] at hneg HT
          clear q0 hnx hle hi1
          go_wp2_with fail
          refine (unhide HT).mono ?_
          rintro e w2 ⟨rfl, rfl⟩
          clear HT
          go_wp2
          go_roundw
          case rel => exact ⟨i + 1, c + ce, by omega, by go_num, by rw [unhide HKK], by omega, HNX, trivial⟩
          case measure => simp [intOf]; omega
        · rw [if_neg hce] at HT
          have hres : res = -1 := by
            rw [← unhide HRES, if_neg]
            rw [unhide HSZ]
            omega
          subst hres
          clear q0 hnx hle
          go_wp2_with fail
          refine (unhide HT).mono ?_
          rintro e w2 ⟨rfl, rfl⟩
          clear HT
          go_wp2
          go_ret
          exact ⟨rfl, rfl⟩
      · obtain rfl : i = n := by omega
        have hct : cntR (szR lenI) a = c := by rw [← unhide hc, ← unhide HN, cntR_all]
        have hres : res = (left : Int) - (i : Int) - (c : Int) := by
          rw [← unhide HRES, unhide HSZ, hct, if_pos (by omega)]
          omega
        subst hres
        clear hc hct
        go_wp2
        go_ret
        exact ⟨rfl, rfl⟩
  · have hd : decide ((left : Int) - (n : Int) < 0) = true := decide_eq_true (by omega)
    have hres : res = -1 := by
      rw [← unhide HRES, if_neg]
      rw [unhide HSZ]
      omega
    subst hres
    go_enter Tryz.func34, Tryz.ntmps34
    go_wp2
    go_ret
    exact ⟨rfl, rfl⟩

end Go.Proofs.YtjkokbijnaodnaaGreat

namespace Go.Proofs.YtjkokbijnaodnaaGreat
open Go.RowKit

theorem Tryz.info3 : (Tryz.prog.info? 3).map (fun i => (i.zero, i.size, i.bytes)) = some (some (.int .i64 0), 1, 8) := by kernel_rfl

set_option maxHeartbeats 400000 in
theorem toIntS (ao : Option Addr) (n cap : Nat) (zs : List Int) (w : World) (hr : Rd .i64 w ao n zs) (hn : n ≤ 4194304) :
    Calls Tryz.prog 42 #[.slice ao n cap] w fun e w' => e = .returned (.slice (some ⟨w.heap.size, 0, none⟩) n n) ∧
      w'.ownsRow w.heap.size 3 1 (.slice (some ⟨w.heap.size, 0, none⟩) n n) n (zs.map (Value.int .i64)) ∧ w.grownBy w' none := by
  obtain ⟨i0, hi, hz0, hz1, hz2⟩ := info_parts Tryz.info3
  obtain ⟨hl, hc⟩ := hr
  go_enter Tryz.func42, Tryz.ntmps42
  go_wp2_with (at_make; refine wpList_make_full _ rfl _ _ 64 rfl w.heap.size 3 i0 (.int .i64 0) 1 Tryz.underlying64 hi hz0 hz1 .i64 .i64 _ _ n rfl rfl rfl rfl (by rw [hz2]; omega) (by unfold maxLen; omega) (Nat.le_refl _) ?_)
  intro w1 hown hgrow
  have hown0 : w1.ownsRow w.heap.size 3 1 (.slice (some ⟨w.heap.size, 0, none⟩) n n) n (part .i64 zs 0) := by
    rw [part_zero, hl]
    have e : (madeCells #[Value.int .i64 0] n).toList = List.replicate n (.int .i64 0) := toList_madeCells_one _ _
    rw [← e]; exact hown
  clear hown hi hz0 hz1 hz2
  go_wp2
  go_loopw [4] (fun i wr => ∃ k : Nat, k ≤ n ∧ i = .int .i64 k ∧ wr.ownsRow w.heap.size 3 1 (.slice (some ⟨w.heap.size, 0, none⟩) n n) n (part .i64 zs k) ∧ w.grownBy wr none) (fun i _ => n - (intOf i).toNat)
  case atStart => exact ⟨0, Nat.zero_le _, rfl, hown0, hgrow⟩
  case round =>
    obtain ⟨k, hk, rfl, hownk, hgk⟩ := hrel
    clear hown0 hgrow
    by_cases hlt : k < n
    · obtain ⟨b, off, rfl, hcb⟩ := hc k hlt
      have hcell := hgk.cell hcb (by simp)
      have hfro := hownk.frozenAt k
      have hold : ∃ u, wr.cell? ⟨w.heap.size, k, none⟩ = some u := by rw [hownk.cellAt k (by omega)]; exact ⟨_, List.getElem?_eq_getElem (by rw [hownk.1]; omega)⟩
      obtain ⟨u, hu⟩ := hold
      have hst := hownk.stored k (.int .i64 (zs.getD k 0))
      rw [part_set .i64 zs k (by omega)] at hst
      generalize zs.getD k 0 = x at hcell hst
      have hg' := grown_new hgk hst.2 (by intro g e; simp at e; omega)
      have HS := hst.1
      clear hst hownk hgk hc
      go_wp2
      go_roundw
      case rel => exact ⟨k + 1, by omega, by go_num, HS, hg'⟩
      case measure => simp [intOf]; omega
    · have hkn : k = n := by omega
      subst hkn
      go_wp2
      go_ret
      rw [← hl, part_all, hl] at hownk
      exact ⟨rfl, hownk, hgk⟩

set_option maxHeartbeats 400000 in
theorem eqIntS (ao bo : Option Addr) (n cap cap' : Nat) (zs : List Int) (w : World) (hx : Rd .i64 w ao n zs) (hy : Rd .i64 w bo n zs) (hn : n ≤ 4194304) :
    Calls Tryz.prog 56 #[.slice ao n cap, .slice bo n cap'] w fun e w' => e = .returned (.bool true) ∧ w.grownBy w' none := by
  obtain ⟨hl, hc⟩ := hx
  obtain ⟨_, hd⟩ := hy
  have hne : ((n : Int) != n) = false := by simp
  go_enter Tryz.func56, Tryz.ntmps56
  go_wp2
  go_loopw [5] (fun i wr => ∃ k q : Nat, k ≤ n ∧ i = .int .i64 k ∧ wr = w.drewN q) (fun i _ => n - (intOf i).toNat)
  case atStart => exact ⟨0, 0, Nat.zero_le _, rfl, rfl⟩
  case round =>
    obtain ⟨k, q, hk, rfl, rfl⟩ := hrel
    by_cases hlt : k < n
    · obtain ⟨b, off, rfl, hcb⟩ := hc k hlt
      obtain ⟨b', off', rfl, hcd⟩ := hd k hlt
      generalize zs.getD k 0 = x at hcb hcd
      have hik : (k : Int) < (n : Int) := by omega
      clear hc hd
      go_wp2
      go_quiet (fail)
      go_wp2
      go_roundw
      case rel => exact ⟨k + 1, _, by omega, by go_num, rfl⟩
      case measure => simp [intOf]; omega
    · go_wp2
      go_ret
      exact ⟨rfl, grown_drewN (World.grownBy.refl _ _) _⟩

end Go.Proofs.YtjkokbijnaodnaaGreat

namespace Go.Proofs.YtjkokbijnaodnaaGreat
open Go.RowKit

theorem toIntSC : ToC 42 (RdI .i64) (OwI .i64 3) lenI := by
  rintro w u a ⟨ao, cap, rfl, hr⟩ hs
  refine (toIntS ao a.length cap a w hr (by unfold lenI at hs; omega)).mono ?_
  rintro e w' ⟨rfl, ho, hg⟩
  exact ⟨_, _, rfl, OwI.of ho, blk_nodup _, fun g hx => by have : w.heap.size = g := Option.some.inj (mem_blk.1 hx); omega, hg⟩

theorem eqIntSC : EqC 56 (RdI .i64) lenI := by
  rintro w u u' a ⟨ao, cap, rfl, hr⟩ ⟨bo, cap', rfl, hr'⟩ hs
  exact eqIntS ao bo a.length cap cap' a w hr hr' (by unfold lenI at hs; omega)

set_option maxHeartbeats 400000 in
theorem szIntSC : SzC 33 (RdZ (RdI .i64)) lenI := by
  rintro w u a left ⟨⟨ao, cap, rfl, _⟩, hm⟩ hl
  unfold maxLen at hm
  unfold lenI
  generalize a.length = n at *
  have e1 := i64_in ((left : Int) - (n : Int)) (by omega)
  by_cases h : n ≤ left
  · have hd : decide ((left : Int) - (n : Int) < 0) = false := decide_eq_false (by omega)
    rw [if_pos h]
    go_enter Tryz.func33, Tryz.ntmps33
    go_wp2
    go_ret
    exact ⟨rfl, rfl⟩
  · have hd : decide ((left : Int) - (n : Int) < 0) = true := decide_eq_true (by omega)
    rw [if_neg h]
    go_enter Tryz.func33, Tryz.ntmps33
    go_wp2
    go_ret
    exact ⟨rfl, rfl⟩

theorem ok1 : OwOk (OwI .i64 3) := OwI.ok .i64 3

end Go.Proofs.YtjkokbijnaodnaaGreat

namespace Go.Proofs.YtjkokbijnaodnaaGreat
open Go.RowKit

abbrev Rd2 := RdR (RdI .i64)

abbrev Ow2 := OwR 64 (OwI .i64 3)

theorem st2 : StR Rd2 := RdR.st (RdI.st .i64)

theorem ok2 : OwOk Ow2 := OwR.ok ok1

theorem Ow2.rd {w : World} {v : Value} {L : List (List Int)} {F : List Nat} (h : Ow2 w v L F) : Rd2 w v L := OwR.rd (fun _ _ _ _ h => OwI.rd h) h

end Go.Proofs.YtjkokbijnaodnaaGreat

namespace Go.Proofs.YtjkokbijnaodnaaGreat
open Go.RowKit

theorem toIntSSC : ToC 18 Rd2 Ow2 (szR lenI) := toIntSSD toIntSC (RdI.st .i64) ok1 (OwI.nil .i64 3)

theorem eqIntSSC : EqC 28 Rd2 (szR lenI) := eqIntSSD eqIntSC (RdI.st .i64)

theorem szIntSSC : SzC 10 (RdZ (RdR (RdZ (RdI .i64)))) (szR lenI) := szIntSSD szIntSC

end Go.Proofs.YtjkokbijnaodnaaGreat

namespace Go.Proofs.YtjkokbijnaodnaaGreat
open Go.RowKit

abbrev Rd3 := RdR Rd2

abbrev Ow3 := OwR 25 Ow2

theorem st3 : StR Rd3 := RdR.st st2

theorem ok3 : OwOk Ow3 := OwR.ok ok2

theorem Ow3.rd {w : World} {v : Value} {L : List (List (List Int))} {F : List Nat} (h : Ow3 w v L F) : Rd3 w v L := OwR.rd (fun _ _ _ _ h => Ow2.rd h) h

theorem toIntSSSC : ToC 43 Rd3 Ow3 (szR (szR lenI)) := toIntSSSD toIntSSC st2 ok2 (OwR.nil 64 (OwI .i64 3))

theorem eqIntSSSC : EqC 57 Rd3 (szR (szR lenI)) := eqIntSSSD eqIntSSC st2

theorem szIntSSSC : SzC 34 (RdZ (RdR (RdZ (RdR (RdZ (RdI .i64)))))) (szR (szR lenI)) := szIntSSSD szIntSSC

end Go.Proofs.YtjkokbijnaodnaaGreat

namespace Go.Proofs.YtjkokbijnaodnaaGreat
open Go.RowKit

def RdCo (w : World) (u : Value) (X : List (List (List Int))) : Prop := ∃ v, u = .agg #[v] ∧ Rd3 w v X
theorem RdCo.st : StR RdCo := fun _ _ _ _ ⟨v, e, h⟩ g => ⟨v, e, st3 _ _ _ _ h g⟩
def szCo (X : List (List (List Int))) : Nat := szR (szR lenI) X
def cntCo (X : List (List (List Int))) : Nat := cntR (cntR lenI) X
def mkCo (X : List (List (List Int))) (k : Int) : List (List (List Int)) := mkR (mkR mkI lenI) (cntR lenI) X k

def OwCo (w : World) (u : Value) (X : List (List (List Int))) (F : List Nat) : Prop := ∃ v, u = .agg #[v] ∧ Ow3 w v X F
theorem OwCo.rd {w : World} {u : Value} {X : List (List (List Int))} {F : List Nat} (h : OwCo w u X F) : RdCo w u X := by obtain ⟨v, e, h⟩ := h; exact ⟨v, e, Ow3.rd h⟩
theorem OwCo.same {w w' : World} {u : Value} {X : List (List (List Int))} {F : List Nat} (h : OwCo w u X F) (hs : ∀ g ∈ F, w'.heap[g]? = w.heap[g]?) : OwCo w' u X F := by obtain ⟨v, e, h⟩ := h; exact ⟨v, e, ok3.same _ _ _ _ _ h hs⟩
theorem OwCo.lt {w : World} {u : Value} {X : List (List (List Int))} {F : List Nat} (h : OwCo w u X F) : ∀ g ∈ F, g < w.heap.size := by obtain ⟨v, _, h⟩ := h; exact ok3.lt _ _ _ _ h
theorem OwCo.wr {w w' : World} {u : Value} {X : List (List (List Int))} {F G : List Nat} (h : OwCo w u X F) (g : Wr G w w') (hd : ∀ x ∈ F, x ∉ G) : OwCo w' u X F := h.same (fun x hx => g.block x (h.lt x hx) (hd x hx))
theorem OwCo.keep {w w' : World} {u : Value} {X : List (List (List Int))} {F : List Nat} (h : OwCo w u X F) (g : w.grownBy w' none) : OwCo w' u X F := h.wr (Wr.ofNone (F := []) g) (fun x _ => by simp)

set_option maxHeartbeats 1600000 in
theorem toCoefsC : ToC 19 RdCo OwCo szCo := by
  rintro w u X ⟨v, rfl, hv⟩ hs
  obtain ⟨ao, cap, rfl, _⟩ := id hv
  obtain ⟨n, HN⟩ : ∃ n, Hid (X.length = n) := ⟨_, rfl⟩
  have HV := hide hv
  rw [unhide HN] at HV ⊢
  clear hv
  obtain ⟨W3, hW3⟩ : ∃ W3, (((w.alloc (.cells #[.slice ao n cap] 28)).alloc (.cells #[.slice none 0 0] 38)).alloc (.cells #[.slice none 0 0] 38)) = W3 := ⟨_, rfl⟩
  have G0 : w.grownBy W3 none := by rw [← hW3]; exact grown_alloc (grown_alloc (grown_alloc (World.grownBy.refl _ _) _) _) _
  have b1 : W3.heap[w.heap.size + 1]? = some (.cells #[.slice none 0 0] 38 (0, 0)) := by
    rw [← hW3, Below.heap_alloc _ _ _ (by simp)]
    have := heap_alloc_new (w.alloc (.cells #[.slice ao n cap] 28)) (.cells #[.slice none 0 0] 38)
    simpa using this
  have b2 : W3.heap[w.heap.size + 1 + 1]? = some (.cells #[.slice none 0 0] 38 (0, 0)) := by
    rw [← hW3]
    have := heap_alloc_new ((w.alloc (.cells #[.slice ao n cap] 28)).alloc (.cells #[.slice none 0 0] 38)) (.cells #[.slice none 0 0] 38)
    simpa using this
  have hsz : W3.heap.size = w.heap.size + 3 := by rw [← hW3]; simp
  have HT := hide (toIntSSSC W3 _ X (st3 _ _ _ _ (unhide HV) G0) hs)
  have HW := hide hW3
  have B1 := hide b1
  have B2 := hide b2
  have HSZ := hide hsz
  have HG0 := hide G0
  clear hW3 b1 b2 hsz G0 HV
  go_enter Tryz.func19, Tryz.ntmps19
  go_wp2_with fail
  rw [unhide HW]
  refine (unhide HT).mono ?_
  rintro e w1 ⟨u1, F, rfl, p1, n1, l1, g1⟩
  obtain ⟨uo, uc, rfl⟩ := p1.form
  obtain ⟨m, HM⟩ : ∃ m, Hid (X.length = m) := ⟨_, rfl⟩
  rw [unhide HM] at p1 ⊢
  have hz := unhide HSZ
  have e1 := (g1.block (w.heap.size + 1) (by omega) (by simp)).trans (unhide B1)
  have e2 := (g1.block (w.heap.size + 1 + 1) (by omega) (by simp)).trans (unhide B2)
  have c0 : w1.cell? ⟨w.heap.size + 1 + 1, 0, none⟩ = some (.slice none 0 0) := by rw [cell_of_row w1 _ 0 _ _ (0, 0) e2]; rfl
  have f0 : w1.frozen? ⟨w.heap.size + 1 + 1, 0, none⟩ = false := frozen_of_row w1 _ 0 _ _ e2
  have d0 : w1.cell? ⟨w.heap.size + 1, 0, none⟩ = some (.slice none 0 0) := by rw [cell_of_row w1 _ 0 _ _ (0, 0) e1]; rfl
  have k0 : w1.frozen? ⟨w.heap.size + 1, 0, none⟩ = false := frozen_of_row w1 _ 0 _ _ e1
  have GS1 := grown_set w1 (w.heap.size + 1 + 1) 0 (.slice uo m uc)
  have GS2 := grown_set (w1.setCell ⟨w.heap.size + 1 + 1, 0, none⟩ (.slice uo m uc)) (w.heap.size + 1) 0 (.slice uo m uc)
  have HF : Hid (OwCo ((w1.setCell ⟨w.heap.size + 1 + 1, 0, none⟩ (.slice uo m uc)).setCell ⟨w.heap.size + 1, 0, none⟩ (.slice uo m uc)) (.agg #[.slice uo m uc]) X F ∧ F.Nodup ∧ (∀ g ∈ F, w.heap.size ≤ g) ∧ w.grownBy ((w1.setCell ⟨w.heap.size + 1 + 1, 0, none⟩ (.slice uo m uc)).setCell ⟨w.heap.size + 1, 0, none⟩ (.slice uo m uc)) none) := by
    have hl : ∀ x ∈ F, w.heap.size + 3 ≤ x := fun x hx => by have := l1 x hx; omega
    refine ⟨⟨_, rfl, ?_⟩, n1, fun g hg => by have := hl g hg; omega, ?_⟩
    · have p2 := ok3.wr p1 (Wr.ofRow (F := [w.heap.size + 1 + 1]) GS1 (fun g e => by have := Option.some.inj e; simp [this])) (fun x hx e => by simp at e; have := hl x hx; omega)
      exact ok3.wr p2 (Wr.ofRow (F := [w.heap.size + 1]) GS2 (fun g e => by have := Option.some.inj e; simp [this])) (fun x hx e => by simp at e; have := hl x hx; omega)
    · exact grown_new (grown_new (grown_trans (unhide HG0) g1) GS1 (fun k e => by have := Option.some.inj e; omega)) GS2 (fun k e => by have := Option.some.inj e; omega)
  have hcc : ((w1.setCell ⟨w.heap.size + 1 + 1, 0, none⟩ (.slice uo m uc)).setCell ⟨w.heap.size + 1, 0, none⟩ (.slice uo m uc)).cell? ⟨w.heap.size + 1, 0, none⟩ = some (.slice uo m uc) := by
    have h1 := (GS1.block (w.heap.size + 1) (Array.getElem?_eq_some_iff.1 e1).1 (by simp)).trans e1
    rw [cell_of_row _ _ 0 _ _ (0, 0) (heap_setCell_same _ (w.heap.size + 1) 0 _ _ _ h1)]
    rfl
  have HCC := hide hcc
  clear HW hz HSZ B1 B2 HG0 p1 n1 l1 g1 GS1 GS2 HT e1 e2 hcc
  go_wp2
  refine bodyPost_ret (v := .agg #[.slice uo m uc]) (by have hcc := unhide HCC; simp [results, Tryz.results19, go_sem, hcc]) rfl ?_
  obtain ⟨h1, h2, h3, h4⟩ := unhide HF
  exact ⟨_, F, rfl, h1, h2, h3, h4⟩

set_option maxHeartbeats 800000 in
theorem eqCoefsC : EqC 29 RdCo szCo := by
  rintro w u u' X ⟨v, rfl, hv⟩ ⟨v', rfl, hv'⟩ hs
  obtain ⟨ao, cap, rfl, _⟩ := id hv
  obtain ⟨bo, cap', rfl, _⟩ := id hv'
  obtain ⟨n, HN⟩ : ∃ n, Hid (X.length = n) := ⟨_, rfl⟩
  rw [unhide HN] at hv hv' ⊢
  have G : w.grownBy ((w.alloc (.cells #[.slice ao n cap] 38)).alloc (.cells #[.slice bo n cap'] 38)) none := grown_alloc (grown_alloc (World.grownBy.refl _ _) _) _
  have HT := hide (eqIntSSSC _ _ _ X (st3 _ _ _ _ hv G) (st3 _ _ _ _ hv' G) hs)
  have HG := hide G
  clear hv hv' G
  go_enter Tryz.func29, Tryz.ntmps29
  go_wp2_with fail
  refine (unhide HT).mono ?_
  rintro e w1 ⟨rfl, g1⟩
  have HF := hide (grown_trans (unhide HG) g1)
  clear g1 HT
  go_wp2
  go_ret
  exact ⟨rfl, unhide HF⟩

def RdCz (w : World) (u : Value) (X : List (List (List Int))) : Prop := ∃ v, u = .agg #[v] ∧ RdZ (RdR (RdZ (RdR (RdZ (RdI .i64))))) w v X
theorem RdR.imp {α : Type} {P Q : World → Value → α → Prop} (h : ∀ w u a, P w u a → Q w u a) {w : World} {v : Value} {L : List α} (hp : RdR P w v L) : RdR Q w v L := by
  obtain ⟨ao, cap, e, hel⟩ := hp
  exact ⟨ao, cap, e, fun i hi => by obtain ⟨b, off, u, e1, c, p⟩ := hel i hi; exact ⟨b, off, u, e1, c, h _ _ _ p⟩⟩
theorem RdCz.rd {w : World} {u : Value} {X : List (List (List Int))} (h : RdCz w u X) : RdCo w u X := by
  obtain ⟨v, e, h⟩ := h
  exact ⟨v, e, RdR.imp (fun _ _ _ h => RdR.imp (fun _ _ _ h => h.1) h.1) h.1⟩

set_option maxHeartbeats 800000 in
theorem szCoefsC (w : World) (u : Value) (X : List (List (List Int))) (left : Nat) (hq : RdCz w u X) (hl : left ≤ 1048576) (r : Int) (HR : Hid ((if szCo X ≤ left then (left : Int) - szCo X else -1) = r)) :
    Calls Tryz.prog 11 #[u, .int .i64 left] w fun e w' => e = .returned (.int .i64 r) ∧ w.grownBy w' none := by
  obtain ⟨v, rfl, hv⟩ := hq
  obtain ⟨ao, cap, rfl, _⟩ := id hv.1
  obtain ⟨n, HN⟩ : ∃ n, Hid (X.length = n) := ⟨_, rfl⟩
  rw [unhide HN] at hv ⊢
  have G : w.grownBy (w.alloc (.cells #[.slice ao n cap] 28)) none := grown_alloc (World.grownBy.refl _ _) _
  have hst : StR (RdZ (RdR (RdZ (RdR (RdZ (RdI .i64)))))) := by
    have s1 : StR (RdZ (RdI .i64)) := fun _ _ _ _ h g => ⟨RdI.st .i64 _ _ _ _ h.1 g, h.2⟩
    have s2 : StR (RdZ (RdR (RdZ (RdI .i64)))) := fun _ _ _ _ h g => ⟨RdR.st s1 _ _ _ _ h.1 g, h.2⟩
    exact fun _ _ _ _ h g => ⟨RdR.st s2 _ _ _ _ h.1 g, h.2⟩
  have HT := hide (szIntSSSC _ _ X left (hst _ _ _ _ hv G) hl)
  have e : szR (szR lenI) X = szCo X := rfl
  rw [e, unhide HR] at HT
  have HG := hide G
  clear hv G hst e
  by_cases hr : r < 0
  · have hm : r = -1 := by
      have := unhide HR
      split at this <;> omega
    subst hm
    go_enter Tryz.func11, Tryz.ntmps11
    go_wp2_with fail
    refine (unhide HT).mono ?_
    rintro e w1 ⟨rfl, rfl⟩
    go_wp2
    go_ret
    exact ⟨rfl, unhide HG⟩
  · have hd : decide (r < 0) = false := decide_eq_false hr
    go_enter Tryz.func11, Tryz.ntmps11
    go_wp2_with fail
    refine (unhide HT).mono ?_
    rintro e w1 ⟨rfl, rfl⟩
    go_wp2
    go_ret
    exact ⟨rfl, unhide HG⟩

end Go.Proofs.YtjkokbijnaodnaaGreat

namespace Go.Proofs.YtjkokbijnaodnaaGreat
open Go.RowKit Go.ChangeShapes Go.WideShapes Go.Deep

def OpenC {α : Type} (t : TypeId) (Q : World → Value → α → Prop) : Prop :=
  ∀ (H : Type) (enc : TypeId × Value → H) (W : World) (base : Nat) (spare : Nat → Bool) (held : Bool) (fuel : Nat) (u : Value) (x : DataW H × List MemPlace), DataW.trod enc Tryz.prog W base spare held fuel t [u] = some x → ∃ a, Q W u a

theorem open_row {α : Type} {Q : World → Value → α → Prop} {t e : TypeId} (ht : Tryz.prog.underlying t = some (.slice e)) (hc : Tryz.prog.cellsOf e = 1) (he : OpenC e Q) : OpenC t (RdZ (RdR Q)) := by
  intro H enc W base spare held fuel u x h
  rcases open_slice1 ht hc h with ⟨hcs, _⟩ | ⟨a, len, cap, m, n, V, D, Pl, hcs, _, hl, hm, hmm, _, hall⟩
  · simp at hcs
    subst hcs
    exact ⟨[], ⟨none, 0, rfl, fun i hi => absurd hi (by simp)⟩, by unfold maxLen; simp⟩
  · simp at hcs
    subst hcs
    have hlm : len ≤ m := by rw [hmm]; split <;> omega
    obtain ⟨b, off, spot⟩ := a
    have hex : ∀ i, i < len → ∃ q, Q W (V i) q := fun i hi => he H enc W base spare held n (V i) _ (hall i (by omega)).2
    rcases Nat.eq_zero_or_pos len with h0 | h0
    · subst h0
      exact ⟨[], ⟨some ⟨b, off, spot⟩, cap, rfl, fun i hi => absurd hi (by simp)⟩, by unfold maxLen; simp⟩
    · have hspot : spot = none := by simpa [Addr.add] using World.cell?_spot (hall 0 (by omega)).1
      subst hspot
      obtain ⟨q0, _⟩ := hex 0 h0
      have hch : ∀ i, ∃ q : α, i < len → Q W (V i) q := fun i => by
        by_cases hi : i < len
        · obtain ⟨q, hq⟩ := hex i hi; exact ⟨q, fun _ => hq⟩
        · exact ⟨q0, fun h => absurd h hi⟩
      obtain ⟨q, hq⟩ := Classical.axiomOfChoice hch
      refine ⟨(List.range len).map q, ⟨some ⟨b, off, none⟩, cap, by simp, fun i hi => ?_⟩, by simp; omega⟩
      have hi' : i < len := by simpa using hi
      refine ⟨b, off, V i, rfl, ?_, ?_⟩
      · have := (hall i (by omega)).1
        rw [Addr.add_lit] at this
        exact this
      · simp; exact hq i hi'

theorem open_intRow {t : TypeId} (ht : Tryz.prog.underlying t = some (.slice 3)) : OpenC t (RdZ (RdI .i64)) := by
  intro H enc W base spare held fuel u x h
  rcases open_ints ht Tryz.underlying3 (by kernel_rfl) h with ⟨hcs, _⟩ | ⟨a, l, c, zs, hcs, _, hl, hm, hz, _, hcell, _⟩
  · simp at hcs
    subst hcs
    exact ⟨[], ⟨none, 0, rfl, rfl, fun i hi => absurd hi (by simp)⟩, by unfold maxLen; simp⟩
  · simp at hcs
    subst hcs
    have hzl : l ≤ zs.length := by rw [hz]; split <;> omega
    have hzt : (zs.take l).length = l := by simp; omega
    refine ⟨zs.take l, ⟨some a, c, by rw [hzt], ?_⟩, by rw [hzt]; omega⟩
    rw [hzt]
    refine ⟨hzt, fun i hi => ?_⟩
    obtain ⟨b, off, spot⟩ := a
    have hc0 := hcell i (by omega)
    have hspot : spot = none := by simpa [Addr.add] using World.cell?_spot (hcell 0 (by omega))
    subst hspot
    refine ⟨b, off, rfl, ?_⟩
    rw [Addr.add_lit] at hc0
    have e : (zs.take l).getD i 0 = zs.getD i 0 := by simp [hi]
    rw [e]
    exact hc0

end Go.Proofs.YtjkokbijnaodnaaGreat

namespace Go.Proofs.YtjkokbijnaodnaaGreat
open Go.RowKit Go.ChangeShapes Go.WideShapes Go.Deep

theorem open_ints2 : OpenC 25 (RdZ (RdR (RdZ (RdI .i64)))) := open_row Tryz.underlying25 (by kernel_rfl) (open_intRow Tryz.underlying64)

theorem open_ints3 : OpenC 26 (RdZ (RdR (RdZ (RdR (RdZ (RdI .i64)))))) := open_row Tryz.underlying26 (by kernel_rfl) open_ints2

set_option maxRecDepth 100000 in
theorem coefs_open {H : Type} {enc : TypeId × Value → H} {W : World} {base b0 : Nat} {spare : Nat → Bool} {held : Bool} {r : Reach} {v : Value} {d : DataW H} {ps : List MemPlace}
    (hv : Value.okWide Tryz.prog W r b0 28 v) (h : DataW.Trod enc Tryz.prog W base spare held 28 v d ps) : ∃ X, RdCz W v X := by
  obtain ⟨cs, rfl, hsz⟩ := okWide_struct Tryz.underlying28 hv
  have hc1 : cs.size = 1 := by rw [hsz]; kernel_rfl
  have cl : Tryz.prog.cellsOf 26 = 1 := by kernel_rfl
  obtain ⟨l⟩ := cs
  match l, hc1 with
  | [a0], _ =>
    obtain ⟨fuel, hf⟩ := h
    obtain ⟨xs, n, _, _, hl, hlen, hfld⟩ := DataW.trod_struct Tryz.underlying28 hf
    obtain ⟨y0, rfl⟩ : ∃ y0, xs = [y0] := by
      match xs, hlen with
      | [y0], _ => exact ⟨y0, rfl⟩
    have g0 := hfld 0 _ rfl
    simp [cl, Value.cells] at g0
    obtain ⟨X, hX⟩ := open_ints3 H enc W base spare held n a0 y0 g0
    exact ⟨X, a0, rfl, hX⟩

end Go.Proofs.YtjkokbijnaodnaaGreat

namespace Go.Proofs.YtjkokbijnaodnaaGreat
open Go.RowKit

/-- A list of blocks in which one part is another one. -/
theorem parts_set {B : List Nat} {Fs : List (List Nat)} (h : (B ++ Fs.flatten).Nodup) {i : Nat} (hi : i < Fs.length) {Fi : List Nat} (hn : Fi.Nodup) (hd : ∀ x ∈ Fi, x ∈ Fs.getD i [] ∨ x ∉ B ++ Fs.flatten) :
    (B ++ (Fs.set i Fi).flatten).Nodup ∧ ∀ x ∈ B ++ (Fs.set i Fi).flatten, x ∈ B ++ Fs.flatten ∨ x ∈ Fi := by
  have hp := List.nodup_append.1 h
  have hmem : ∀ x, x ∈ (Fs.set i Fi).flatten → x ∈ Fs.flatten ∨ x ∈ Fi := by
    intro x hx
    obtain ⟨l, hl, hxl⟩ := List.mem_flatten.1 hx
    rcases List.mem_or_eq_of_mem_set hl with hl | rfl
    · exact .inl (List.mem_flatten.2 ⟨l, hl, hxl⟩)
    · exact .inr hxl
  have hdj : ∀ j, j < Fs.length → j ≠ i → ∀ x ∈ Fi, x ∉ Fs.getD j [] := fun j hj hji x hx hx2 => by
    rcases hd x hx with h5 | h5
    · exact flat_apart hp.2.1 hi hj (fun e => hji e.symm) x h5 hx2
    · exact h5 (by simp [flat_in hj x hx2])
  refine ⟨List.nodup_append.2 ⟨hp.1, List.pairwise_flatten.2 ⟨fun l hl => ?_, ?_⟩, fun a ha b hb => ?_⟩, fun x hx => ?_⟩
  · rcases List.mem_or_eq_of_mem_set hl with hl | rfl
    · exact (List.pairwise_flatten.1 hp.2.1).1 l hl
    · exact hn
  · rw [List.pairwise_iff_getElem]
    intro p q hp1 hq1 hpq x hx y hy
    rw [List.length_set] at hp1 hq1
    rintro rfl
    have hin : ∀ r (hr : r < Fs.length), x ∈ (Fs.set i Fi)[r]'(by simpa using hr) → (r = i ∧ x ∈ Fi) ∨ (r ≠ i ∧ x ∈ Fs.getD r []) := by
      intro r hr hxr
      by_cases e9 : i = r
      · subst e9; simp at hxr; exact .inl ⟨rfl, hxr⟩
      · rw [List.getElem_set_ne e9] at hxr
        exact .inr ⟨fun e => e9 e.symm, by simpa [hr] using hxr⟩
    rcases hin p hp1 hx with ⟨e1, x1⟩ | ⟨e1, x1⟩ <;> rcases hin q hq1 hy with ⟨e2, x2⟩ | ⟨e2, x2⟩
    · omega
    · exact hdj q hq1 e2 x x1 x2
    · exact hdj p hp1 e1 x x2 x1
    · exact flat_apart hp.2.1 hp1 hq1 (by omega) x x1 x2
  · rintro rfl
    rcases hmem a hb with h5 | h5
    · exact hp.2.2 a ha a h5 rfl
    · rcases hd a h5 with h6 | h6
      · exact hp.2.2 a ha a (flat_in hi a h6) rfl
      · exact h6 (by simp [ha])
  · rcases List.mem_append.1 hx with hx | hx
    · exact .inl (by simp [hx])
    · rcases hmem x hx with h5 | h5
      · exact .inl (by simp [h5])
      · exact .inr h5

/-- An element of a row that is owned becomes another value, which may reach what the old one reached. -/
theorem OwR.swap {α : Type} {e : TypeId} {P : World → Value → α → List Nat → Prop} {w : World} {v : Value} {L : List α} {F : List Nat} (hP : OwOk P) (h : OwR e P w v L F) (hF : F.Nodup) (i : Nat) (hi : i < L.length) : ∃ g cap u Fi, v = .slice (some ⟨g, 0, none⟩) L.length cap ∧ g ∈ F ∧ g ∉ Fi ∧ w.cell? ⟨g, i, none⟩ = some u ∧ (∀ w1, Wr Fi w w1 → w1.frozen? ⟨g, i, none⟩ = false ∧ w1.cell? ⟨g, i, none⟩ = some u) ∧ P w u L[i] Fi ∧ Fi.Nodup ∧ (∀ x ∈ Fi, x ∈ F) ∧
    ∀ w1 u' a' Fi', Wr Fi w w1 → P w1 u' a' Fi' → Fi'.Nodup → (∀ x ∈ Fi', x ∈ Fi ∨ x ∉ F) → ∃ F', OwR e P (w1.setCell ⟨g, i, none⟩ u') v (L.set i a') F' ∧ F'.Nodup ∧ ∀ x ∈ F', x ∈ F ∨ x ∈ Fi' := by
  obtain ⟨us, Fs, h1, h2, h3, h4, rfl⟩ := h
  obtain ⟨ao, cap, rfl⟩ := own_form h3
  obtain ⟨g, rfl, _, _⟩ := own_at h3 (by omega)
  have hn := List.nodup_append.1 hF
  have hgb : g ∈ blk (Value.slice (some ⟨g, 0, none⟩) L.length cap) := mem_blk.2 rfl
  have hgi : ∀ j, j < L.length → g ∉ Fs.getD j [] := fun j hj hx => hn.2.2 g hgb g (flat_in (by omega) g hx) rfl
  have hil : i < Fs.length := by omega
  have hown : ∀ w1, Wr (Fs.getD i []) w w1 → w1.ownsRow 0 e 1 (.slice (some ⟨g, 0, none⟩) L.length cap) L.length us := fun w1 hw => own_sameAt h3 (fun x hx => hw.block x (h3.lt x hx).2 (by have e9 : g = x := Option.some.inj hx; subst e9; exact hgi i hi))
  have hce : ∀ w1, Wr (Fs.getD i []) w w1 → w1.cell? ⟨g, i, none⟩ = some (us.getD i (.slice none 0 0)) := fun w1 hw => by
    rw [(hown w1 hw).cellAt i (by omega)]
    simp [show i < us.length by omega]
  refine ⟨g, cap, us.getD i (.slice none 0 0), Fs.getD i [], rfl, by simp [hgb], hgi i hi, hce w (Wr.refl _ _), fun w1 hw => ⟨(hown w1 hw).frozenAt i, hce w1 hw⟩, h4 i hi, ?_, fun x hx => by simp [flat_in hil x hx], fun w1 u' a' Fi' hw hp hn' hd => ?_⟩
  · exact (List.pairwise_flatten.1 hn.2.1).1 (Fs.getD i []) (by rw [List.getD_eq_getElem?_getD, List.getElem?_eq_getElem hil]; simp)
  · obtain ⟨p1, p2⟩ := parts_set hF hil hn' hd
    have st := ((hown w1 hw).stored i u')
    have hgF : g ∉ Fi' := fun hx => by
      rcases hd g hx with h5 | h5
      · exact hgi i hi h5
      · exact h5 (by simp [hgb])
    have hw2 : Wr [g] w1 (w1.setCell ⟨g, i, none⟩ u') := Wr.ofRow st.2 (fun x hx => by have := Option.some.inj hx; simp [this])
    refine ⟨_, ⟨us.set i u', Fs.set i Fi', by simp [h1], by simp [h2], by rw [List.length_set]; exact st.1, fun j hj => ?_, rfl⟩, p1, p2⟩
    rw [List.length_set] at hj
    by_cases e9 : i = j
    · subst e9
      have eu : (us.set i u').getD i (.slice none 0 0) = u' := by simp [show i < us.length by omega]
      have ef : (Fs.set i Fi').getD i [] = Fi' := by simp [hil]
      rw [eu, ef]
      simp only [List.getElem_set_self]
      exact hP.wr hp hw2 (fun x hx e => by simp at e; subst e; exact hgF hx)
    · have eu : (us.set i u').getD j (.slice none 0 0) = us.getD j (.slice none 0 0) := by simp [e9]
      have ef : (Fs.set i Fi').getD j [] = Fs.getD j [] := by simp [e9]
      rw [eu, ef, List.getElem_set_ne e9]
      exact hP.wr (hP.wr (h4 j hj) hw (flat_apart hn.2.1 (by omega) (by omega) (fun e => e9 e.symm))) hw2 (fun x hx e => by simp at e; subst e; exact hgi j hj hx)

/-- What is read of a row of structs: each has sz cells. -/
def RdG {α : Type} (sz : Nat) (P : World → (Nat → Value) → α → Prop) (w : World) (v : Value) (L : List α) : Prop :=
  ∃ ao cap, v = .slice ao L.length cap ∧ ∀ i (h : i < L.length), ∃ b off c, ao = some ⟨b, off, none⟩ ∧ (∀ j, j < sz → w.cell? ⟨b, off + i * sz + j, none⟩ = some (c j)) ∧ P w c L[i]
def StG {α : Type} (P : World → (Nat → Value) → α → Prop) : Prop := ∀ w w' c a, P w c a → w.grownBy w' none → P w' c a
theorem RdG.st {α : Type} {sz : Nat} {P : World → (Nat → Value) → α → Prop} (hP : StG P) : StR (RdG sz P) := fun _ _ _ _ ⟨ao, cap, e, h⟩ g =>
  ⟨ao, cap, e, fun i hi => by obtain ⟨b, off, c, e1, h1, h2⟩ := h i hi; exact ⟨b, off, c, e1, fun j hj => g.cell (h1 j hj) (by simp), hP _ _ _ _ h2 g⟩⟩

/-- Who owns a row of structs. -/
def OwG {α : Type} (e : TypeId) (sz : Nat) (P : World → (Nat → Value) → α → List Nat → Prop) (w : World) (v : Value) (L : List α) (F : List Nat) : Prop :=
  ∃ (U : Nat → Nat → Value) (Fs : List (List Nat)), Fs.length = L.length ∧ w.ownsRow 0 e sz v L.length (rowsK L.length sz U) ∧ (∀ i (h : i < L.length), P w (U i) L[i] (Fs.getD i [])) ∧ F = blk v ++ Fs.flatten
structure OkG {α : Type} (P : World → (Nat → Value) → α → List Nat → Prop) : Prop where
  same : ∀ w w' c a F, P w c a F → (∀ g ∈ F, w'.heap[g]? = w.heap[g]?) → P w' c a F
  lt : ∀ w c a F, P w c a F → ∀ g ∈ F, g < w.heap.size

section
variable {α : Type} {e : TypeId} {sz : Nat} {P : World → (Nat → Value) → α → List Nat → Prop} {w : World} {v : Value} {L : List α} {F : List Nat}
theorem OkG.wr (hP : OkG P) {w w' : World} {c : Nat → Value} {a : α} {F G : List Nat} (h : P w c a F) (g : Wr G w w') (hd : ∀ x ∈ F, x ∉ G) : P w' c a F :=
  hP.same w w' c a F h (fun x hx => g.block x (hP.lt w c a F h x hx) (hd x hx))
theorem OkG.keep (hP : OkG P) {w w' : World} {c : Nat → Value} {a : α} {F : List Nat} (h : P w c a F) (g : w.grownBy w' none) : P w' c a F :=
  hP.wr h (Wr.ofNone (F := []) g) (fun x _ => by simp)
theorem OwG.ok (hP : OkG P) : OwOk (OwG e sz P) := by
  refine ⟨?_, ?_, ?_⟩
  · rintro w w' u a F ⟨U, Fs, h2, h3, h4, rfl⟩ hs
    refine ⟨U, Fs, h2, own_sameAt h3 (fun g hg => hs g (by simp [mem_blk.2 hg])), fun i hi => ?_, rfl⟩
    exact hP.same w w' _ _ _ (h4 i hi) (fun g hg => hs g (by have := flat_in (by omega) g hg; simp [this]))
  · rintro w u a F ⟨U, Fs, h2, h3, h4, rfl⟩ g hg
    rcases List.mem_append.1 hg with hg | hg
    · exact (h3.lt g (mem_blk.1 hg)).2
    · obtain ⟨l, hl, hgl⟩ := List.mem_flatten.1 hg
      obtain ⟨i, hi, rfl⟩ := List.mem_iff_getElem.1 hl
      exact hP.lt w _ _ _ (h4 i (by omega)) g (by simpa [hi] using hgl)
  · rintro w u a F ⟨U, Fs, h2, h3, h4, rfl⟩
    obtain ⟨ao, cap, rfl⟩ := own_form h3
    exact ⟨_, _, _, rfl⟩
theorem OwG.form (h : OwG e sz P w v L F) : ∃ ao cap, v = .slice ao L.length cap := by
  obtain ⟨U, Fs, _, h3, _⟩ := h
  exact own_form h3
theorem OwG.nil (e : TypeId) (sz : Nat) (P : World → (Nat → Value) → α → List Nat → Prop) (w : World) : OwG e sz P w (.slice none 0 0) [] [] := ⟨fun _ _ => .slice none 0 0, [], rfl, ⟨by rw [rowsK_len], .inl ⟨rfl, rfl⟩⟩, fun i hi => absurd hi (by simp), rfl⟩
theorem cellG {g cap n : Nat} {U : Nat → Nat → Value} {base : Nat} (h : w.ownsRow base e sz (.slice (some ⟨g, 0, none⟩) n cap) n (rowsK n sz U)) (i j : Nat) (hi : i < n) (hj : j < sz) : w.cell? ⟨g, i * sz + j, none⟩ = some (U i j) := by
  have hlt : i * sz + j < n * sz := Nat.lt_of_lt_of_le (Nat.add_lt_add_left hj _) (by rw [← Nat.succ_mul]; exact Nat.mul_le_mul_right _ hi)
  rw [h.cellAt _ hlt]
  exact rowsK_get n sz U i j hi hj
theorem OwG.rd {Q : World → (Nat → Value) → α → Prop} (hPQ : ∀ w c a F, P w c a F → Q w c a) (h : OwG e sz P w v L F) : RdG sz Q w v L := by
  obtain ⟨U, Fs, h2, h3, h4, rfl⟩ := h
  obtain ⟨ao, cap, rfl⟩ := own_form h3
  refine ⟨ao, cap, rfl, fun i hi => ?_⟩
  obtain ⟨g, rfl, _, _⟩ := own_at h3 (by omega)
  exact ⟨g, 0, U i, rfl, fun j hj => by rw [Nat.zero_add]; exact cellG h3 i j hi hj, hPQ _ _ _ _ (h4 i hi)⟩
/-- An element, and what becomes of the row when what the element reaches becomes another thing. -/
theorem OwG.turn (hP : OkG P) (h : OwG e sz P w v L F) (hF : F.Nodup) (i : Nat) (hi : i < L.length) : ∃ g cap c Fi, v = .slice (some ⟨g, 0, none⟩) L.length cap ∧ g ∈ F ∧ g ∉ Fi ∧ (∀ j, j < sz → w.cell? ⟨g, i * sz + j, none⟩ = some (c j)) ∧ (∀ j, w.frozen? ⟨g, j, none⟩ = false) ∧ P w c L[i] Fi ∧ Fi.Nodup ∧ (∀ x ∈ Fi, x ∈ F) ∧
    (∀ w' a' Fi', Wr Fi w w' → P w' c a' Fi' → Fi'.Nodup → (∀ x ∈ Fi', x ∈ Fi ∨ x ∉ F) → ∃ F', OwG e sz P w' v (L.set i a') F' ∧ F'.Nodup ∧ ∀ x ∈ F', x ∈ F ∨ x ∈ Fi') ∧
    (∀ w' (c' : Nat → Value) a' Fi', Wr (g :: Fi) w w' → (∀ U, w.ownsRow 0 e sz v L.length (rowsK L.length sz U) → w'.ownsRow 0 e sz v L.length (rowsK L.length sz (fun p q => if p = i then c' q else U p q))) → P w' c' a' Fi' → Fi'.Nodup → (∀ x ∈ Fi', x ∈ Fi ∨ x ∉ F) → ∃ F', OwG e sz P w' v (L.set i a') F' ∧ F'.Nodup ∧ ∀ x ∈ F', x ∈ F ∨ x ∈ Fi') := by
  obtain ⟨U, Fs, h2, h3, h4, rfl⟩ := h
  obtain ⟨ao, cap, rfl⟩ := own_form h3
  obtain ⟨g, rfl, _, _⟩ := own_at h3 (by omega)
  have hn := List.nodup_append.1 hF
  have hgb : g ∈ blk (Value.slice (some ⟨g, 0, none⟩) L.length cap) := mem_blk.2 rfl
  have hgi : ∀ j, j < L.length → g ∉ Fs.getD j [] := fun j hj hx => hn.2.2 g hgb g (flat_in (by omega) g hx) rfl
  have hil : i < Fs.length := by omega
  refine ⟨g, cap, U i, Fs.getD i [], rfl, by simp [hgb], hgi i hi, fun j hj => cellG h3 i j hi hj, fun j => h3.frozenAt j, h4 i hi, ?_, fun x hx => by simp [flat_in hil x hx], fun w' a' Fi' hw hp hn' hd => ?_, fun w' c' a' Fi' hw ho hp hn' hd => ?_⟩
  · exact (List.pairwise_flatten.1 hn.2.1).1 (Fs.getD i []) (by rw [List.getD_eq_getElem?_getD, List.getElem?_eq_getElem hil]; simp)
  · obtain ⟨p1, p2⟩ := parts_set hF hil hn' hd
    refine ⟨_, ⟨U, Fs.set i Fi', by simp [h2], ?_, fun j hj => ?_, rfl⟩, p1, p2⟩
    · rw [List.length_set]
      exact own_sameAt h3 (fun x hx => hw.block x (h3.lt x hx).2 (by have e9 : g = x := Option.some.inj hx; subst e9; exact hgi i hi))
    · rw [List.length_set] at hj
      by_cases e9 : i = j
      · subst e9
        have ef : (Fs.set i Fi').getD i [] = Fi' := by simp [hil]
        rw [ef]
        simp only [List.getElem_set_self]
        exact hp
      · have ef : (Fs.set i Fi').getD j [] = Fs.getD j [] := by simp [e9]
        rw [ef, List.getElem_set_ne e9]
        exact hP.wr (h4 j hj) hw (flat_apart hn.2.1 (by omega) (by omega) (fun e => e9 e.symm))
  · obtain ⟨p1, p2⟩ := parts_set hF hil hn' hd
    refine ⟨_, ⟨_, Fs.set i Fi', by simp [h2], by rw [List.length_set]; exact ho U h3, fun j hj => ?_, rfl⟩, p1, p2⟩
    rw [List.length_set] at hj
    by_cases e9 : i = j
    · subst e9
      have ef : (Fs.set i Fi').getD i [] = Fi' := by simp [hil]
      rw [ef]
      simp only [List.getElem_set_self, if_true]
      exact hp
    · have ef : (Fs.set i Fi').getD j [] = Fs.getD j [] := by simp [e9]
      rw [ef, List.getElem_set_ne e9]
      have ec : (fun q => if j = i then c' q else U j q) = U j := by funext q; rw [if_neg (fun e => e9 e.symm)]
      rw [ec]
      exact hP.wr (h4 j hj) hw (fun x hx hy => by
        rcases List.mem_cons.1 hy with rfl | hy
        · exact hgi j hj hx
        · exact flat_apart hn.2.1 (by omega) (by omega) (fun e => e9 e.symm) x hx hy)
/-- An element, and what becomes of the row when it is written anew in its own blocks. -/
theorem OwG.at (hP : OkG P) (h : OwG e sz P w v L F) (hF : F.Nodup) (i : Nat) (hi : i < L.length) : ∃ g cap c Fi, v = .slice (some ⟨g, 0, none⟩) L.length cap ∧ g ∈ F ∧ g ∉ Fi ∧ (∀ w1, Wr Fi w w1 → (∀ j, j < sz → w1.cell? ⟨g, i * sz + j, none⟩ = some (c j)) ∧ (∀ j, w1.frozen? ⟨g, j, none⟩ = false)) ∧ P w c L[i] Fi ∧ Fi.Nodup ∧ (∀ x ∈ Fi, x ∈ F) ∧
    ∀ w1 w' (c' : Nat → Value) a', Wr Fi w w1 → Wr [g] w1 w' → (∀ U, w1.ownsRow 0 e sz v L.length (rowsK L.length sz U) → (∀ j, j < sz → U i j = c j) → w'.ownsRow 0 e sz v L.length (rowsK L.length sz (fun p q => if p = i then c' q else U p q))) → P w' c' a' Fi → OwG e sz P w' v (L.set i a') F := by
  obtain ⟨U, Fs, h2, h3, h4, rfl⟩ := h
  obtain ⟨ao, cap, rfl⟩ := own_form h3
  obtain ⟨g, rfl, _, _⟩ := own_at h3 (by omega)
  have hn := List.nodup_append.1 hF
  have hgb : g ∈ blk (Value.slice (some ⟨g, 0, none⟩) L.length cap) := mem_blk.2 rfl
  have hgi : ∀ j, j < L.length → g ∉ Fs.getD j [] := fun j hj hx => hn.2.2 g hgb g (flat_in (by omega) g hx) rfl
  have hil : i < Fs.length := by omega
  have hown : ∀ w1, Wr (Fs.getD i []) w w1 → w1.ownsRow 0 e sz (.slice (some ⟨g, 0, none⟩) L.length cap) L.length (rowsK L.length sz U) := fun w1 hw => own_sameAt h3 (fun x hx => hw.block x (h3.lt x hx).2 (by have e9 : g = x := Option.some.inj hx; subst e9; exact hgi i hi))
  refine ⟨g, cap, U i, Fs.getD i [], rfl, by simp [hgb], hgi i hi, fun w1 hw => ⟨fun j hj => cellG (hown w1 hw) i j hi hj, fun j => (hown w1 hw).frozenAt j⟩, h4 i hi, ?_, fun x hx => by simp [flat_in hil x hx], fun w1 w' c' a' hw hw2 ho hp => ?_⟩
  · exact (List.pairwise_flatten.1 hn.2.1).1 (Fs.getD i []) (by rw [List.getD_eq_getElem?_getD, List.getElem?_eq_getElem hil]; simp)
  · refine ⟨_, Fs, by simp [h2], by rw [List.length_set]; exact ho U (hown w1 hw) (fun _ _ => rfl), fun j hj => ?_, rfl⟩
    rw [List.length_set] at hj
    by_cases e9 : i = j
    · subst e9
      simp only [List.getElem_set_self, if_true]
      exact hp
    · rw [List.getElem_set_ne e9]
      have ec : (fun q => if j = i then c' q else U j q) = U j := by funext q; rw [if_neg (fun e => e9 e.symm)]
      rw [ec]
      exact hP.wr (hP.wr (h4 j hj) hw (flat_apart hn.2.1 (by omega) (by omega) (fun e => e9 e.symm))) hw2 (fun x hx hy => by simp at hy; subst hy; exact hgi j hj hx)
/-- A new row, of structs that reach nothing. -/
theorem OwG.made {z : α} {zc : Nat → Value} (hz : ∀ w, P w zc z []) {base n : Nat} (h : w.ownsRow base e sz v n (rowsK n sz (fun _ j => zc j))) : OwG e sz P w v (List.replicate n z) (blk v) := by
  refine ⟨fun _ j => zc j, List.replicate n [], by simp, by rw [List.length_replicate]; exact own_base h (Nat.zero_le _), fun i hi => ?_, ?_⟩
  · rw [List.length_replicate] at hi
    have e2 : (List.replicate n ([] : List Nat)).getD i [] = [] := by simp [hi]
    rw [e2, List.getElem_replicate]
    exact hz w
  · have : (List.replicate n ([] : List Nat)).flatten = [] := by simp
    rw [this, List.append_nil]
end

end Go.Proofs.YtjkokbijnaodnaaGreat

namespace Go.Proofs.YtjkokbijnaodnaaGreat
open Go.RowKit

structure Scn where
  cs : List Int
  fr : Int
  to : Int
  hi : Int
  lo : Int
def Scn.zero : Scn := ⟨[], 0, 0, 0, 0⟩
def scC (c : Nat → Value) (a : Scn) : Prop := c 1 = .int .i64 a.fr ∧ c 2 = .int .i64 a.to ∧ c 3 = .int .i64 a.hi ∧ c 4 = .int .i64 a.lo
def scV (v : Value) (a : Scn) : Value := .agg #[v, .int .i64 a.fr, .int .i64 a.to, .int .i64 a.hi, .int .i64 a.lo]
def szSc (a : Scn) : Nat := lenI a.cs
/-- A scan that is read, and one that is owned. -/
def RdSc (w : World) (u : Value) (a : Scn) : Prop := ∃ v, u = scV v a ∧ RdI .i64 w v a.cs
def OwSc (w : World) (u : Value) (a : Scn) (F : List Nat) : Prop := ∃ v, u = scV v a ∧ OwI .i64 3 w v a.cs F
theorem RdSc.st : StR RdSc := fun _ _ _ _ ⟨v, e, h⟩ g => ⟨v, e, RdI.st .i64 _ _ _ _ h g⟩
theorem OwSc.rd {w : World} {u : Value} {a : Scn} {F : List Nat} (h : OwSc w u a F) : RdSc w u a := by obtain ⟨v, e, h⟩ := h; exact ⟨v, e, h.rd⟩
/-- The same in a row. -/
def RdScE (w : World) (c : Nat → Value) (a : Scn) : Prop := scC c a ∧ RdI .i64 w (c 0) a.cs
def OwScE (w : World) (c : Nat → Value) (a : Scn) (F : List Nat) : Prop := scC c a ∧ OwI .i64 3 w (c 0) a.cs F
theorem RdScE.st : StG RdScE := fun _ _ _ _ ⟨e, h⟩ g => ⟨e, RdI.st .i64 _ _ _ _ h g⟩
theorem OwScE.ok : OkG OwScE := ⟨fun _ _ _ _ _ h hs => ⟨h.1, ok1.same _ _ _ _ _ h.2 hs⟩, fun _ _ _ _ h => ok1.lt _ _ _ _ h.2⟩
abbrev RdSs := RdG 5 RdScE
abbrev OwSs := OwG 77 5 OwScE
theorem RdSs.st : StR RdSs := RdG.st RdScE.st
theorem OwSs.ok : OwOk OwSs := OwG.ok OwScE.ok
theorem OwSs.rd {w : World} {v : Value} {L : List Scn} {F : List Nat} (h : OwSs w v L F) : RdSs w v L := OwG.rd (fun _ _ _ _ h => ⟨h.1, h.2.rd⟩) h

theorem scanCells {w : World} {g : Nat} {a b c d v : Value} {t : TypeId} (hb : w.heap[g]? = some (.cells #[v, a, b, c, d] t (0, 0))) :
    w.cell? ⟨g, 0, none⟩ = some v ∧ w.cell? ⟨g, 1, none⟩ = some a ∧ w.cell? ⟨g, 2, none⟩ = some b ∧ w.cell? ⟨g, 3, none⟩ = some c ∧ w.cell? ⟨g, 4, none⟩ = some d :=
  ⟨by rw [cell_of_row w g 0 _ _ (0, 0) hb]; rfl, by rw [cell_of_row w g 1 _ _ (0, 0) hb]; rfl, by rw [cell_of_row w g 2 _ _ (0, 0) hb]; rfl, by rw [cell_of_row w g 3 _ _ (0, 0) hb]; rfl, by rw [cell_of_row w g 4 _ _ (0, 0) hb]; rfl⟩

theorem at_rowS {a b : World} {row : Option Nat} {k : Nat} {o : Obj} (g : a.grownBy b row) (h : a.heap[k]? = some o) (hne : row ≠ some k) : b.heap[k]? = some o :=
  (g.block k (Array.getElem?_eq_some_iff.1 h).1 (fun e => hne e.symm)).trans h

set_option maxHeartbeats 1600000 in
theorem eqScanC : EqC 58 RdSc szSc := by
  intro w u u' a hq hq' hs
  obtain ⟨v, rfl, hv⟩ := hq
  obtain ⟨v', rfl, hv'⟩ := hq'
  obtain ⟨cs, fr, to, hi, lo⟩ := a
  obtain ⟨vo, vc, rfl, hr⟩ := id hv
  obtain ⟨vo', vc', rfl, hr'⟩ := id hv'
  clear hr hr'
  dsimp only at hv hv' ⊢
  obtain ⟨vn, HVN⟩ : ∃ vn, Hid (cs.length = vn) := ⟨_, rfl⟩
  rw [unhide HVN] at hv hv' ⊢
  obtain ⟨W2, HW2⟩ : ∃ W2, Hid ((w.alloc (.cells #[.slice vo vn vc, .int .i64 fr, .int .i64 to, .int .i64 hi, .int .i64 lo] 77)).alloc (.cells #[.slice vo' vn vc', .int .i64 fr, .int .i64 to, .int .i64 hi, .int .i64 lo] 77) = W2) := ⟨_, rfl⟩
  have G0 : w.grownBy W2 none := by rw [← unhide HW2]; exact grown_alloc (grown_alloc (World.grownBy.refl _ _) _) _
  have B0 : W2.heap[w.heap.size]? = some (.cells #[.slice vo vn vc, .int .i64 fr, .int .i64 to, .int .i64 hi, .int .i64 lo] 77 (0, 0)) := by
    rw [← unhide HW2]
    exact at_rowS (World.grownBy_alloc _ _ none) (heap_alloc_new w _) (by simp)
  have B1 : W2.heap[w.heap.size + 1]? = some (.cells #[.slice vo' vn vc', .int .i64 fr, .int .i64 to, .int .i64 hi, .int .i64 lo] 77 (0, 0)) := by
    rw [← unhide HW2]
    have := heap_alloc_new (w.alloc (.cells #[.slice vo vn vc, .int .i64 fr, .int .i64 to, .int .i64 hi, .int .i64 lo] 77)) (.cells #[.slice vo' vn vc', .int .i64 fr, .int .i64 to, .int .i64 hi, .int .i64 lo] 77)
    simpa using this
  have HEQ := hide (eqIntSC W2 (.slice vo vn vc) (.slice vo' vn vc') cs (RdI.st .i64 _ _ _ _ hv G0) (RdI.st .i64 _ _ _ _ hv' G0) hs)
  have HB0 := hide B0
  have HB1 := hide B1
  have HG0 := hide G0
  have n1 : (fr != fr) = false := by simp
  have n2 : (to != to) = false := by simp
  have n3 : (hi != hi) = false := by simp
  have n4 : (lo != lo) = false := by simp
  have a0 := unhide HB0
  rw [← unhide HW2] at a0 B1
  obtain ⟨c0, c1, c2, c3, c4⟩ := scanCells a0
  obtain ⟨d0, d1, d2, d3, d4⟩ := scanCells B1
  clear hv hv' hs G0 B0 B1 a0
  unfold scV
  dsimp only
  go_enter Tryz.func58, Tryz.ntmps58
  go_wp2_with fail
  rw [unhide HW2]
  clear HW2 c0 c1 c2 c3 c4 d0 d1 d2 d3 d4
  refine (unhide HEQ).mono ?_
  rintro e w3 ⟨rfl, g3⟩
  obtain ⟨c0, c1, c2, c3, c4⟩ := scanCells (at_rowS g3 (unhide HB0) (by simp))
  obtain ⟨d0, d1, d2, d3, d4⟩ := scanCells (at_rowS g3 (unhide HB1) (by simp))
  have HG3 := hide (grown_trans (unhide HG0) g3)
  clear g3 HEQ HB0 HB1 HG0
  go_wp2
  go_ret
  exact ⟨rfl, unhide HG3⟩

theorem rowScan {w : World} {b off i : Nat} {c : Nat → Value} {a : Scn} (h : ∀ j, j < 5 → w.cell? ⟨b, off + i * 5 + j, none⟩ = some (c j)) (hc : scC c a) :
    w.cell? ⟨b, off + i * 5, none⟩ = some (c 0) ∧ w.cell? ⟨b, off + i * 5 + 1, none⟩ = some (.int .i64 a.fr) ∧ w.cell? ⟨b, off + i * 5 + 2, none⟩ = some (.int .i64 a.to) ∧ w.cell? ⟨b, off + i * 5 + 3, none⟩ = some (.int .i64 a.hi) ∧ w.cell? ⟨b, off + i * 5 + 4, none⟩ = some (.int .i64 a.lo) := by
  obtain ⟨e1, e2, e3, e4⟩ := hc
  exact ⟨h 0 (by omega), by rw [h 1 (by omega), e1], by rw [h 2 (by omega), e2], by rw [h 3 (by omega), e3], by rw [h 4 (by omega), e4]⟩

set_option maxRecDepth 20000 in
set_option maxHeartbeats 1600000 in
theorem eqScanSC : EqC 30 RdSs (szR szSc) := by
  intro w u u' a hq hq' hs
  obtain ⟨ao, cap, rfl, hel⟩ := hq
  obtain ⟨bo, cap', rfl, hel'⟩ := hq'
  have HEL := hide hel
  have HEM := hide hel'
  have hlen := szR_len szSc a
  have HSE := hide (fun i h => (szR_el szSc a i h).2)
  obtain ⟨n, HN⟩ : ∃ n, Hid (a.length = n) := ⟨_, rfl⟩
  have hn : n ≤ 1048576 := by have := unhide HN; omega
  have HS := hide hs
  rw [unhide HN]
  have hne : ((n : Int) != n) = false := by simp
  clear hel hel' hs hlen
  go_enter Tryz.func30, Tryz.ntmps30
  go_wp2
  go_loopw [5] (fun iv wr => ∃ i : Nat, i ≤ n ∧ iv = .int .i64 i ∧ Hid (w.grownBy wr none)) (fun iv _ => n - (intOf iv).toNat)
  case atStart => exact ⟨0, Nat.zero_le _, rfl, World.grownBy.refl _ _⟩
  case round =>
    obtain ⟨i, hin, rfl, hg⟩ := hrel
    by_cases hlt : i < n
    · have hia : i < a.length := by rw [unhide HN]; exact hlt
      obtain ⟨b, off, c, rfl, k0, k1, q0⟩ := unhide HEL i hia
      obtain ⟨b', off', c', rfl, k0', k1', q0'⟩ := unhide HEM i hia
      have d0 := rowScan (fun j hj => (unhide hg).cell (k0 j hj) (by simp)) k1
      have d1 := rowScan (fun j hj => (unhide hg).cell (k0' j hj) (by simp)) k1'
      have HD := hide (And.intro d0 d1)
      have HT : Hid (∀ W, wr.grownBy W none → Calls Tryz.prog 58 #[scV (c 0) a[i], scV (c' 0) a[i]] W fun e w' => e = .returned (.bool true) ∧ W.grownBy w' none) := fun W gW => eqScanC W _ _ a[i] ⟨_, rfl, RdI.st .i64 _ _ _ _ q0 (grown_trans (unhide hg) gW)⟩ ⟨_, rfl, RdI.st .i64 _ _ _ _ q0' (grown_trans (unhide hg) gW)⟩ (Nat.le_trans (unhide HSE i hia) (unhide HS))
      have hiI : (i : Int) < (n : Int) := by omega
      unfold scV at HT
      obtain ⟨vo, vc, ev, -⟩ := q0
      obtain ⟨vo', vc', ev', -⟩ := q0'
      rw [ev, ev'] at HT
      rw [ev, ev'] at HD
      generalize a[i].cs.length = vn at *
      generalize a[i].fr = fr at *
      generalize a[i].to = to at *
      generalize a[i].hi = hi at *
      generalize a[i].lo = lo at *
      clear k0 k1 k0' k1' d0 d1 ev ev'
      go_wp2
      refine wp_region_noPanic ?_
      refine wp_region_tailL 20 (fun w' => (w'.cell? ⟨b, off + i * 5, none⟩ = some (.slice vo vn vc) ∧ w'.cell? ⟨b, off + i * 5 + 1, none⟩ = some (.int .i64 fr) ∧ w'.cell? ⟨b, off + i * 5 + 2, none⟩ = some (.int .i64 to) ∧ w'.cell? ⟨b, off + i * 5 + 3, none⟩ = some (.int .i64 hi) ∧ w'.cell? ⟨b, off + i * 5 + 4, none⟩ = some (.int .i64 lo)) ∧ (w'.cell? ⟨b', off' + i * 5, none⟩ = some (.slice vo' vn vc') ∧ w'.cell? ⟨b', off' + i * 5 + 1, none⟩ = some (.int .i64 fr) ∧ w'.cell? ⟨b', off' + i * 5 + 2, none⟩ = some (.int .i64 to) ∧ w'.cell? ⟨b', off' + i * 5 + 3, none⟩ = some (.int .i64 hi) ∧ w'.cell? ⟨b', off' + i * 5 + 4, none⟩ = some (.int .i64 lo))) [true, true, true, true, true, true, true, true, false, false] (by kernel_rfl) (fun _ _ _ _ _ h => h) rfl (by decide) (by kernel_rfl) (unhide HD) ?_
      iterate 8
        refine heldF_take (v := ?_) (Or.inl ⟨by rfl, ?_⟩) ?_
        rotate_left 1
        · intro w' hSw
          try dsimp only at hSw
          obtain ⟨⟨z0, z1, z2, z3, z4⟩, y0, y1, y2, y3, y4⟩ := hSw
          go_simp
          try with_reducible rfl
        simp only [Act.put, List.setIfInBounds_toArray, List.set_cons_zero, List.set_cons_succ]
      iterate 2 refine heldF_skip ?_
      refine heldF_nil ?_
      iterate 8 refine tailL_skip ?_
      refine tailL_step (fun K hK => ?_)
      go_simp
      refine (unhide HT _ (grown_drew (World.grownBy.refl _ _))).mono ?_
      rintro e w2 ⟨rfl, g2⟩
      have g3 := grown_trans (grown_drew (World.grownBy.refl wr none)) g2
      obtain ⟨⟨z0, z1, z2, z3, z4⟩, y0, y1, y2, y3, y4⟩ := unhide HD
      have HD2 := hide (And.intro (And.intro (g3.cell z0 (by simp)) (And.intro (g3.cell z1 (by simp)) (And.intro (g3.cell z2 (by simp)) (And.intro (g3.cell z3 (by simp)) (g3.cell z4 (by simp)))))) (And.intro (g3.cell y0 (by simp)) (And.intro (g3.cell y1 (by simp)) (And.intro (g3.cell y2 (by simp)) (And.intro (g3.cell y3 (by simp)) (g3.cell y4 (by simp)))))))
      have HG3 := hide (grown_trans (unhide hg) g3)
      clear g2 g3 hg HT HD z0 z1 z2 z3 z4 y0 y1 y2 y3 y4
      go_simp
      refine hK.out _ _ (.inr (unhide HD2)) ?_
      clear hK K
      refine tailL_step (fun K hK => ?_)
      go_simp
      refine hK.out _ _ (.inl rfl) ?_
      clear hK K HD2
      refine tailL_nil (NoPanic.normal ?_)
      go_wp2
      go_roundw
      case rel => exact ⟨i + 1, by omega, by go_num, HG3⟩
      case measure => simp [intOf]; omega
    · obtain rfl : i = n := by omega
      go_wp2
      go_ret
      exact ⟨rfl, unhide hg⟩

end Go.Proofs.YtjkokbijnaodnaaGreat
