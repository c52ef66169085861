/-
  A region that draws its order, all of whose operations only read but the last, which waits for all others: one walk of the lexical order serves, and the last operation comes last.
-/
import Derived.Test.YtgknninkfdgebaaKit
import Derived.Deep.Quiet
import Derived.BigQuiet
namespace Go.Proofs.Ytgknninkfdgebaa
open Go.RowKit

section
variable {P : Program} {ops : Array Oper} {md : Region.Mode} {C : World → Prop} {m : Nat} {L : Act → Prop}

/-- Whatever order is picked from here on: number m comes last, and then L is asked. -/
def anyL (P : Program) (md : Region.Mode) (ops : Array Oper) (C : World → Prop) (m : Nat) (L : Act → Prop) : Nat → Array Bool → Act → Prop
  | 0, _, _ => False
  | fuel + 1, listed, a => Region.ready md ops listed ≠ [] ∧ ∀ i ∈ Region.ready md ops listed, if i = m then (L a ∧ Region.ready md ops (listed.setIfInBounds m true) = []) else qOp P ops C i (anyL P md ops C m L fuel (listed.setIfInBounds i true)) a

theorem any_done {Q : Exit → Act → World → Prop} {listed : Array Bool} {a : Act} {w : World} (hr : Region.ready md ops listed = []) (hq : Q .normal a w) : ∀ fuel, wpAny P md ops Q fuel listed a w
  | 0 => ⟨hr, hq⟩
  | _ + 1 => ⟨fun _ => hq, fun i hi => by rw [hr] at hi; cases hi⟩

theorem anyL_sound {Q : Exit → Act → World → Prop} (hL : ∀ a w, C w → L a → wpOp P ops Q m (fun a' w' => Q .normal a' w') a w) :
    ∀ (fuel : Nat) (listed : Array Bool) (a : Act) (w : World), C w → anyL P md ops C m L fuel listed a → wpAny P md ops Q fuel listed a w
  | 0, _, _, _, _, h => h.elim
  | fuel + 1, listed, a, w, hw, h => ⟨fun h0 => absurd h0 h.1, fun i hi => by
      have h2 := h.2 i hi
      by_cases e : i = m
      · subst e
        rw [if_pos rfl] at h2
        exact wpOp_mono (fun a' w' hq => any_done h2.2 hq fuel) (hL a w hw h2.1)
      · rw [if_neg e] at h2
        exact wpOp_of_qOp hw (fun a' w' hw' hh => anyL_sound hL fuel _ a' w' hw' hh) h2⟩

/-- What has come up has come up behind what it waits for. -/
def Cl (md : Region.Mode) (ops : Array Oper) (listed : Array Bool) : Prop := ∀ k ok, ops[k]? = some ok → listed.getD k false = true → ∀ e ∈ ok.after, Region.binds md e = true → listed.getD e.on false = true
theorem Cl.set {listed : Array Bool} {j : Nat} (h : Cl md ops listed) (hj : j ∈ Region.ready md ops listed) : Cl md ops (listed.setIfInBounds j true) := by
  intro k ok hk hl e he hb
  by_cases hjk : j = k
  · subst hjk
    obtain ⟨_, o, ho, hall⟩ := mem_ready.1 hj
    rw [ho] at hk
    cases hk
    exact getD_set_true (hall e he hb)
  · rw [getD_set_ne false hjk] at hl
    exact getD_set_true (h k ok hk hl e he hb)
theorem Cl.none (n : Nat) : Cl md ops (Array.replicate n false) := by
  intro k ok _ hl
  exfalso
  have : (Array.replicate n false).getD k false = false := by simp [Array.getD]
  rw [this] at hl
  cases hl
/-- Whether an operation waits for another, by so many steps at most. -/
def waits (md : Region.Mode) (ops : Array Oper) : Nat → Nat → Nat → Bool
  | 0, _, _ => false
  | f + 1, j, i => match ops[j]? with
    | none => false
    | some o => o.after.any (fun e => Region.binds md e && (e.on == i || waits md ops f e.on i))
theorem waits_listed {listed : Array Bool} (h : Cl md ops listed) (i : Nat) : ∀ (f j : Nat), listed.getD j false = true → waits md ops f j i = true → listed.getD i false = true
  | 0, _, _, hw => by simp [waits] at hw
  | f + 1, j, hj, hw => by
    unfold waits at hw
    cases ho : ops[j]? with
    | none => simp [ho] at hw
    | some o =>
      simp only [ho] at hw
      obtain ⟨q, hq, hb⟩ := Array.any_eq_true.1 hw
      have he := Array.getElem_mem hq
      generalize o.after[q] = e at *
      simp only [Bool.and_eq_true, Bool.or_eq_true, beq_iff_eq] at hb
      have hl := h j o ho hj e he hb.1
      rcases hb.2 with hb2 | hb2
      · rw [← hb2]; exact hl
      · exact waits_listed h i f e.on hl hb2
theorem waits_ready {listed : Array Bool} (h : Cl md ops listed) (i f : Nat) (hm : m ∈ Region.ready md ops listed) (hw : waits md ops (f + 1) m i = true) : listed.getD i false = true := by
  obtain ⟨_, o, ho, hall⟩ := mem_ready.1 hm
  unfold waits at hw
  simp only [ho] at hw
  obtain ⟨q, hq, hb⟩ := Array.any_eq_true.1 hw
  have he := Array.getElem_mem hq
  generalize o.after[q] = e at *
  simp only [Bool.and_eq_true, Bool.or_eq_true, beq_iff_eq] at hb
  have hl := hall e he hb.1
  rcases hb.2 with hb2 | hb2
  · rw [← hb2]; exact hl
  · exact waits_listed h i f e.on hl hb2

/-- An operation that only reads, and for which m waits, may be taken first. -/
theorem anyL_first {i f : Nat} {oi : Oper} {v : Value} (hi : ops[i]? = some oi) (him : i ≠ m) (hwt : waits md ops (f + 1) m i = true) (hsel : ∀ (j : Nat) (o : Oper) cs b, ops[j]? = some o → o.op ≠ .select cs b) :
    ∀ (fuel : Nat) (listed : Array Bool) (a : Act), Cl md ops listed →
      (∀ j oj, ops[j]? = some oj → j ≠ i → listed.getD j true = false → (∀ e ∈ oj.after, Region.binds md e = true → e.on ≠ i) → oi.apart ops oj = true) →
      i ∈ Region.ready md ops listed → YieldsIn P ops C oi v a →
      anyL P md ops C m L fuel (listed.setIfInBounds i true) (a.put oi.dst v) → anyL P md ops C m L (fuel + 1) listed a := by
  intro fuel
  induction fuel with
  | zero => intro listed a _ _ _ _ H; exact H.elim
  | succ fuel ih =>
    intro listed a hcl hfree hr hy H
    have hun := (mem_ready.1 hr).1
    refine ⟨fun h => (by rw [h] at hr; cases hr), fun j hj => ?_⟩
    by_cases hji : j = i
    · subst hji
      rw [if_neg him]
      exact hy.qOp hi H
    · by_cases hjm : j = m
      · exfalso
        subst hjm
        have h1 := waits_ready hcl i f hj hwt
        rcases Nat.lt_or_ge i listed.size with h' | h'
        · simp [h'] at h1 hun; rw [hun] at h1; cases h1
        · simp [Array.getElem?_eq_none h'] at h1
      · rw [if_neg hjm]
        have h1 := H.2 j (ready_mono hj hji)
        rw [if_neg hjm] at h1
        obtain ⟨hjun, oj, hoj, hall⟩ := mem_ready.1 hj
        have hnot : ∀ e ∈ oj.after, Region.binds md e = true → e.on ≠ i := fun e he hb heq => by
          have h1 := hall e he hb
          rw [heq] at h1
          rcases Nat.lt_or_ge i listed.size with h' | h'
          · simp [h'] at h1 hun; rw [hun] at h1; cases h1
          · simp [Array.getElem?_eq_none h'] at h1
        have h2 := qOp_put hoj (hfree j oj hoj hji hjun hnot) (fun cs b => hsel i oi cs b hi) (fun cs b => hsel j oj cs b hoj) hy h1
        refine qOp_mono (fun a' h3 => ih (listed.setIfInBounds j true) a' (hcl.set hj) (fun k ok hk hki hu hno => hfree k ok hk hki ?_ hno) (ready_mono hr (Ne.symm hji)) h3.1 ?_) h2
        · by_cases hjk : j = k
          · subst hjk; exact hjun
          · rw [getD_set_ne true hjk] at hu; exact hu
        · rw [Array.setIfInBounds_comm _ _ hji]
          exact h3.2

/-- The lexical order can be gone, all but the last. -/
def lexL (md : Region.Mode) (ops : Array Oper) (m f : Nat) : Nat → Nat → Array Bool → Bool
  | 0, _, listed => (Region.ready md ops listed == [m]) && (Region.ready md ops (listed.setIfInBounds m true)).isEmpty
  | fuel + 1, k, listed => (Region.ready md ops listed).contains k && Region.free md ops listed k && (k != m) && waits md ops (f + 1) m k && lexL md ops m f fuel (k + 1) (listed.setIfInBounds k true)

theorem anyL_lex (f : Nat) (hs : Region.noSelect ops = true) : ∀ (l : List Oper) (k : Nat) (listed : Array Bool) (a : Act), Cl md ops listed → (∀ j, j < l.length → l[j]? = ops[k + j]?) →
    lexL md ops m f l.length k listed = true → wpQuiet P ops C L l a → anyL P md ops C m L (l.length + 1) listed a
  | [], _, listed, a, _, _, hB, h => by
    simp only [List.length_nil, lexL, Bool.and_eq_true, beq_iff_eq, List.isEmpty_iff] at hB
    refine ⟨by rw [hB.1]; simp, fun i hi => ?_⟩
    rw [hB.1, List.mem_singleton] at hi
    rw [if_pos hi]
    exact ⟨h, hB.2⟩
  | o :: l, k, listed, a, hcl, hl, hB, h => by
    have h0 : ops[k]? = some o := by have := hl 0 (by simp); simpa using this.symm
    simp only [List.length_cons, lexL, Bool.and_eq_true, bne_iff_ne] at hB
    obtain ⟨⟨⟨⟨hr, hf⟩, hne⟩, hw⟩, hB'⟩ := hB
    have hst : qOp P ops C k (wpQuiet P ops C L l) a := by unfold qOp; simp only [h0]; exact h
    obtain ⟨v, hy, hK⟩ := yieldsIn_of_qOp h0 hst
    have hrm : k ∈ Region.ready md ops listed := by simpa using hr
    exact anyL_first h0 hne hw (Region.noSelect_spec hs) (l.length + 1) listed a hcl (Region.free_spec h0 hf) hrm hy
      (anyL_lex f hs l (k + 1) _ _ (hcl.set hrm) (fun j hj => by have := hl (j + 1) (by simpa using hj); simpa [Nat.add_assoc, Nat.add_comm 1 j] using this) hB' hK)
end

/-- A region whose operations are written out: all but the last only read. -/
theorem wp_region_last {P : Program} {id : Nat} {Q : Exit → Act → World → Prop} {a : Act} {w : World} {l : List Oper} (f : Nat) (last : Oper) (hm : P.follows .mixedOrders = true) (hlast : l[l.length - 1]? = some last) (hg : last.guard = none)
    (hB : (Region.noSelect l.toArray && lexL .any l.toArray (l.length - 1) f (l.length - 1) 0 (Array.replicate l.length false)) = true)
    (h : wpQuiet P l.toArray (fun w' => ∃ n, w' = w.drewN n) (fun a' => ∀ n, Oper.wp P last a' (w.drewN n) (fun a' w' => Q .normal a' w') Q) l.dropLast a) : (Code.region id l.toArray true).wp P Q a w := by
  rw [Bool.and_eq_true] at hB
  have hpos : 0 < l.length := by
    have := (List.getElem?_eq_some_iff.1 hlast).1
    omega
  have hlen : l.dropLast.length + 1 = l.length := by rw [List.length_dropLast]; omega
  refine wp_region_any hm (anyL_sound (C := fun w' => ∃ n, w' = w.drewN n) (m := l.length - 1) (L := fun a' => ∀ n, Oper.wp P last a' (w.drewN n) (fun a' w' => Q .normal a' w') Q) (fun a' w' hw' hL => ?_) _ _ _ _ ⟨1, rfl⟩ ?_)
  · obtain ⟨n, rfl⟩ := hw'
    unfold wpOp
    have e : l.toArray[l.length - 1]? = some last := by simpa using hlast
    have hwn : Region.wanted last (yielded l.toArray a'.tmps) = true := by simp [Region.wanted, hg]
    simp only [e, hwn, if_true]
    exact .inl (hL n)
  · have hx := anyL_lex (P := P) (ops := l.toArray) (md := .any) (C := fun w' => ∃ n, w' = w.drewN n) (m := l.length - 1) (L := fun a' => ∀ n, Oper.wp P last a' (w.drewN n) (fun a' w' => Q .normal a' w') Q) f hB.1 l.dropLast 0 (Array.replicate l.length false) a (Cl.none _)
      (fun j hj => by
        rw [List.length_dropLast] at hj
        rw [List.getElem?_dropLast, if_pos hj]
        simp) (by rw [List.length_dropLast]; exact hB.2) h
    rw [hlen] at hx
    simpa using hx

end Go.Proofs.Ytgknninkfdgebaa
