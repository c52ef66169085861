/-
  A region that draws its order, by what stays true whatever comes next: one proof for each operation, however many orders there are.
-/
import Derived.Test.YtoeehfjbnbbijaaKit
import Derived.Orders
import Derived.RegionTactic
import Derived.Deep.RegionHeld
namespace Go.Proofs.Ytoeehfjbnbbijaa
open Go.RowKit

section
variable {P : Program} {md : Region.Mode} {Q : Exit → Act → World → Prop} {l : List Oper}

/-- Whether operation k is done. -/
def doneAt (listed : Array Bool) (k : Nat) : Prop := listed.getD k false = true
theorem doneAt_set {listed : Array Bool} {i k : Nat} (hi : i < listed.size) : doneAt (listed.setIfInBounds i true) k ↔ k = i ∨ doneAt listed k := by
  unfold doneAt
  rw [Array.getD_eq_getD_getElem?, Array.getElem?_setIfInBounds, Array.getD_eq_getD_getElem?]
  by_cases e : i = k
  · subst e; simp [hi]
  · rw [if_neg e]
    constructor
    · intro h; exact .inr h
    · rintro (h | h)
      · exact absurd h.symm e
      · exact h

/-- How many are not done. -/
def undone (listed : Array Bool) : Nat := listed.toList.countP (fun b => !b)
theorem undone_set {listed : Array Bool} {i : Nat} (h : listed.getD i true = false) : undone (listed.setIfInBounds i true) + 1 = undone listed := by
  have hi : i < listed.size := by
    rcases Nat.lt_or_ge i listed.size with h1 | h1
    · exact h1
    · rw [Array.getD_eq_getD_getElem?, Array.getElem?_eq_none h1] at h; simp at h
  have hb : listed.toList[i]? = some false := by
    rw [Array.getD_eq_getD_getElem?, Array.getElem?_eq_getElem hi] at h
    rw [Array.getElem?_toList, Array.getElem?_eq_getElem hi]
    simpa using h
  have key : ∀ (xs : List Bool) (i : Nat), xs[i]? = some false → (xs.set i true).countP (fun b => !b) + 1 = xs.countP (fun b => !b) := by
    intro xs
    induction xs with
    | nil => intro i h; simp at h
    | cons x xs ih =>
      intro i h
      cases i with
      | zero => simp at h; subst h; simp
      | succ i =>
        have := ih i (by simpa using h)
        rw [List.set_cons_succ, List.countP_cons, List.countP_cons]
        omega
  unfold undone
  rw [Array.toList_setIfInBounds]
  exact key _ _ hb

theorem ready_mem {listed : Array Bool} {i : Nat} (h : i ∈ Region.ready md l.toArray listed) : ∃ o, l[i]? = some o ∧ listed.getD i true = false ∧ ∀ e ∈ o.after, Region.binds md e = true → doneAt listed e.on := by
  unfold Region.ready at h
  rw [List.mem_filter] at h
  obtain ⟨_, h2⟩ := h
  rw [Bool.and_eq_true] at h2
  obtain ⟨h2, h3⟩ := h2
  cases ho : l[i]? with
  | none => simp [ho] at h3
  | some o =>
    refine ⟨o, rfl, by simpa using h2, fun e he hb => ?_⟩
    have h4 : o.after.all (fun e => !Region.binds md e || listed.getD e.on false) = true := by simpa [ho] using h3
    have h5 := (Array.all_eq_true_iff_forall_mem.1 h4) e he
    rw [hb] at h5
    simpa [doneAt] using h5

/-- Where every operation waits for earlier ones alone, none is ready only when all are done. -/
theorem all_done {listed : Array Bool} (hsz : listed.size = l.length) (hfw : ∀ (i : Nat) (o : Oper), l[i]? = some o → ∀ e ∈ o.after, e.on < i) (hr : Region.ready md l.toArray listed = []) : ∀ i, i < l.length → doneAt listed i := by
  intro i
  induction i using Nat.strongRecOn with
  | _ i ih =>
    intro hi
    by_cases hd : doneAt listed i
    · exact hd
    · exfalso
      have hmem : i ∈ Region.ready md l.toArray listed := by
        unfold Region.ready
        rw [List.mem_filter]
        refine ⟨by simpa using hi, ?_⟩
        have ho : l[i]? = some l[i] := List.getElem?_eq_getElem hi
        have hf : listed.getD i true = false := by
          unfold doneAt at hd
          rw [Array.getD_eq_getD_getElem?, Array.getElem?_eq_getElem (by omega)] at hd ⊢
          simpa using hd
        rw [Bool.and_eq_true]
        refine ⟨by simp [hf], ?_⟩
        have h4 : (l[i]).after.all (fun e => !Region.binds md e || listed.getD e.on false) = true := by
          rw [Array.all_eq_true_iff_forall_mem]
          intro e he
          have hlt := hfw i _ ho e he
          have := ih e.on hlt (by omega)
          unfold doneAt at this
          rw [this, Bool.or_true]
        simpa [ho] using h4
      rw [hr] at hmem
      simp at hmem

theorem any_inv (I : Array Bool → Act → World → Prop)
    (step : ∀ (i : Nat) (o : Oper) (listed : Array Bool) (a : Act) (w : World), l[i]? = some o → listed.size = l.length → i < listed.size → ¬ doneAt listed i → (∀ e ∈ o.after, Region.binds md e = true → doneAt listed e.on) → I listed a w →
      ∀ K' : Act → World → Prop, Shut (∀ a' w', I (listed.setIfInBounds i true) a' w' → K' a' w') → if Region.wanted o (yielded l.toArray a.tmps) = true then Oper.wp P o a w K' Q else K' (a.put o.dst undef) w)
    (done : ∀ listed a w, listed.size = l.length → Region.ready md l.toArray listed = [] → I listed a w → Q .normal a w) :
    ∀ (fuel : Nat) (listed : Array Bool) (a : Act) (w : World), listed.size = l.length → undone listed ≤ fuel → I listed a w → wpAny P md l.toArray Q fuel listed a w := by
  have lt_of : ∀ {listed : Array Bool} {i : Nat}, listed.getD i true = false → i < listed.size := by
    intro listed i h
    rcases Nat.lt_or_ge i listed.size with h1 | h1
    · exact h1
    · rw [Array.getD_eq_getD_getElem?, Array.getElem?_eq_none h1] at h; simp at h
  intro fuel
  induction fuel with
  | zero =>
    intro listed a w hsz hu hI
    have hr : Region.ready md l.toArray listed = [] := by
      apply List.eq_nil_iff_forall_not_mem.2
      intro i hi
      obtain ⟨o, _, hf, _⟩ := ready_mem hi
      have := undone_set hf
      omega
    exact ⟨hr, done listed a w hsz hr hI⟩
  | succ fuel ih =>
    intro listed a w hsz hu hI
    refine ⟨fun hr => done listed a w hsz hr hI, fun i hi => ?_⟩
    obtain ⟨o, ho, hf, hdep⟩ := ready_mem hi
    have hlt := lt_of hf
    have hnd : ¬ doneAt listed i := by
      unfold doneAt
      rw [Array.getD_eq_getD_getElem?, Array.getElem?_eq_getElem hlt] at hf ⊢
      simpa using hf
    have hu2 := undone_set hf
    refine wpOp_step (by simpa using ho) (fun K' hK => step i o listed a w ho hsz hlt hnd hdep hI K' (fun a' w' hI' => hK a' w' (ih _ a' w' (by simpa using hsz) (by omega) hI')))
end

/-- A region that draws its order, by an invariant. -/
theorem wp_region_inv {P : Program} {id : Nat} {Q : Exit → Act → World → Prop} {a : Act} {w : World} {l : List Oper} (I : Array Bool → Act → World → Prop) (hm : P.follows .mixedOrders = true)
    (hfw : ∀ (i : Nat) (o : Oper), l[i]? = some o → ∀ e ∈ o.after, e.on < i)
    (start : I (Array.replicate l.length false) a w.drew)
    (step : ∀ (i : Nat) (o : Oper) (listed : Array Bool) (a : Act) (w : World), l[i]? = some o → listed.size = l.length → i < listed.size → ¬ doneAt listed i → (∀ e ∈ o.after, Region.binds .any e = true → doneAt listed e.on) → I listed a w →
      ∀ K' : Act → World → Prop, Shut (∀ a' w', I (listed.setIfInBounds i true) a' w' → K' a' w') → if Region.wanted o (yielded l.toArray a.tmps) = true then Oper.wp P o a w K' Q else K' (a.put o.dst undef) w)
    (done : ∀ listed a w, (∀ i, i < l.length → doneAt listed i) → I listed a w → Q .normal a w) : (Code.region id l.toArray true).wp P Q a w := by
  refine wp_region_any hm ?_
  have hu : undone (Array.replicate l.toArray.size false) ≤ l.toArray.size := by
    unfold undone
    exact Nat.le_trans List.countP_le_length (by simp)
  exact any_inv I step (fun listed a' w' hsz hr hI => done listed a' w' (all_done hsz hfw hr) hI) _ _ a _ (by simp) hu (by simpa using start)

/-- Every operation waits for earlier ones alone. -/
def fwB : Nat → List Oper → Bool
  | _, [] => true
  | k, o :: rest => o.after.all (fun e => decide (e.on < k)) && fwB (k + 1) rest
theorem fwB_get : ∀ (l : List Oper) (k : Nat), fwB k l = true → ∀ (i : Nat) (o : Oper), l[i]? = some o → ∀ e ∈ o.after, e.on < k + i
  | [], _, _, i, o, h => by simp at h
  | x :: l, k, hB, i, o, h => by
    rw [fwB, Bool.and_eq_true] at hB
    intro e he
    cases i with
    | zero =>
      simp at h; subst h
      exact of_decide_eq_true ((Array.all_eq_true_iff_forall_mem.1 hB.1) e he)
    | succ i =>
      have := fwB_get l (k + 1) hB.2 i o (by simpa using h) e he
      omega

def depsF (listed : Array Bool) : List Edge → Prop
  | [] => True
  | e :: es => (Region.binds .any e = true → doneAt listed e.on) ∧ depsF listed es
theorem depsF_of {listed : Array Bool} : ∀ (es : List Edge), (∀ e ∈ es, Region.binds .any e = true → doneAt listed e.on) → depsF listed es
  | [], _ => trivial
  | e :: es, h => ⟨h e (by simp), depsF_of es (fun e' he' => h e' (by simp [he']))⟩

theorem depsF_mem {listed : Array Bool} : ∀ {es : List Edge}, depsF listed es → ∀ e ∈ es, Region.binds .any e = true → doneAt listed e.on
  | [], _, e, he, _ => by simp at he
  | x :: es, h, e, he, hb => by
    rcases List.mem_cons.1 he with rfl | he
    · exact h.1 hb
    · exact depsF_mem h.2 e he hb

/-- One proof for each operation. -/
def stepsF (P : Program) (ops : Array Oper) (Q : Exit → Act → World → Prop) (I : Array Bool → Act → World → Prop) : List Oper → Nat → Prop
  | [], _ => True
  | o :: rest, k => (∀ (listed : Array Bool) (a : Act) (w : World), k < listed.size → ¬ doneAt listed k → depsF listed o.after.toList → I listed a w →
      ∀ K' : Act → World → Prop, Shut (∀ a' w', I (listed.setIfInBounds k true) a' w' → K' a' w') → if Region.wanted o (yielded ops a.tmps) = true then Oper.wp P o a w K' Q else K' (a.put o.dst undef) w) ∧ stepsF P ops Q I rest (k + 1)
theorem stepsF_get {P : Program} {ops : Array Oper} {Q : Exit → Act → World → Prop} {I : Array Bool → Act → World → Prop} : ∀ (l : List Oper) (k : Nat), stepsF P ops Q I l k → ∀ (i : Nat) (o : Oper), l[i]? = some o →
    ∀ (listed : Array Bool) (a : Act) (w : World), k + i < listed.size → ¬ doneAt listed (k + i) → depsF listed o.after.toList → I listed a w →
      ∀ K' : Act → World → Prop, Shut (∀ a' w', I (listed.setIfInBounds (k + i) true) a' w' → K' a' w') → if Region.wanted o (yielded ops a.tmps) = true then Oper.wp P o a w K' Q else K' (a.put o.dst undef) w
  | [], _, _, i, o, h => by simp at h
  | x :: l, k, hS, i, o, h => by
    cases i with
    | zero => simp at h; subst h; exact hS.1
    | succ i =>
      have := stepsF_get l (k + 1) hS.2 i o (by simpa using h)
      rw [show k + 1 + i = k + (i + 1) by omega] at this
      exact this

theorem wp_region_steps {P : Program} {id : Nat} {Q : Exit → Act → World → Prop} {a : Act} {w : World} {l : List Oper} (I : Array Bool → Act → World → Prop) (hm : P.follows .mixedOrders = true)
    (hfw : fwB 0 l = true) (start : I (Array.replicate l.length false) a w.drew) (steps : stepsF P l.toArray Q I l 0)
    (done : ∀ listed a w, (∀ i, i < l.length → doneAt listed i) → I listed a w → Q .normal a w) : (Code.region id l.toArray true).wp P Q a w :=
  wp_region_inv I hm (fun i o ho e he => by have := fwB_get l 0 hfw i o ho e he; omega) start
    (fun i o listed a w ho _ hi hnd hdep hI K' hK => by
      have := stepsF_get l 0 steps i o ho listed a w (by omega) (by rw [Nat.zero_add]; exact hnd) (depsF_of _ (fun e he => hdep e (by simpa using he))) hI K'
      rw [Nat.zero_add] at this
      exact this hK) done
theorem not_done_start (m k : Nat) : ¬ doneAt (Array.replicate m false) k := by
  unfold doneAt
  rw [Array.getD_eq_getD_getElem?, Array.getElem?_replicate]
  split <;> simp

end Go.Proofs.Ytoeehfjbnbbijaa
