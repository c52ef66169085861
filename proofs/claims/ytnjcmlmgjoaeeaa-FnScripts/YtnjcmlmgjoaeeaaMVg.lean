/-
  RegionInv, FrameDraw, FrameRead2, FrameRead3, FrameDraw2, FrameAny.
-/
import Derived.Orders
import Derived.RegionTactic
import Derived.Deep.RegionHeld
import Derived.Deep.AppendLies
import Derived.Maps.AppendAt
import Derived.Test.YtnjcmlmgjoaeeaaMVf

namespace Go.Proofs.Ytnjcmlmgjoaeeaa
open Go.RowKit

section
variable {P : Program} {md : Region.Mode} {Q : Exit → Act → World → Prop} {l : List Oper}

/-- Whether operation k is done. -/
def doneAt (listed : Array Bool) (k : Nat) : Prop := listed.getD k false = true
theorem doneAt_set {listed : Array Bool} {i k : Nat} (hi : i < listed.size) : doneAt (listed.setIfInBounds i true) k ↔ k = i ∨ doneAt listed k := by
  unfold doneAt
  rw [Array.getD_eq_getD_getElem?, Array.getElem?_setIfInBounds, Array.getD_eq_getD_getElem?]
  by_cases e : i = k
  · subst e; simp [hi]
  · rw [if_neg e]
    constructor
    · intro h; exact .inr h
    · rintro (h | h)
      · exact absurd h.symm e
      · exact h

/-- How many are not done. -/
def undone (listed : Array Bool) : Nat := listed.toList.countP (fun b => !b)
theorem undone_set {listed : Array Bool} {i : Nat} (h : listed.getD i true = false) : undone (listed.setIfInBounds i true) + 1 = undone listed := by
  have hi : i < listed.size := by
    rcases Nat.lt_or_ge i listed.size with h1 | h1
    · exact h1
    · rw [Array.getD_eq_getD_getElem?, Array.getElem?_eq_none h1] at h; simp at h
  have hb : listed.toList[i]? = some false := by
    rw [Array.getD_eq_getD_getElem?, Array.getElem?_eq_getElem hi] at h
    rw [Array.getElem?_toList, Array.getElem?_eq_getElem hi]
    simpa using h
  have key : ∀ (xs : List Bool) (i : Nat), xs[i]? = some false → (xs.set i true).countP (fun b => !b) + 1 = xs.countP (fun b => !b) := by
    intro xs
    induction xs with
    | nil => intro i h; simp at h
    | cons x xs ih =>
      intro i h
      cases i with
      | zero => simp at h; subst h; simp
      | succ i =>
        have := ih i (by simpa using h)
        rw [List.set_cons_succ, List.countP_cons, List.countP_cons]
        omega
  unfold undone
  rw [Array.toList_setIfInBounds]
  exact key _ _ hb

theorem ready_mem {listed : Array Bool} {i : Nat} (h : i ∈ Region.ready md l.toArray listed) : ∃ o, l[i]? = some o ∧ listed.getD i true = false ∧ ∀ e ∈ o.after, Region.binds md e = true → doneAt listed e.on := by
  unfold Region.ready at h
  rw [List.mem_filter] at h
  obtain ⟨_, h2⟩ := h
  rw [Bool.and_eq_true] at h2
  obtain ⟨h2, h3⟩ := h2
  cases ho : l[i]? with
  | none => simp [ho] at h3
  | some o =>
    refine ⟨o, rfl, by simpa using h2, fun e he hb => ?_⟩
    have h4 : o.after.all (fun e => !Region.binds md e || listed.getD e.on false) = true := by simpa [ho] using h3
    have h5 := (Array.all_eq_true_iff_forall_mem.1 h4) e he
    rw [hb] at h5
    simpa [doneAt] using h5

/-- Where every operation waits for earlier ones alone, none is ready only when all are done. -/
theorem all_done {listed : Array Bool} (hsz : listed.size = l.length) (hfw : ∀ (i : Nat) (o : Oper), l[i]? = some o → ∀ e ∈ o.after, e.on < i) (hr : Region.ready md l.toArray listed = []) : ∀ i, i < l.length → doneAt listed i := by
  intro i
  induction i using Nat.strongRecOn with
  | _ i ih =>
    intro hi
    by_cases hd : doneAt listed i
    · exact hd
    · exfalso
      have hmem : i ∈ Region.ready md l.toArray listed := by
        unfold Region.ready
        rw [List.mem_filter]
        refine ⟨by simpa using hi, ?_⟩
        have ho : l[i]? = some l[i] := List.getElem?_eq_getElem hi
        have hf : listed.getD i true = false := by
          unfold doneAt at hd
          rw [Array.getD_eq_getD_getElem?, Array.getElem?_eq_getElem (by omega)] at hd ⊢
          simpa using hd
        rw [Bool.and_eq_true]
        refine ⟨by simp [hf], ?_⟩
        have h4 : (l[i]).after.all (fun e => !Region.binds md e || listed.getD e.on false) = true := by
          rw [Array.all_eq_true_iff_forall_mem]
          intro e he
          have hlt := hfw i _ ho e he
          have := ih e.on hlt (by omega)
          unfold doneAt at this
          rw [this, Bool.or_true]
        simpa [ho] using h4
      rw [hr] at hmem
      simp at hmem

theorem any_inv (I : Array Bool → Act → World → Prop)
    (step : ∀ (i : Nat) (o : Oper) (listed : Array Bool) (a : Act) (w : World), l[i]? = some o → listed.size = l.length → i < listed.size → ¬ doneAt listed i → (∀ e ∈ o.after, Region.binds md e = true → doneAt listed e.on) → I listed a w →
      ∀ K' : Act → World → Prop, Shut (∀ a' w', I (listed.setIfInBounds i true) a' w' → K' a' w') → if Region.wanted o (yielded l.toArray a.tmps) = true then Oper.wp P o a w K' Q else K' (a.put o.dst undef) w)
    (done : ∀ listed a w, listed.size = l.length → Region.ready md l.toArray listed = [] → I listed a w → Q .normal a w) :
    ∀ (fuel : Nat) (listed : Array Bool) (a : Act) (w : World), listed.size = l.length → undone listed ≤ fuel → I listed a w → wpAny P md l.toArray Q fuel listed a w := by
  have lt_of : ∀ {listed : Array Bool} {i : Nat}, listed.getD i true = false → i < listed.size := by
    intro listed i h
    rcases Nat.lt_or_ge i listed.size with h1 | h1
    · exact h1
    · rw [Array.getD_eq_getD_getElem?, Array.getElem?_eq_none h1] at h; simp at h
  intro fuel
  induction fuel with
  | zero =>
    intro listed a w hsz hu hI
    have hr : Region.ready md l.toArray listed = [] := by
      apply List.eq_nil_iff_forall_not_mem.2
      intro i hi
      obtain ⟨o, _, hf, _⟩ := ready_mem hi
      have := undone_set hf
      omega
    exact ⟨hr, done listed a w hsz hr hI⟩
  | succ fuel ih =>
    intro listed a w hsz hu hI
    refine ⟨fun hr => done listed a w hsz hr hI, fun i hi => ?_⟩
    obtain ⟨o, ho, hf, hdep⟩ := ready_mem hi
    have hlt := lt_of hf
    have hnd : ¬ doneAt listed i := by
      unfold doneAt
      rw [Array.getD_eq_getD_getElem?, Array.getElem?_eq_getElem hlt] at hf ⊢
      simpa using hf
    have hu2 := undone_set hf
    refine wpOp_step (by simpa using ho) (fun K' hK => step i o listed a w ho hsz hlt hnd hdep hI K' (fun a' w' hI' => hK a' w' (ih _ a' w' (by simpa using hsz) (by omega) hI')))
end

/-- A region that draws its order, by an invariant. -/
theorem wp_region_inv {P : Program} {id : Nat} {Q : Exit → Act → World → Prop} {a : Act} {w : World} {l : List Oper} (I : Array Bool → Act → World → Prop) (hm : P.follows .mixedOrders = true)
    (hfw : ∀ (i : Nat) (o : Oper), l[i]? = some o → ∀ e ∈ o.after, e.on < i)
    (start : I (Array.replicate l.length false) a w.drew)
    (step : ∀ (i : Nat) (o : Oper) (listed : Array Bool) (a : Act) (w : World), l[i]? = some o → listed.size = l.length → i < listed.size → ¬ doneAt listed i → (∀ e ∈ o.after, Region.binds .any e = true → doneAt listed e.on) → I listed a w →
      ∀ K' : Act → World → Prop, Shut (∀ a' w', I (listed.setIfInBounds i true) a' w' → K' a' w') → if Region.wanted o (yielded l.toArray a.tmps) = true then Oper.wp P o a w K' Q else K' (a.put o.dst undef) w)
    (done : ∀ listed a w, (∀ i, i < l.length → doneAt listed i) → I listed a w → Q .normal a w) : (Code.region id l.toArray true).wp P Q a w := by
  refine wp_region_any hm ?_
  have hu : undone (Array.replicate l.toArray.size false) ≤ l.toArray.size := by
    unfold undone
    exact Nat.le_trans List.countP_le_length (by simp)
  exact any_inv I step (fun listed a' w' hsz hr hI => done listed a' w' (all_done hsz hfw hr) hI) _ _ a _ (by simp) hu (by simpa using start)

/-- Every operation waits for earlier ones alone. -/
def fwB : Nat → List Oper → Bool
  | _, [] => true
  | k, o :: rest => o.after.all (fun e => decide (e.on < k)) && fwB (k + 1) rest
theorem fwB_get : ∀ (l : List Oper) (k : Nat), fwB k l = true → ∀ (i : Nat) (o : Oper), l[i]? = some o → ∀ e ∈ o.after, e.on < k + i
  | [], _, _, i, o, h => by simp at h
  | x :: l, k, hB, i, o, h => by
    rw [fwB, Bool.and_eq_true] at hB
    intro e he
    cases i with
    | zero =>
      simp at h; subst h
      exact of_decide_eq_true ((Array.all_eq_true_iff_forall_mem.1 hB.1) e he)
    | succ i =>
      have := fwB_get l (k + 1) hB.2 i o (by simpa using h) e he
      omega

def depsF (listed : Array Bool) : List Edge → Prop
  | [] => True
  | e :: es => (Region.binds .any e = true → doneAt listed e.on) ∧ depsF listed es
theorem depsF_of {listed : Array Bool} : ∀ (es : List Edge), (∀ e ∈ es, Region.binds .any e = true → doneAt listed e.on) → depsF listed es
  | [], _ => trivial
  | e :: es, h => ⟨h e (by simp), depsF_of es (fun e' he' => h e' (by simp [he']))⟩

theorem depsF_mem {listed : Array Bool} : ∀ {es : List Edge}, depsF listed es → ∀ e ∈ es, Region.binds .any e = true → doneAt listed e.on
  | [], _, e, he, _ => by simp at he
  | x :: es, h, e, he, hb => by
    rcases List.mem_cons.1 he with rfl | he
    · exact h.1 hb
    · exact depsF_mem h.2 e he hb

/-- One proof for each operation. -/
def stepsF (P : Program) (ops : Array Oper) (Q : Exit → Act → World → Prop) (I : Array Bool → Act → World → Prop) : List Oper → Nat → Prop
  | [], _ => True
  | o :: rest, k => (∀ (listed : Array Bool) (a : Act) (w : World), k < listed.size → ¬ doneAt listed k → depsF listed o.after.toList → I listed a w →
      ∀ K' : Act → World → Prop, Shut (∀ a' w', I (listed.setIfInBounds k true) a' w' → K' a' w') → if Region.wanted o (yielded ops a.tmps) = true then Oper.wp P o a w K' Q else K' (a.put o.dst undef) w) ∧ stepsF P ops Q I rest (k + 1)
theorem stepsF_get {P : Program} {ops : Array Oper} {Q : Exit → Act → World → Prop} {I : Array Bool → Act → World → Prop} : ∀ (l : List Oper) (k : Nat), stepsF P ops Q I l k → ∀ (i : Nat) (o : Oper), l[i]? = some o →
    ∀ (listed : Array Bool) (a : Act) (w : World), k + i < listed.size → ¬ doneAt listed (k + i) → depsF listed o.after.toList → I listed a w →
      ∀ K' : Act → World → Prop, Shut (∀ a' w', I (listed.setIfInBounds (k + i) true) a' w' → K' a' w') → if Region.wanted o (yielded ops a.tmps) = true then Oper.wp P o a w K' Q else K' (a.put o.dst undef) w
  | [], _, _, i, o, h => by simp at h
  | x :: l, k, hS, i, o, h => by
    cases i with
    | zero => simp at h; subst h; exact hS.1
    | succ i =>
      have := stepsF_get l (k + 1) hS.2 i o (by simpa using h)
      rw [show k + 1 + i = k + (i + 1) by omega] at this
      exact this

theorem wp_region_steps {P : Program} {id : Nat} {Q : Exit → Act → World → Prop} {a : Act} {w : World} {l : List Oper} (I : Array Bool → Act → World → Prop) (hm : P.follows .mixedOrders = true)
    (hfw : fwB 0 l = true) (start : I (Array.replicate l.length false) a w.drew) (steps : stepsF P l.toArray Q I l 0)
    (done : ∀ listed a w, (∀ i, i < l.length → doneAt listed i) → I listed a w → Q .normal a w) : (Code.region id l.toArray true).wp P Q a w :=
  wp_region_inv I hm (fun i o ho e he => by have := fwB_get l 0 hfw i o ho e he; omega) start
    (fun i o listed a w ho _ hi hnd hdep hI K' hK => by
      have := stepsF_get l 0 steps i o ho listed a w (by omega) (by rw [Nat.zero_add]; exact hnd) (depsF_of _ (fun e he => hdep e (by simpa using he))) hI K'
      rw [Nat.zero_add] at this
      exact this hK) done
theorem not_done_start (m k : Nat) : ¬ doneAt (Array.replicate m false) k := by
  unfold doneAt
  rw [Array.getD_eq_getD_getElem?, Array.getElem?_replicate]
  split <;> simp

end Go.Proofs.Ytnjcmlmgjoaeeaa

namespace Go.Proofs.Ytnjcmlmgjoaeeaa
open Go.RowKit

/-- Where an operation of the first region leaves what it yields. -/
def slotD (j : Nat) : Nat := if j = 17 then 3 else j + 7
def updD (v : Nat → Value) (d : Nat) (x : Value) : Nat → Value := fun i => if i = d then x else v i
def LitD (base : Nat) (w : World) (v : Value) (k : Nat) : Prop := ∃ (g : Nat) (cs : List Int), v = .slice (some ⟨g, 0, none⟩) k k ∧ cs.length = k ∧ w.heap[g]? = some (.cells (cs.map (Value.int .i64)).toArray 3 (0, 0)) ∧ base ≤ g
def PtrD (base : Nat) (w : World) (v : Value) : Prop := ∃ (g i : Nat) (y : Int), v = .pointer (some ⟨g, i, none⟩) ∧ w.cell? ⟨g, i, none⟩ = some (.int .i64 y) ∧ base ≤ g
def IntD (v : Value) : Prop := ∃ y : Int, v = .int .i64 y
def LowD (v : Value) (k : Nat) : Prop := ∃ i : Nat, v = .int .i64 i ∧ i < k
def FraD (base : Nat) (w : World) (v : Value) : Prop := ∃ (g : Nat) (p wd ht rs : Int), v = .pointer (some ⟨g, 0, none⟩) ∧ w.heap[g]? = some (.cells #[.int .i64 p, .int .i64 wd, .int .i64 ht, .int .i64 rs, .slice none 0 0] 26 (0, 0)) ∧ base ≤ g
/-- What an operation of the first region yields. -/
def yieldD (tb base : Nat) (w : World) (v : Value) : Nat → Prop
  | 0 => LitD base w v 3
  | 2 => LowD v 3
  | 3 => PtrD base w v
  | 11 => LitD base w v 5
  | 13 => LowD v 5
  | 14 => PtrD base w v
  | 1 => v = .pointer (some ⟨tb, 0, none⟩)
  | 5 => v = .pointer (some ⟨tb, 0, none⟩)
  | 8 => v = .pointer (some ⟨tb, 0, none⟩)
  | 12 => v = .pointer (some ⟨tb, 0, none⟩)
  | 16 => ∃ p wd ht rs : Int, v = .agg #[.int .i64 p, .int .i64 wd, .int .i64 ht, .int .i64 rs, .slice none 0 0]
  | 17 => FraD base w v
  | _ => IntD v

theorem yieldD_mono {tb base : Nat} {w w' : World} {v : Value} {j : Nat} (htb : tb < base) (hg : w.grownBy w' (some tb)) (h : yieldD tb base w v j) : yieldD tb base w' v j := by
  have lit : ∀ k, LitD base w v k → LitD base w' v k := fun k ⟨g, cs, e, hl, hb, hge⟩ => ⟨g, cs, e, hl, (hg.block g (Array.getElem?_eq_some_iff.1 hb).1 (by simp; omega)).trans hb, hge⟩
  have ptr : PtrD base w v → PtrD base w' v := fun ⟨g, i, y, e, hc, hge⟩ => ⟨g, i, y, e, hg.cell hc (by simp; omega), hge⟩
  have fra : FraD base w v → FraD base w' v := fun ⟨g, p, wd, ht, rs, e, hb, hge⟩ => ⟨g, p, wd, ht, rs, e, (hg.block g (Array.getElem?_eq_some_iff.1 hb).1 (by simp; omega)).trans hb, hge⟩
  unfold yieldD at h ⊢
  split at h <;> first | exact lit _ h | exact ptr h | exact fra h | exact h

def actD (tb rb : Nat) (v : Nat → Value) : Act := { tmps := #[.pointer (some ⟨tb, 0, none⟩), undef, .pointer (some ⟨rb, 0, none⟩), v 3, undef, undef, undef, v 7, v 8, v 9, v 10, v 11, v 12, v 13, v 14, v 15, v 16, v 17, v 18, v 19, v 20, v 21, v 22, v 23, undef, undef, undef, undef, undef, undef, undef, undef, undef, undef, undef, undef, undef, undef, undef, undef, undef, undef, undef, undef, undef, undef, undef, undef, undef, undef, undef, undef, undef, undef, undef, undef, undef, undef, undef, undef, undef, undef, undef, undef, undef, undef, undef, undef, undef, undef, undef, undef], defers := [] }

theorem grown_weak {w w' : World} {row : Option Nat} (h : w.grownBy w' none) : w.grownBy w' row :=
  ⟨h.os, h.tape, h.output, h.size, fun k hk _ => h.block k hk (by simp)⟩

theorem getD_set {listed : Array Bool} {i k : Nat} (hi : i < listed.size) : (listed.setIfInBounds i true).getD k false = if k = i then true else listed.getD k false := by
  rw [Array.getD_eq_getD_getElem?, Array.getElem?_setIfInBounds, Array.getD_eq_getD_getElem?]
  by_cases e : i = k
  · subst e; simp [hi]
  · rw [if_neg e, if_neg (fun h => e h.symm)]
/-- Twice how many picks are done. -/
def cntD (listed : Array Bool) : Nat := 2 * ((listed.getD 2 false).toNat + (listed.getD 6 false).toNat + (listed.getD 9 false).toNat + (listed.getD 13 false).toNat)
theorem cntD_le (listed : Array Bool) : cntD listed ≤ 8 := by
  unfold cntD
  cases listed.getD 2 false <;> cases listed.getD 6 false <;> cases listed.getD 9 false <;> cases listed.getD 13 false <;> simp
theorem cntD_mono {listed : Array Bool} {k : Nat} (hi : k < listed.size) : cntD listed ≤ cntD (listed.setIfInBounds k true) := by
  unfold cntD
  have : ∀ m, (listed.getD m false).toNat ≤ ((listed.setIfInBounds k true).getD m false).toNat := fun m => by
    rw [getD_set hi]; split
    · cases listed.getD m false <;> simp
    · exact Nat.le_refl _
  have h1 := this 2
  have h2 := this 6
  have h3 := this 9
  have h4 := this 13
  omega
theorem cntD_pick {listed : Array Bool} {k : Nat} (hi : k < listed.size) (hnd : ¬ doneAt listed k) (hp : k = 2 ∨ k = 6 ∨ k = 9 ∨ k = 13) : cntD (listed.setIfInBounds k true) = cntD listed + 2 := by
  have hf : listed.getD k false = false := by simpa [doneAt] using hnd
  unfold cntD
  rcases hp with rfl | rfl | rfl | rfl <;> simp only [getD_set hi, hf] <;> simp <;> omega

/-- What holds while the first region goes. -/
def InvD (tb base : Nat) (ao : Option Addr) (n cap p : Nat) (zs : List Int) (wx : World) (v : Nat → Value) (listed : Array Bool) (w : World) : Prop :=
  wx.grownBy w (some tb) ∧ (∃ q, Cur w tb ao n cap zs q ∧ q ≤ p + cntD listed) ∧
    ((doneAt listed 18 ∧ FraD base w (v 3) ∧ ∀ j, j ≤ 17 → doneAt listed j) ∨ ∀ j, j ≤ 17 → doneAt listed j → yieldD tb base w (v (slotD j)) j)

theorem InvD.have {tb base : Nat} {ao : Option Addr} {n cap p : Nat} {zs : List Int} {wx : World} {v : Nat → Value} {listed : Array Bool} {w : World} (h : InvD tb base ao n cap p zs wx v listed w) {k : Nat} (hk : k ≤ 17) (hnd : ¬ doneAt listed k) : ∀ j, j ≤ 17 → doneAt listed j → yieldD tb base w (v (slotD j)) j := by
  rcases h.2.2 with ⟨_, _, h3⟩ | h3
  · exact absurd (h3 k hk) hnd
  · exact h3

theorem InvD.facts {tb base : Nat} {w w' : World} {v : Nat → Value} {listed : Array Bool} {k : Nat} (h3 : ∀ j, j ≤ 17 → doneAt listed j → yieldD tb base w (v (slotD j)) j) (hk : k ≤ 17) (hi : k < listed.size) (htb : tb < base) (hg : w.grownBy w' (some tb)) {x : Value} (hx : yieldD tb base w' x k) :
    ∀ j, j ≤ 17 → doneAt (listed.setIfInBounds k true) j → yieldD tb base w' (updD v (slotD k) x (slotD j)) j := by
  intro j hj hd
  by_cases e : j = k
  · subst e
    simp only [updD, if_pos]
    exact hx
  · have hd' : doneAt listed j := by rcases (doneAt_set hi).1 hd with h | h; exact absurd h e; exact h
    have hne : slotD j ≠ slotD k := by unfold slotD; split <;> split <;> omega
    simp only [updD, if_neg hne]
    exact yieldD_mono htb hg (h3 j hj hd')

/-- A step that leaves the cursor. -/
theorem InvD.step {tb base : Nat} {ao : Option Addr} {n cap p : Nat} {zs : List Int} {wx : World} {v : Nat → Value} {listed : Array Bool} {w w' : World} (h : InvD tb base ao n cap p zs wx v listed w) {k : Nat} (hk : k ≤ 17) (hi : k < listed.size) (hnd : ¬ doneAt listed k)
    (htb : tb < base) (hg : w.grownBy w' none) {x : Value} (hx : yieldD tb base w' x k) : InvD tb base ao n cap p zs wx (updD v (slotD k) x) (listed.setIfInBounds k true) w' := by
  have h3 := h.have hk hnd
  obtain ⟨h1, ⟨q, hc, q0⟩, _⟩ := h
  exact ⟨grown_tb h1 hg (fun g e => by simp at e), ⟨q, hc.grown hg, by have := cntD_mono hi; omega⟩, .inr (InvD.facts h3 hk hi htb (grown_weak hg) hx)⟩

/-- A step that picks. -/
theorem InvD.pick {tb base : Nat} {ao : Option Addr} {n cap p q q' : Nat} {zs : List Int} {wx : World} {v : Nat → Value} {listed : Array Bool} {w w' : World} (h : InvD tb base ao n cap p zs wx v listed w) {k : Nat} (hk : k = 2 ∨ k = 6 ∨ k = 9 ∨ k = 13) (hi : k < listed.size) (hnd : ¬ doneAt listed k)
    (htb : tb < base) (hg : w.grownBy w' (some tb)) {x : Value} (hx : yieldD tb base w' x k) (hc' : Cur w' tb ao n cap zs q') (hq : q ≤ p + cntD listed) (hq' : q' ≤ q + 2) :
    InvD tb base ao n cap p zs wx (updD v (slotD k) x) (listed.setIfInBounds k true) w' := by
  have h3 := h.have (k := k) (by omega) hnd
  exact ⟨grown_trans h.1 hg, ⟨q', hc', by rw [cntD_pick hi hnd hk]; omega⟩, .inr (InvD.facts h3 (by omega) hi htb hg hx)⟩

end Go.Proofs.Ytnjcmlmgjoaeeaa

namespace Go.Proofs.Ytnjcmlmgjoaeeaa
open Go.RowKit

/-- The components, where the frame lies, as what is to be appended. -/
theorem fx_news {X : Array Value} {p wd ht rs n : Int} {C : Nat → Nat → Int} (hX : Fx X p wd ht rs n C) {w : World} {g : Nat} {t : TypeId} (hb : w.heap[g]? = some (.cells X t (0, 0))) (m : Nat) (hm : m ≤ 4) :
    ∀ j u, (rowsK m 4 (compCells C))[j]? = some u → w.cell? ((⟨g, 5, none⟩ : Addr).add j) = some u := by
  intro j u hj
  have hjl : j < m * 4 := by have := (List.getElem?_eq_some_iff.1 hj).1; rwa [rowsK_len] at this
  have hd : j = j / 4 * 4 + j % 4 := by omega
  have hg := rowsK_get m 4 (compCells C) (j / 4) (j % 4) (by omega) (by omega)
  rw [← hd, hj] at hg
  simp at hg
  subst hg
  rw [Addr.add_lit]
  have := fx_cell hX hb (j / 4) (j % 4) (by omega) (by omega)
  rw [Nat.add_assoc, ← hd] at this
  exact this

theorem frameFree {w : World} {g : Nat} {a b c d v : Value} {t : TypeId} (hb : w.heap[g]? = some (.cells #[a, b, c, d, v] t (0, 0))) :
    w.frozen? ⟨g, 0, none⟩ = false ∧ w.frozen? ⟨g, 1, none⟩ = false ∧ w.frozen? ⟨g, 2, none⟩ = false ∧ w.frozen? ⟨g, 3, none⟩ = false ∧ w.frozen? ⟨g, 4, none⟩ = false :=
  ⟨frozen_of_row w _ 0 _ _ hb, frozen_of_row w _ 1 _ _ hb, frozen_of_row w _ 2 _ _ hb, frozen_of_row w _ 3 _ _ hb, frozen_of_row w _ 4 _ _ hb⟩
theorem own_as4 {w : World} {base : Nat} {e : TypeId} {v : Value} {n n' : Nat} {xs xs' : List Value} (h : w.ownsRow base e 4 v n xs) (hn : n = n') (hx : xs = xs') : w.ownsRow base e 4 v n' xs' := by subst hn; subst hx; exact h

theorem readF_cases {zs : List Int} {ok : Bool} {p wd ht rs : Int} {m : Nat} (h : readF zs = (ok, p, wd, ht, rs, m)) :
    (ok = false ∧ readOk zs = false ∧ p = 0 ∧ wd = 0 ∧ ht = 0 ∧ rs = 0 ∧ m = 0) ∨ (ok = true ∧ readOk zs = true ∧ p = zs.getD 0 0 ∧ wd = zs.getD 1 0 + 1 ∧ ht = zs.getD 2 0 + 1 ∧ rs = zs.getD 3 0 ∧ m = (zs.getD 4 0).toNat) := by
  unfold readF at h
  cases hr : readOk zs with
  | false => rw [hr] at h; simp at h; obtain ⟨rfl, rfl, rfl, rfl, rfl, rfl⟩ := h; exact .inl ⟨rfl, rfl, rfl, rfl, rfl, rfl, rfl⟩
  | true => rw [hr] at h; simp at h; obtain ⟨rfl, rfl, rfl, rfl, rfl, rfl⟩ := h; exact .inr ⟨rfl, rfl, by simp, by simp, by simp, by simp, by simp⟩

theorem read_comp_small {zs : List Int} (h : readOk zs = true) : (zs.getD 4 0).toNat ≤ 4 ∧ ((zs.getD 0 0 == 0) = false) := by
  rw [readOk, Bool.and_eq_true] at h
  obtain ⟨⟨hp, _⟩, hn, _⟩ := frameB_facts h.2
  refine ⟨hn.2, ?_⟩
  rcases hp with e | e <;> rw [e] <;> rfl

end Go.Proofs.Ytnjcmlmgjoaeeaa

namespace Go.Proofs.Ytnjcmlmgjoaeeaa
open Go.RowKit

theorem one5 (a b c d : Int) (ao : Option Addr) (n c' : Nat) : (#[.int .i64 a, .int .i64 b, .int .i64 c, .int .i64 d, .slice ao n c'] : Array Value).all (·.oneCell') = true := by
  rw [Array.all_eq_true_iff_forall_mem]
  intro v hv
  simp at hv
  rcases hv with rfl | rfl | rfl | rfl | rfl <;> rfl

theorem rowsK_comp (C : Nat → Nat → Int) (k : Nat) (y0 y1 y2 y3 : Int) (h : C k = fun j => if j = 0 then y0 else if j = 1 then y1 else if j = 2 then y2 else y3) :
    rowsK (k + 1) 4 (compCells C) = rowsK k 4 (compCells C) ++ [.int .i64 y0, .int .i64 y1, .int .i64 y2, .int .i64 y3] := by
  apply List.ext_getElem?
  intro c
  by_cases hc : c < k * 4
  · rw [List.getElem?_append_left (by rw [rowsK_len]; exact hc)]
    have hd : c = c / 4 * 4 + c % 4 := by omega
    have e1 := rowsK_get (k + 1) 4 (compCells C) (c / 4) (c % 4) (by omega) (by omega)
    have e2 := rowsK_get k 4 (compCells C) (c / 4) (c % 4) (by omega) (by omega)
    rw [← hd] at e1 e2
    rw [e1, e2]
  · rw [List.getElem?_append_right (by rw [rowsK_len]; omega), rowsK_len]
    by_cases h4 : c - k * 4 < 4
    · have e1 := rowsK_get (k + 1) 4 (compCells C) k (c - k * 4) (by omega) h4
      rw [show k * 4 + (c - k * 4) = c by omega] at e1
      rw [e1]
      have hj : c - k * 4 = 0 ∨ c - k * 4 = 1 ∨ c - k * 4 = 2 ∨ c - k * 4 = 3 := by omega
      rcases hj with e | e | e | e <;> rw [e] <;> simp [compCells, h]
    · rw [List.getElem?_eq_none (by rw [rowsK_len]; omega), List.getElem?_eq_none (by simp; omega)]

end Go.Proofs.Ytnjcmlmgjoaeeaa

namespace Go.Proofs.Ytnjcmlmgjoaeeaa
open Go.RowKit

/-- One component more. -/
def pushC (C : Nat → Nat → Int) (m : Nat) (y0 y1 y2 y3 : Int) : Nat → Nat → Int := fun i => if i = m then (fun j => if j = 0 then y0 else if j = 1 then y1 else if j = 2 then y2 else y3) else C i
theorem rowsK_push (C : Nat → Nat → Int) (m : Nat) (y0 y1 y2 y3 : Int) : rowsK m 4 (compCells C) ++ [.int .i64 y0, .int .i64 y1, .int .i64 y2, .int .i64 y3] = rowsK (m + 1) 4 (compCells (pushC C m y0 y1 y2 y3)) := by
  have e : rowsK m 4 (compCells C) = rowsK m 4 (compCells (pushC C m y0 y1 y2 y3)) := rowsK_congr (fun i j hi _ => by simp [compCells, pushC, show ¬ i = m by omega])
  rw [e]
  exact (rowsK_comp (pushC C m y0 y1 y2 y3) m y0 y1 y2 y3 (by simp [pushC])).symm

/-- What holds of the frame that is drawn, at a step of the loop. -/
def BunD (wx : World) (tb g m q sz xb : Nat) (ao : Option Addr) (n cap : Nat) (zs : List Int) (so : Option Addr) (sc : Nat) (C : Nat → Nat → Int) (p0 wd0 ht0 rs0 : Int) (W : World) : Prop :=
  W.heap[g]? = some (.cells #[.int .i64 p0, .int .i64 wd0, .int .i64 ht0, .int .i64 rs0, .slice so m sc] 26 (0, 0)) ∧ W.ownsRow (g + 1) 68 4 (.slice so m sc) m (rowsK m 4 (compCells C)) ∧ Cur W tb ao n cap zs q ∧ wx.grownBy W (some tb) ∧ W.heap.size = sz ∧ ∀ g', (Value.slice so m sc).ownBlock = some g' → g' < xb
theorem BunD.set {wx : World} {tb g m q sz xb : Nat} {ao : Option Addr} {n cap : Nat} {zs : List Int} {so : Option Addr} {sc : Nat} {C : Nat → Nat → Int} {p0 wd0 ht0 rs0 : Int} {W : World} (h : BunD wx tb g m q sz xb ao n cap zs so sc C p0 wd0 ht0 rs0 W) (hx : wx.heap.size ≤ xb) (hg : g ≠ xb) (ht : tb < wx.heap.size) (hcode : 0 < n → ∀ b off, ao = some ⟨b, off, none⟩ → b < wx.heap.size) (j : Nat) (u : Value) :
    BunD wx tb g m q sz xb ao n cap zs so sc C p0 wd0 ht0 rs0 (W.setCell ⟨xb, j, none⟩ u) := by
  obtain ⟨h1, h2, h3, h4, h5, h6⟩ := h
  have hs := grown_set W xb j u
  refine ⟨(hs.block g (Array.getElem?_eq_some_iff.1 h1).1 (by simp; omega)).trans h1, own_sameAt h2 (fun g' e => Below.heap_setCell _ _ _ _ ?_), h3.beside hs (fun g' e => by simp at e; exact ⟨by omega, fun h b off e' => by have := hcode h b off e'; omega⟩), grown_tb h4 hs (fun g' e => by simp at e; omega), by simpa using h5, h6⟩
  have := h6 g' e
  show g' ≠ xb
  omega

theorem compCells4 {w : World} {g : Nat} {a b c d : Value} {t : TypeId} (hb : w.heap[g]? = some (.cells #[a, b, c, d] t (0, 0))) :
    w.cell? ⟨g, 0, none⟩ = some a ∧ w.cell? ⟨g, 1, none⟩ = some b ∧ w.cell? ⟨g, 2, none⟩ = some c ∧ w.cell? ⟨g, 3, none⟩ = some d :=
  ⟨by rw [cell_of_row w _ 0 _ _ (0, 0) hb]; rfl, by rw [cell_of_row w _ 1 _ _ (0, 0) hb]; rfl, by rw [cell_of_row w _ 2 _ _ (0, 0) hb]; rfl, by rw [cell_of_row w _ 3 _ _ (0, 0) hb]; rfl⟩
theorem compFree4 {w : World} {g : Nat} {cs : Array Value} {t : TypeId} (hb : w.heap[g]? = some (.cells cs t (0, 0))) : w.frozen? ⟨g, 1, none⟩ = false ∧ w.frozen? ⟨g, 2, none⟩ = false :=
  ⟨frozen_of_row w _ 1 _ _ hb, frozen_of_row w _ 2 _ _ hb⟩

set_option maxRecDepth 20000 in
set_option maxHeartbeats 3200000 in
theorem drawFrame (tb : Nat) (ao : Option Addr) (n cap p : Nat) (zs : List Int) (w : World) (h : Cur w tb ao n cap zs p) (hp : p ≤ 1000000) (hcode : 0 < n → ∀ b off, ao = some ⟨b, off, none⟩ → b < w.heap.size) :
    Calls Try.prog 65 #[.pointer (some ⟨tb, 0, none⟩)] w fun e w' => ∃ (p0 wd0 ht0 rs0 : Int) (C : Nat → Nat → Int) (m bc q' : Nat) (bo : Option Addr), e = .returned (.agg #[.int .i64 p0, .int .i64 wd0, .int .i64 ht0, .int .i64 rs0, .slice bo m bc]) ∧ 1 ≤ m ∧ m ≤ 4 ∧
      w'.ownsRow w.heap.size 68 4 (.slice bo m bc) m (rowsK m 4 (compCells C)) ∧ Cur w' tb ao n cap zs q' ∧ q' ≤ p + 100 ∧ w.grownBy w' (some tb) := by
  obtain ⟨ic, hic, hz0, hz1, hz2⟩ := info_parts Try.info68
  have htb : tb < w.heap.size := h.lt
  have H := hide h
  have HC := hide hcode
  clear hcode
  clear h
  have G0 : Hid (w.grownBy (w.alloc (.cells #[.int .i64 0, .int .i64 0, .int .i64 0, .int .i64 0, .slice none 0 0] 26)) none) := grown_alloc (World.grownBy.refl _ _) _
  have HB0 := hide (heap_alloc_new w (.cells #[.int .i64 0, .int .i64 0, .int .i64 0, .int .i64 0, .slice none 0 0] 26))
  have hgs : w.heap.size < (w.alloc (.cells #[.int .i64 0, .int .i64 0, .int .i64 0, .int .i64 0, .slice none 0 0] 26)).heap.size := by simp
  go_enter Try.func65, Try.ntmps65
  go_wp2_with fail
  generalize (w.alloc (.cells #[.int .i64 0, .int .i64 0, .int .i64 0, .int .i64 0, .slice none 0 0] 26)) = wx at *
  have HX := hide ((unhide H).grown (unhide G0))
  have hbt : tb < wx.heap.size := by omega
  refine wp_region_steps (fun listed a w' => ∃ v, a = actD tb w.heap.size v ∧ InvD tb wx.heap.size ao n cap p zs wx v listed w') (by kernel_rfl) (by kernel_rfl) ?start ?steps ?done
  case start =>
    refine ⟨fun _ => undef, rfl, grown_weak (grown_drew (World.grownBy.refl _ _)), ⟨p, (unhide HX).grown (grown_drew (World.grownBy.refl _ _)), by omega⟩, .inr (fun j _ hd => absurd hd (not_done_start _ _))⟩
  case done =>
    rintro listed a w1 hall ⟨v, rfl, g1, ⟨q, hc, q0⟩, hJ⟩
    have hq8 := cntD_le listed
    have hF : FraD wx.heap.size w1 (v 3) := by
      rcases hJ with ⟨_, h, _⟩ | h
      · exact h
      · exact h 17 (by omega) (hall 17 (by decide))
    obtain ⟨g, p0, wd0, ht0, rs0, e3, hb, hge⟩ := hF
    have hqp : q ≤ p + 8 := by omega
    clear hall hJ q0 hq8
    unfold actD
    rw [e3]
    go_wp2_with fail
    refine (pick_of tb ao n cap q 4 zs w1 hc (by omega) (by omega) (by omega)).mono ?_
    rintro e w2 ⟨x, q2, rfl, hx0, hx1, hc2, hq2, g2⟩
    obtain ⟨k0, rfl⟩ := Int.eq_ofNat_of_zero_le hx0
    have hb2 := (g2.block g (Array.getElem?_eq_some_iff.1 hb).1 (by simp; omega)).trans hb
    have G2 := grown_trans g1 g2
    have hk1 := i64_in (1 + (k0 : Int)) (by omega)
    clear g1 g2 hc hb
    generalize v 7 = v7
    generalize v 8 = v8
    generalize v 9 = v9
    generalize v 10 = v10
    generalize v 11 = v11
    generalize v 12 = v12
    generalize v 13 = v13
    generalize v 14 = v14
    generalize v 15 = v15
    generalize v 16 = v16
    generalize v 17 = v17
    generalize v 18 = v18
    generalize v 19 = v19
    generalize v 20 = v20
    generalize v 21 = v21
    generalize v 22 = v22
    generalize v 23 = v23
    go_wp2_with fail
    go_loopw [4, 5] (fun al i wr => ∃ (al' : Int) (C : Nat → Nat → Int) (k m q' : Nat) (vc : Value), al = .int .i64 al' ∧ i = .int .i64 k ∧ m + k = 1 + k0 ∧ wr.heap[g]? = some (.cells #[.int .i64 p0, .int .i64 wd0, .int .i64 ht0, .int .i64 rs0, vc] 26 (0, 0)) ∧
      wr.ownsRow (g + 1) 68 4 vc m (rowsK m 4 (compCells C)) ∧ Cur wr tb ao n cap zs q' ∧ q' ≤ p + 10 + 20 * m ∧ wx.grownBy wr (some tb)) (fun _ i _ => (intOf i).toNat)
    case atStart => exact ⟨0, fun _ _ => 0, 1 + k0, 0, q2, .slice none 0 0, rfl, by simp, by omega, hb2, World.ownsRow_nil _ _ _ _, hc2, by omega, G2⟩
    case round =>
      obtain ⟨al', C, k, m, q', vc, rfl, rfl, hmk, hbk, hob, hck, hqk, hgk⟩ := hrel
      by_cases hk : 0 < k
      · have hd : decide ((0 : Int) < (k : Int)) = true := by simp; omega
        go_wp2_with fail
        refine (pick_of tb ao n cap q' 2 zs wr hck (by omega) (by omega) (by omega)).mono ?_
        rintro e w3 ⟨x3, q3, rfl, _, _, hc3, hq3, g3⟩
        go_wp2_with fail
        refine (pick_of tb ao n cap q3 2 zs w3 hc3 (by omega) (by omega) (by omega)).mono ?_
        rintro e w4 ⟨x4, q4, rfl, _, _, hc4, hq4, g4⟩
        go_wp2_with fail
        refine (pick_of tb ao n cap q4 4 zs w4 hc4 (by omega) (by omega) (by omega)).mono ?_
        rintro e w5 ⟨x5, q5, rfl, _, _, hc5, hq5, g5⟩
        go_wp2_with fail
        have g35 := grown_trans (grown_trans g3 g4) g5
        have hb5 := (g35.block g (Array.getElem?_eq_some_iff.1 hbk).1 (by simp; omega)).trans hbk
        have ob5 := own_beneath hob g35 (fun g' t' h h' => by have := (hob.lt g' h).1; simp at h'; omega)
        have G5 := grown_trans hgk g35
        have hgl5 := (Array.getElem?_eq_some_iff.1 hb5).1
        have A5 : w5.grownBy (w5.alloc (.cells #[.int .i64 (10 * (k : Int)), .int .i64 (1 + x3), .int .i64 (1 + x4), .int .i64 x5] 68)) none := World.grownBy_alloc _ _ _
        have HN5 := hide (heap_alloc_new w5 (.cells #[.int .i64 (10 * (k : Int)), .int .i64 (1 + x3), .int .i64 (1 + x4), .int .i64 x5] 68))
        have hc5a := hc5.grown A5
        have hb5a := (A5.block g hgl5 (by simp)).trans hb5
        have ob5a := ob5.alloc (.cells #[.int .i64 (10 * (k : Int)), .int .i64 (1 + x3), .int .i64 (1 + x4), .int .i64 x5] 68)
        have G5a := grown_tb G5 A5 (fun g' e => by simp at e)
        have hxb : w5.heap.size < (w5.alloc (.cells #[.int .i64 (10 * (k : Int)), .int .i64 (1 + x3), .int .i64 (1 + x4), .int .i64 x5] 68)).heap.size := by simp
        have OBL : Hid (∀ g', vc.ownBlock = some g' → g + 1 ≤ g' ∧ g' < w5.heap.size) := fun g' e => ob5.lt g' e
        clear g3 g4 g5 g35 hob hgk hck hc3 hc4 hbk G5 ob5 hb5 hc5 A5
        generalize (w5.alloc (.cells #[.int .i64 (10 * (k : Int)), .int .i64 (1 + x3), .int .i64 (1 + x4), .int .i64 x5] 68)) = w5a at *
        refine (once_of tb ao n cap q5 12 zs w5a hc5a (by omega) (by omega) (by omega)).mono ?_
        rintro e w6 ⟨t, q6, rfl, hc6, hq6, g6⟩
        have hb6 := (g6.block g (Array.getElem?_eq_some_iff.1 hb5a).1 (by simp; omega)).trans hb5a
        have hn6 := (g6.block w5.heap.size hxb (by simp; omega)).trans (unhide HN5)
        have ob6 := own_beneath ob5a g6 (fun g' t' h h' => by have := (ob5a.lt g' h).1; simp at h'; omega)
        have G6 := grown_trans G5a g6
        have c6 := compCells4 hn6
        have f6 := compFree4 hn6
        generalize 10 * (k : Int) = c0 at *
        generalize 1 + x3 = c1 at *
        generalize 1 + x4 = c2 at *
        clear g6 hb5a ob5a G5a hc5a HN5
        have hne1 : ¬ g = w5.heap.size := by omega
        have hne2 : ¬ w5.heap.size = g := by omega
        have hz6 : w5.heap.size < w6.heap.size := (Array.getElem?_eq_some_iff.1 hn6).1
        obtain ⟨so, sc, hv⟩ := own_form ob6
        subst hv
        have OB6 := hide ob6
        clear ob6
        have B6 : BunD wx tb g m q6 w6.heap.size w5.heap.size ao n cap zs so sc C p0 wd0 ht0 rs0 w6 := ⟨hb6, unhide OB6, hc6, G6, rfl, fun g' e => (unhide OBL g' e).2⟩
        have HCX : Hid (0 < n → ∀ b off, ao = some ⟨b, off, none⟩ → b < wx.heap.size) := fun h b off e => by have := unhide HC h b off e; omega
        have hxx : wx.heap.size ≤ w5.heap.size := by omega
        have k6 := frameCells5 hb6
        have l6 := frameFree hb6
        cases t
        · by_cases hbig : (10 : Int) < wrap64 (al' + wrap64 (c1 * c2))
          · have hdb : decide ((10 : Int) < wrap64 (al' + wrap64 (c1 * c2))) = true := decide_eq_true hbig
            have BU := hide ((B6.set hxx hne1 hbt (unhide HCX) 1 (.int .i64 1)).set hxx hne1 hbt (unhide HCX) 2 (.int .i64 1))
            clear B6 G6 hc6 OB6
            go_wp2_with (at_builtin; refine wpList_append_own _ rfl _ _ 24 rfl (g + 1) 68 ic _ 4 32 Try.underlying24 hic hz0 hz1 hz2 rfl (by decide) (.slice so m sc) m (rowsK m 4 (compCells C)) rfl ((unhide BU).2.1.alloc _) ⟨w6.heap.size, 0, none⟩ 1 1 [.int .i64 c0, .int .i64 1, .int .i64 1, .int .i64 x5] rfl rfl ?n1 ?n2 ?n3 ?n4 ?n5 ?_)
            case n1 =>
              have hnew := heap_alloc_new (((w6).setCell ⟨w5.heap.size, 1, none⟩ (.int .i64 1)).setCell ⟨w5.heap.size, 2, none⟩ (.int .i64 1)) (.cells #[.int .i64 c0, .int .i64 1, .int .i64 1, .int .i64 x5] 68)
              rw [(unhide BU).2.2.2.2.1] at hnew
              exact World.news_of_block (cs := #[.int .i64 c0, .int .i64 1, .int .i64 1, .int .i64 x5]) (t := 68) (fr := (0, 0)) hnew
            case n2 => intro u hu; simp at hu; rcases hu with rfl | rfl | rfl | rfl <;> rfl
            case n3 => unfold maxLen; omega
            case n4 => omega
            case n5 => simp; omega
            intro v8 w8 hown8 hgrow8 _
            have BU' := unhide BU
            clear BU
            generalize (((w6).setCell ⟨w5.heap.size, 1, none⟩ (.int .i64 1)).setCell ⟨w5.heap.size, 2, none⟩ (.int .i64 1)) = w6' at *
            obtain ⟨hb6', ob6', hc6', G6', _, _⟩ := BU'
            have A6 : w6'.grownBy (w6'.alloc (.cells #[.int .i64 c0, .int .i64 1, .int .i64 1, .int .i64 x5] 68)) none := World.grownBy_alloc _ _ _
            have hol : ∀ g', (Value.slice so m sc).ownBlock = some g' → g + 1 ≤ g' := fun g' e => (ob6'.lt g' e).1
            have hgl6 := (Array.getElem?_eq_some_iff.1 hb6').1
            have hb8 := (hgrow8.block g (Nat.lt_of_lt_of_le hgl6 A6.size) (fun e => by have := hol g e.symm; omega)).trans ((A6.block g hgl6 (by simp)).trans hb6')
            have hc8 := (hc6'.grown A6).beside hgrow8 (fun g' e => by have := hol g' e; exact ⟨by omega, fun h b off e' => by have := unhide HC h b off e'; omega⟩)
            have G8 := grown_tb (grown_tb G6' A6 (fun g' e => by simp at e)) hgrow8 (fun g' e => by have := hol g' e; omega)
            have O8 := own_as4 hown8 (n' := m + 1) rfl (rowsK_push C m c0 1 1 x5)
            obtain ⟨so8, sc8, hv8⟩ := own_form O8
            subst hv8
            have k8 := frameCells5 hb8
            have l8 := frameFree hb8
            have hb9 := heap_setCell_same w8 g 4 _ _ (.slice so8 (m + 1) sc8) hb8
            have G9 := grown_tb G8 (grown_set w8 g 4 (.slice so8 (m + 1) sc8)) (fun g' e => by simp at e; omega)
            have hc9 := hc8.beside (grown_set w8 g 4 (.slice so8 (m + 1) sc8)) (fun g' e => by simp at e; exact ⟨by omega, fun h b off e' => by have := unhide HC h b off e'; omega⟩)
            have O9 : (w8.setCell ⟨g, 4, none⟩ (.slice so8 (m + 1) sc8)).ownsRow (g + 1) 68 4 (.slice so8 (m + 1) sc8) (m + 1) (rowsK (m + 1) 4 (compCells (pushC C m c0 1 1 x5))) := by
              refine own_sameAt O8 (fun g' e => Below.heap_setCell _ _ _ _ ?_)
              have := (O8.lt g' e).1
              show g' ≠ g
              omega
            have H9 := hide (And.intro hb9 (And.intro O9 (And.intro hc9 G9)))
            clear hb9 G9 hc9 O9 hown8 hgrow8 A6 hb8 hc8 G8 O8 hb6' ob6' hc6' G6'
            go_wp2
            go_roundw
            case rel =>
              obtain ⟨hb9, O9, hc9, G9⟩ := unhide H9
              exact ⟨_, pushC C m c0 1 1 x5, k - 1, m + 1, q6, .slice so8 (m + 1) sc8, rfl, by go_num, by omega, hb9, O9, hc9, by omega, G9⟩
            case measure => simp [intOf]; omega
          · have hdb : decide ((10 : Int) < wrap64 (al' + wrap64 (c1 * c2))) = false := decide_eq_false hbig
            have BU := hide B6
            clear B6 G6 hc6 OB6
            go_wp2_with (at_builtin; refine wpList_append_own _ rfl _ _ 24 rfl (g + 1) 68 ic _ 4 32 Try.underlying24 hic hz0 hz1 hz2 rfl (by decide) (.slice so m sc) m (rowsK m 4 (compCells C)) rfl ((unhide BU).2.1.alloc _) ⟨w6.heap.size, 0, none⟩ 1 1 [.int .i64 c0, .int .i64 c1, .int .i64 c2, .int .i64 x5] rfl rfl ?n1 ?n2 ?n3 ?n4 ?n5 ?_)
            case n1 =>
              have hnew := heap_alloc_new (w6) (.cells #[.int .i64 c0, .int .i64 c1, .int .i64 c2, .int .i64 x5] 68)
              rw [(unhide BU).2.2.2.2.1] at hnew
              exact World.news_of_block (cs := #[.int .i64 c0, .int .i64 c1, .int .i64 c2, .int .i64 x5]) (t := 68) (fr := (0, 0)) hnew
            case n2 => intro u hu; simp at hu; rcases hu with rfl | rfl | rfl | rfl <;> rfl
            case n3 => unfold maxLen; omega
            case n4 => omega
            case n5 => simp; omega
            intro v8 w8 hown8 hgrow8 _
            have BU' := unhide BU
            clear BU
            obtain ⟨w6', hw6⟩ : ∃ w', w' = w6 := ⟨_, rfl⟩
            subst hw6
            obtain ⟨hb6', ob6', hc6', G6', _, _⟩ := BU'
            have A6 : w6'.grownBy (w6'.alloc (.cells #[.int .i64 c0, .int .i64 c1, .int .i64 c2, .int .i64 x5] 68)) none := World.grownBy_alloc _ _ _
            have hol : ∀ g', (Value.slice so m sc).ownBlock = some g' → g + 1 ≤ g' := fun g' e => (ob6'.lt g' e).1
            have hgl6 := (Array.getElem?_eq_some_iff.1 hb6').1
            have hb8 := (hgrow8.block g (Nat.lt_of_lt_of_le hgl6 A6.size) (fun e => by have := hol g e.symm; omega)).trans ((A6.block g hgl6 (by simp)).trans hb6')
            have hc8 := (hc6'.grown A6).beside hgrow8 (fun g' e => by have := hol g' e; exact ⟨by omega, fun h b off e' => by have := unhide HC h b off e'; omega⟩)
            have G8 := grown_tb (grown_tb G6' A6 (fun g' e => by simp at e)) hgrow8 (fun g' e => by have := hol g' e; omega)
            have O8 := own_as4 hown8 (n' := m + 1) rfl (rowsK_push C m c0 c1 c2 x5)
            obtain ⟨so8, sc8, hv8⟩ := own_form O8
            subst hv8
            have k8 := frameCells5 hb8
            have l8 := frameFree hb8
            have hb9 := heap_setCell_same w8 g 4 _ _ (.slice so8 (m + 1) sc8) hb8
            have G9 := grown_tb G8 (grown_set w8 g 4 (.slice so8 (m + 1) sc8)) (fun g' e => by simp at e; omega)
            have hc9 := hc8.beside (grown_set w8 g 4 (.slice so8 (m + 1) sc8)) (fun g' e => by simp at e; exact ⟨by omega, fun h b off e' => by have := unhide HC h b off e'; omega⟩)
            have O9 : (w8.setCell ⟨g, 4, none⟩ (.slice so8 (m + 1) sc8)).ownsRow (g + 1) 68 4 (.slice so8 (m + 1) sc8) (m + 1) (rowsK (m + 1) 4 (compCells (pushC C m c0 c1 c2 x5))) := by
              refine own_sameAt O8 (fun g' e => Below.heap_setCell _ _ _ _ ?_)
              have := (O8.lt g' e).1
              show g' ≠ g
              omega
            have H9 := hide (And.intro hb9 (And.intro O9 (And.intro hc9 G9)))
            clear hb9 G9 hc9 O9 hown8 hgrow8 A6 hb8 hc8 G8 O8 hb6' ob6' hc6' G6'
            go_wp2
            go_roundw
            case rel =>
              obtain ⟨hb9, O9, hc9, G9⟩ := unhide H9
              exact ⟨_, pushC C m c0 c1 c2 x5, k - 1, m + 1, q6, .slice so8 (m + 1) sc8, rfl, by go_num, by omega, hb9, O9, hc9, by omega, G9⟩
            case measure => simp [intOf]; omega
        · go_wp2_with fail
          refine (pick_of tb ao n cap q6 4 zs w6 hc6 (by omega) (by omega) (by omega)).mono ?_
          rintro e w7 ⟨x7, q7, rfl, hx70, hx71, hc7, hq7, g7⟩
          have hb7 := (g7.block g (Array.getElem?_eq_some_iff.1 hb6).1 (by simp; omega)).trans hb6
          have hn7 := (g7.block w5.heap.size hz6 (by simp; omega)).trans hn6
          have ob7 := own_beneath (unhide OB6) g7 (fun g' t' h h' => by have := ((unhide OB6).lt g' h).1; simp at h'; omega)
          have hz7 := g7.size
          have B7 := (show BunD wx tb g m q7 w7.heap.size w5.heap.size ao n cap zs so sc C p0 wd0 ht0 rs0 w7 from ⟨hb7, ob7, hc7, grown_trans G6 g7, rfl, fun g' e => (unhide OBL g' e).2⟩).set hxx hne1 hbt (unhide HCX) 1 (.int .i64 (1 + x7))
          have c7 := compCells4 hn7
          have f7 := compFree4 hn7
          have k7 := frameCells5 hb7
          have l7 := frameFree hb7
          clear B6 G6 hc6 OB6 g7 ob7 hc7 hb7 hn7 c6 f6 k6 l6
          by_cases hbig : (10 : Int) < wrap64 (al' + wrap64 ((1 + x7) * c2))
          · have hdb : decide ((10 : Int) < wrap64 (al' + wrap64 ((1 + x7) * c2))) = true := decide_eq_true hbig
            have BU := hide ((B7.set hxx hne1 hbt (unhide HCX) 1 (.int .i64 1)).set hxx hne1 hbt (unhide HCX) 2 (.int .i64 1))
            clear B7
            go_wp2_with (at_builtin; refine wpList_append_own _ rfl _ _ 24 rfl (g + 1) 68 ic _ 4 32 Try.underlying24 hic hz0 hz1 hz2 rfl (by decide) (.slice so m sc) m (rowsK m 4 (compCells C)) rfl ((unhide BU).2.1.alloc _) ⟨w7.heap.size, 0, none⟩ 1 1 [.int .i64 c0, .int .i64 1, .int .i64 1, .int .i64 x5] rfl rfl ?n1 ?n2 ?n3 ?n4 ?n5 ?_)
            case n1 =>
              have hnew := heap_alloc_new (((w7.setCell ⟨w5.heap.size, 1, none⟩ (.int .i64 (1 + x7))).setCell ⟨w5.heap.size, 1, none⟩ (.int .i64 1)).setCell ⟨w5.heap.size, 2, none⟩ (.int .i64 1)) (.cells #[.int .i64 c0, .int .i64 1, .int .i64 1, .int .i64 x5] 68)
              rw [(unhide BU).2.2.2.2.1] at hnew
              exact World.news_of_block (cs := #[.int .i64 c0, .int .i64 1, .int .i64 1, .int .i64 x5]) (t := 68) (fr := (0, 0)) hnew
            case n2 => intro u hu; simp at hu; rcases hu with rfl | rfl | rfl | rfl <;> rfl
            case n3 => unfold maxLen; omega
            case n4 => omega
            case n5 => simp; omega
            intro v8 w8 hown8 hgrow8 _
            have BU' := unhide BU
            clear BU
            generalize (((w7.setCell ⟨w5.heap.size, 1, none⟩ (.int .i64 (1 + x7))).setCell ⟨w5.heap.size, 1, none⟩ (.int .i64 1)).setCell ⟨w5.heap.size, 2, none⟩ (.int .i64 1)) = w6' at *
            obtain ⟨hb6', ob6', hc6', G6', _, _⟩ := BU'
            have A6 : w6'.grownBy (w6'.alloc (.cells #[.int .i64 c0, .int .i64 1, .int .i64 1, .int .i64 x5] 68)) none := World.grownBy_alloc _ _ _
            have hol : ∀ g', (Value.slice so m sc).ownBlock = some g' → g + 1 ≤ g' := fun g' e => (ob6'.lt g' e).1
            have hgl6 := (Array.getElem?_eq_some_iff.1 hb6').1
            have hb8 := (hgrow8.block g (Nat.lt_of_lt_of_le hgl6 A6.size) (fun e => by have := hol g e.symm; omega)).trans ((A6.block g hgl6 (by simp)).trans hb6')
            have hc8 := (hc6'.grown A6).beside hgrow8 (fun g' e => by have := hol g' e; exact ⟨by omega, fun h b off e' => by have := unhide HC h b off e'; omega⟩)
            have G8 := grown_tb (grown_tb G6' A6 (fun g' e => by simp at e)) hgrow8 (fun g' e => by have := hol g' e; omega)
            have O8 := own_as4 hown8 (n' := m + 1) rfl (rowsK_push C m c0 1 1 x5)
            obtain ⟨so8, sc8, hv8⟩ := own_form O8
            subst hv8
            have k8 := frameCells5 hb8
            have l8 := frameFree hb8
            have hb9 := heap_setCell_same w8 g 4 _ _ (.slice so8 (m + 1) sc8) hb8
            have G9 := grown_tb G8 (grown_set w8 g 4 (.slice so8 (m + 1) sc8)) (fun g' e => by simp at e; omega)
            have hc9 := hc8.beside (grown_set w8 g 4 (.slice so8 (m + 1) sc8)) (fun g' e => by simp at e; exact ⟨by omega, fun h b off e' => by have := unhide HC h b off e'; omega⟩)
            have O9 : (w8.setCell ⟨g, 4, none⟩ (.slice so8 (m + 1) sc8)).ownsRow (g + 1) 68 4 (.slice so8 (m + 1) sc8) (m + 1) (rowsK (m + 1) 4 (compCells (pushC C m c0 1 1 x5))) := by
              refine own_sameAt O8 (fun g' e => Below.heap_setCell _ _ _ _ ?_)
              have := (O8.lt g' e).1
              show g' ≠ g
              omega
            have H9 := hide (And.intro hb9 (And.intro O9 (And.intro hc9 G9)))
            clear hb9 G9 hc9 O9 hown8 hgrow8 A6 hb8 hc8 G8 O8 hb6' ob6' hc6' G6'
            go_wp2
            go_roundw
            case rel =>
              obtain ⟨hb9, O9, hc9, G9⟩ := unhide H9
              exact ⟨_, pushC C m c0 1 1 x5, k - 1, m + 1, q7, .slice so8 (m + 1) sc8, rfl, by go_num, by omega, hb9, O9, hc9, by omega, G9⟩
            case measure => simp [intOf]; omega
          · have hdb : decide ((10 : Int) < wrap64 (al' + wrap64 ((1 + x7) * c2))) = false := decide_eq_false hbig
            have BU := hide B7
            clear B7
            go_wp2_with (at_builtin; refine wpList_append_own _ rfl _ _ 24 rfl (g + 1) 68 ic _ 4 32 Try.underlying24 hic hz0 hz1 hz2 rfl (by decide) (.slice so m sc) m (rowsK m 4 (compCells C)) rfl ((unhide BU).2.1.alloc _) ⟨w7.heap.size, 0, none⟩ 1 1 [.int .i64 c0, .int .i64 (1 + x7), .int .i64 c2, .int .i64 x5] rfl rfl ?n1 ?n2 ?n3 ?n4 ?n5 ?_)
            case n1 =>
              have hnew := heap_alloc_new (w7.setCell ⟨w5.heap.size, 1, none⟩ (.int .i64 (1 + x7))) (.cells #[.int .i64 c0, .int .i64 (1 + x7), .int .i64 c2, .int .i64 x5] 68)
              rw [(unhide BU).2.2.2.2.1] at hnew
              exact World.news_of_block (cs := #[.int .i64 c0, .int .i64 (1 + x7), .int .i64 c2, .int .i64 x5]) (t := 68) (fr := (0, 0)) hnew
            case n2 => intro u hu; simp at hu; rcases hu with rfl | rfl | rfl | rfl <;> rfl
            case n3 => unfold maxLen; omega
            case n4 => omega
            case n5 => simp; omega
            intro v8 w8 hown8 hgrow8 _
            have BU' := unhide BU
            clear BU
            generalize (w7.setCell ⟨w5.heap.size, 1, none⟩ (.int .i64 (1 + x7))) = w6' at *
            obtain ⟨hb6', ob6', hc6', G6', _, _⟩ := BU'
            have A6 : w6'.grownBy (w6'.alloc (.cells #[.int .i64 c0, .int .i64 (1 + x7), .int .i64 c2, .int .i64 x5] 68)) none := World.grownBy_alloc _ _ _
            have hol : ∀ g', (Value.slice so m sc).ownBlock = some g' → g + 1 ≤ g' := fun g' e => (ob6'.lt g' e).1
            have hgl6 := (Array.getElem?_eq_some_iff.1 hb6').1
            have hb8 := (hgrow8.block g (Nat.lt_of_lt_of_le hgl6 A6.size) (fun e => by have := hol g e.symm; omega)).trans ((A6.block g hgl6 (by simp)).trans hb6')
            have hc8 := (hc6'.grown A6).beside hgrow8 (fun g' e => by have := hol g' e; exact ⟨by omega, fun h b off e' => by have := unhide HC h b off e'; omega⟩)
            have G8 := grown_tb (grown_tb G6' A6 (fun g' e => by simp at e)) hgrow8 (fun g' e => by have := hol g' e; omega)
            have O8 := own_as4 hown8 (n' := m + 1) rfl (rowsK_push C m c0 (1 + x7) c2 x5)
            obtain ⟨so8, sc8, hv8⟩ := own_form O8
            subst hv8
            have k8 := frameCells5 hb8
            have l8 := frameFree hb8
            have hb9 := heap_setCell_same w8 g 4 _ _ (.slice so8 (m + 1) sc8) hb8
            have G9 := grown_tb G8 (grown_set w8 g 4 (.slice so8 (m + 1) sc8)) (fun g' e => by simp at e; omega)
            have hc9 := hc8.beside (grown_set w8 g 4 (.slice so8 (m + 1) sc8)) (fun g' e => by simp at e; exact ⟨by omega, fun h b off e' => by have := unhide HC h b off e'; omega⟩)
            have O9 : (w8.setCell ⟨g, 4, none⟩ (.slice so8 (m + 1) sc8)).ownsRow (g + 1) 68 4 (.slice so8 (m + 1) sc8) (m + 1) (rowsK (m + 1) 4 (compCells (pushC C m c0 (1 + x7) c2 x5))) := by
              refine own_sameAt O8 (fun g' e => Below.heap_setCell _ _ _ _ ?_)
              have := (O8.lt g' e).1
              show g' ≠ g
              omega
            have H9 := hide (And.intro hb9 (And.intro O9 (And.intro hc9 G9)))
            clear hb9 G9 hc9 O9 hown8 hgrow8 A6 hb8 hc8 G8 O8 hb6' ob6' hc6' G6'
            go_wp2
            go_roundw
            case rel =>
              obtain ⟨hb9, O9, hc9, G9⟩ := unhide H9
              exact ⟨_, pushC C m c0 (1 + x7) c2 x5, k - 1, m + 1, q7, .slice so8 (m + 1) sc8, rfl, by go_num, by omega, hb9, O9, hc9, by omega, G9⟩
            case measure => simp [intOf]; omega
      · obtain rfl : k = 0 := by omega
        obtain ⟨so, sc, hv⟩ := own_form hob
        subst hv
        have kk := frameCells5 hbk
        have lk := frameFree hbk
        have hbr := (hgk.block w.heap.size hgs (by simp; omega)).trans (unhide HB0)
        have kr := frameCells5 hbr
        have lr := frameFree hbr
        have fr0 := frozen_of_row wr _ 0 _ _ hbr
        have fr1 := frozen_of_row wr _ 1 _ _ hbr
        have fr2 := frozen_of_row wr _ 2 _ _ hbr
        have fr3 := frozen_of_row wr _ 3 _ _ hbr
        have hner : ¬ g = w.heap.size := by omega
        have hner2 : ¬ w.heap.size = g := by omega
        have hq : ∀ (W : World) (j : Nat) (u : Value), (W.ownsRow (g + 1) 68 4 (.slice so m sc) m (rowsK m 4 (compCells C)) ∧ Cur W tb ao n cap zs q' ∧ w.grownBy W (some tb)) →
            ((W.setCell ⟨w.heap.size, j, none⟩ u).ownsRow (g + 1) 68 4 (.slice so m sc) m (rowsK m 4 (compCells C)) ∧ Cur (W.setCell ⟨w.heap.size, j, none⟩ u) tb ao n cap zs q' ∧ w.grownBy (W.setCell ⟨w.heap.size, j, none⟩ u) (some tb)) := by
          rintro W j u ⟨h1, h2, h3⟩
          refine ⟨own_sameAt h1 (fun g' e => Below.heap_setCell _ _ _ _ ?_), h2.beside (grown_set W _ j u) (fun g' e => by simp at e; exact ⟨by omega, fun h b off e' => by have := unhide HC h b off e'; omega⟩), grown_tb h3 (grown_set W _ j u) (fun g' e => by simp at e; omega)⟩
          have := (h1.lt g' e).1
          show g' ≠ w.heap.size
          omega
        have HQ := hide hq
        have HP := hide (And.intro hob (And.intro hck (grown_trans (grown_weak (unhide G0)) hgk)))
        clear hq hob hck hgk hbk hbr
        go_wp2
        refine bodyPost_ret (v := .agg #[.int .i64 p0, .int .i64 wd0, .int .i64 ht0, .int .i64 rs0, .slice so m sc]) (by simp [results, Try.results65, go_sem, *]) rfl ?_
        have hfin := unhide HQ _ 4 (.slice so m sc) (unhide HQ _ 3 (.int .i64 rs0) (unhide HQ _ 2 (.int .i64 ht0) (unhide HQ _ 1 (.int .i64 wd0) (unhide HQ _ 0 (.int .i64 p0) (unhide HP)))))
        exact ⟨p0, wd0, ht0, rs0, C, m, sc, q', so, rfl, by omega, by omega, own_base hfin.1 (by omega), hfin.2.1, by omega, hfin.2.2⟩
  case steps =>
    refine ⟨?_, ?_⟩
    · rintro listed a w1 hi hnd hd ⟨v, rfl, hJ⟩ K hK
      unfold actD
      go_simp
      refine hK.out _ _ ⟨_, rfl, hJ.step (by omega) hi hnd hbt (World.grownBy_alloc _ _ none) (x := .slice (some ⟨w1.heap.size, 0, none⟩) 3 3) ⟨w1.heap.size, [8, 8, 12], rfl, rfl, heap_alloc_new _ _, hJ.1.size⟩⟩
    refine ⟨?_, ?_⟩
    · rintro listed a w1 hi hnd hd ⟨v, rfl, hJ⟩ K hK
      unfold actD
      go_simp
      refine hK.out _ _ ⟨_, rfl, hJ.step (by omega) hi hnd hbt (World.grownBy.refl _ none) (x := .pointer (some ⟨tb, 0, none⟩)) rfl⟩
    refine ⟨?_, ?_⟩
    · rintro listed a w1 hi hnd hd ⟨v, rfl, hJ⟩ K hK
      have hd' : depsF listed [{ on := 1, ground := .data }] := hd
      simp only [depsF, and_true] at hd'
      have d1 := hd' (by rfl)
      have e1 : v 8 = .pointer (some ⟨tb, 0, none⟩) := hJ.have (k := 2) (by omega) hnd 1 (by omega) d1
      obtain ⟨q, hc, q0⟩ := hJ.2.1
      have hq8 := cntD_le listed
      unfold actD
      go_simp
      refine (pick_of tb ao n cap q 3 zs w1 hc (by omega) (by omega) (by omega)).mono ?_
      rintro e w2 ⟨x, q', rfl, hx0, hx1, hc2, hq2, g2⟩
      obtain ⟨i, rfl⟩ := Int.eq_ofNat_of_zero_le hx0
      refine hK.out _ _ ⟨updD v (slotD 2) (.int .i64 i), (by simp [actD, updD, slotD, e1]), hJ.pick (by omega) hi hnd hbt g2 (x := .int .i64 i) ⟨i, rfl, by omega⟩ hc2 q0 hq2⟩
    refine ⟨?_, ?_⟩
    · rintro listed a w1 hi hnd hd ⟨v, rfl, hJ⟩ K hK
      have hd' : depsF listed [{ on := 0, ground := .data }, { on := 2, ground := .data }] := hd
      simp only [depsF, and_true] at hd'
      have d0 := hd'.1 (by rfl)
      have d2 := hd'.2 (by rfl)
      obtain ⟨g, cs, e1, hl, hb, hge⟩ : LitD wx.heap.size w1 (v 7) 3 := hJ.have (k := 3) (by omega) hnd 0 (by omega) d0
      obtain ⟨i, e2, hi3⟩ : LowD (v 9) 3 := hJ.have (k := 3) (by omega) hnd 2 (by omega) d2
      have hi3' : (i : Int) < 3 := by omega
      have hcell : w1.cell? ⟨g, i, none⟩ = some (.int .i64 (cs.getD i 0)) := by
        rw [cell_of_row w1 _ i _ _ (0, 0) hb]
        simp [show i < cs.length by omega]
      unfold actD
      go_simp
      refine hK.out _ _ ⟨updD v (slotD 3) (.pointer (some ⟨g, i, none⟩)), (by simp [actD, updD, slotD, e1, e2]), hJ.step (by omega) hi hnd hbt (World.grownBy.refl _ none) ⟨g, i, _, rfl, hcell, hge⟩⟩
    refine ⟨?_, ?_⟩
    · rintro listed a w1 hi hnd hd ⟨v, rfl, hJ⟩ K hK
      have hd' : depsF listed [{ on := 3, ground := .data }] := hd
      simp only [depsF, and_true] at hd'
      have d3 := hd' (by rfl)
      obtain ⟨g, i, y, e1, hcell, hge⟩ : PtrD wx.heap.size w1 (v 10) := hJ.have (k := 4) (by omega) hnd 3 (by omega) d3
      unfold actD
      go_simp
      refine hK.out _ _ ⟨updD v (slotD 4) (.int .i64 y), (by simp [actD, updD, slotD, e1]), hJ.step (by omega) hi hnd hbt (World.grownBy.refl _ none) ⟨y, rfl⟩⟩
    refine ⟨?_, ?_⟩
    · rintro listed a w1 hi hnd hd ⟨v, rfl, hJ⟩ K hK
      unfold actD
      go_simp
      refine hK.out _ _ ⟨_, rfl, hJ.step (by omega) hi hnd hbt (World.grownBy.refl _ none) (x := .pointer (some ⟨tb, 0, none⟩)) rfl⟩
    refine ⟨?_, ?_⟩
    · rintro listed a w1 hi hnd hd ⟨v, rfl, hJ⟩ K hK
      have hd' : depsF listed [{ on := 5, ground := .data }, { on := 2, ground := .chain }] := hd
      simp only [depsF, and_true] at hd'
      have d5 := hd'.1 (by rfl)
      have d2 := hd'.2 (by rfl)
      have e1 : v 12 = .pointer (some ⟨tb, 0, none⟩) := hJ.have (k := 6) (by omega) hnd 5 (by omega) d5
      obtain ⟨q, hc, q0⟩ := hJ.2.1
      have hq8 := cntD_le listed
      unfold actD
      go_simp
      refine (pick_of tb ao n cap q 20 zs w1 hc (by omega) (by omega) (by omega)).mono ?_
      rintro e w2 ⟨x, q', rfl, hx0, hx1, hc2, hq2, g2⟩
      obtain ⟨i, rfl⟩ := Int.eq_ofNat_of_zero_le hx0
      refine hK.out _ _ ⟨updD v (slotD 6) (.int .i64 i), (by simp [actD, updD, slotD, e1]), hJ.pick (by omega) hi hnd hbt g2 (x := .int .i64 i) ⟨i, rfl⟩ hc2 q0 hq2⟩
    refine ⟨?_, ?_⟩
    · rintro listed a w1 hi hnd hd ⟨v, rfl, hJ⟩ K hK
      have hd' : depsF listed [{ on := 6, ground := .data }] := hd
      simp only [depsF, and_true] at hd'
      have d6 := hd' (by rfl)
      obtain ⟨y, e1⟩ : IntD (v 13) := hJ.have (k := 7) (by omega) hnd 6 (by omega) d6
      unfold actD
      go_simp
      refine hK.out _ _ ⟨updD v (slotD 7) (.int .i64 (IntKind.i64.wrap (1 + y))), (by simp [actD, updD, slotD, e1]), hJ.step (by omega) hi hnd hbt (World.grownBy.refl _ none) ⟨_, rfl⟩⟩
    refine ⟨?_, ?_⟩
    · rintro listed a w1 hi hnd hd ⟨v, rfl, hJ⟩ K hK
      unfold actD
      go_simp
      refine hK.out _ _ ⟨_, rfl, hJ.step (by omega) hi hnd hbt (World.grownBy.refl _ none) (x := .pointer (some ⟨tb, 0, none⟩)) rfl⟩
    refine ⟨?_, ?_⟩
    · rintro listed a w1 hi hnd hd ⟨v, rfl, hJ⟩ K hK
      have hd' : depsF listed [{ on := 8, ground := .data }, { on := 6, ground := .chain }] := hd
      simp only [depsF, and_true] at hd'
      have d8 := hd'.1 (by rfl)
      have d6 := hd'.2 (by rfl)
      have e1 : v 15 = .pointer (some ⟨tb, 0, none⟩) := hJ.have (k := 9) (by omega) hnd 8 (by omega) d8
      obtain ⟨q, hc, q0⟩ := hJ.2.1
      have hq8 := cntD_le listed
      unfold actD
      go_simp
      refine (pick_of tb ao n cap q 20 zs w1 hc (by omega) (by omega) (by omega)).mono ?_
      rintro e w2 ⟨x, q', rfl, hx0, hx1, hc2, hq2, g2⟩
      obtain ⟨i, rfl⟩ := Int.eq_ofNat_of_zero_le hx0
      refine hK.out _ _ ⟨updD v (slotD 9) (.int .i64 i), (by simp [actD, updD, slotD, e1]), hJ.pick (by omega) hi hnd hbt g2 (x := .int .i64 i) ⟨i, rfl⟩ hc2 q0 hq2⟩
    refine ⟨?_, ?_⟩
    · rintro listed a w1 hi hnd hd ⟨v, rfl, hJ⟩ K hK
      have hd' : depsF listed [{ on := 9, ground := .data }] := hd
      simp only [depsF, and_true] at hd'
      have d9 := hd' (by rfl)
      obtain ⟨y, e1⟩ : IntD (v 16) := hJ.have (k := 10) (by omega) hnd 9 (by omega) d9
      unfold actD
      go_simp
      refine hK.out _ _ ⟨updD v (slotD 10) (.int .i64 (IntKind.i64.wrap (1 + y))), (by simp [actD, updD, slotD, e1]), hJ.step (by omega) hi hnd hbt (World.grownBy.refl _ none) ⟨_, rfl⟩⟩
    refine ⟨?_, ?_⟩
    · rintro listed a w1 hi hnd hd ⟨v, rfl, hJ⟩ K hK
      unfold actD
      go_simp
      refine hK.out _ _ ⟨_, rfl, hJ.step (by omega) hi hnd hbt (World.grownBy_alloc _ _ none) (x := .slice (some ⟨w1.heap.size, 0, none⟩) 5 5) ⟨w1.heap.size, [0, 0, 1, 2, 5], rfl, rfl, heap_alloc_new _ _, hJ.1.size⟩⟩
    refine ⟨?_, ?_⟩
    · rintro listed a w1 hi hnd hd ⟨v, rfl, hJ⟩ K hK
      unfold actD
      go_simp
      refine hK.out _ _ ⟨_, rfl, hJ.step (by omega) hi hnd hbt (World.grownBy.refl _ none) (x := .pointer (some ⟨tb, 0, none⟩)) rfl⟩
    refine ⟨?_, ?_⟩
    · rintro listed a w1 hi hnd hd ⟨v, rfl, hJ⟩ K hK
      have hd' : depsF listed [{ on := 12, ground := .data }, { on := 9, ground := .chain }] := hd
      simp only [depsF, and_true] at hd'
      have d12 := hd'.1 (by rfl)
      have d9 := hd'.2 (by rfl)
      have e1 : v 19 = .pointer (some ⟨tb, 0, none⟩) := hJ.have (k := 13) (by omega) hnd 12 (by omega) d12
      obtain ⟨q, hc, q0⟩ := hJ.2.1
      have hq8 := cntD_le listed
      unfold actD
      go_simp
      refine (pick_of tb ao n cap q 5 zs w1 hc (by omega) (by omega) (by omega)).mono ?_
      rintro e w2 ⟨x, q', rfl, hx0, hx1, hc2, hq2, g2⟩
      obtain ⟨i, rfl⟩ := Int.eq_ofNat_of_zero_le hx0
      refine hK.out _ _ ⟨updD v (slotD 13) (.int .i64 i), (by simp [actD, updD, slotD, e1]), hJ.pick (by omega) hi hnd hbt g2 (x := .int .i64 i) ⟨i, rfl, by omega⟩ hc2 q0 hq2⟩
    refine ⟨?_, ?_⟩
    · rintro listed a w1 hi hnd hd ⟨v, rfl, hJ⟩ K hK
      have hd' : depsF listed [{ on := 11, ground := .data }, { on := 13, ground := .data }] := hd
      simp only [depsF, and_true] at hd'
      have d11 := hd'.1 (by rfl)
      have d13 := hd'.2 (by rfl)
      obtain ⟨g, cs, e1, hl, hb, hge⟩ : LitD wx.heap.size w1 (v 18) 5 := hJ.have (k := 14) (by omega) hnd 11 (by omega) d11
      obtain ⟨i, e2, hi3⟩ : LowD (v 20) 5 := hJ.have (k := 14) (by omega) hnd 13 (by omega) d13
      have hi3' : (i : Int) < 5 := by omega
      have hcell : w1.cell? ⟨g, i, none⟩ = some (.int .i64 (cs.getD i 0)) := by
        rw [cell_of_row w1 _ i _ _ (0, 0) hb]
        simp [show i < cs.length by omega]
      unfold actD
      go_simp
      refine hK.out _ _ ⟨updD v (slotD 14) (.pointer (some ⟨g, i, none⟩)), (by simp [actD, updD, slotD, e1, e2]), hJ.step (by omega) hi hnd hbt (World.grownBy.refl _ none) ⟨g, i, _, rfl, hcell, hge⟩⟩
    refine ⟨?_, ?_⟩
    · rintro listed a w1 hi hnd hd ⟨v, rfl, hJ⟩ K hK
      have hd' : depsF listed [{ on := 14, ground := .data }] := hd
      simp only [depsF, and_true] at hd'
      have d14 := hd' (by rfl)
      obtain ⟨g, i, y, e1, hcell, hge⟩ : PtrD wx.heap.size w1 (v 21) := hJ.have (k := 15) (by omega) hnd 14 (by omega) d14
      unfold actD
      go_simp
      refine hK.out _ _ ⟨updD v (slotD 15) (.int .i64 y), (by simp [actD, updD, slotD, e1]), hJ.step (by omega) hi hnd hbt (World.grownBy.refl _ none) ⟨y, rfl⟩⟩
    refine ⟨?_, ?_⟩
    · rintro listed a w1 hi hnd hd ⟨v, rfl, hJ⟩ K hK
      have hd' : depsF listed [{ on := 4, ground := .data }, { on := 7, ground := .data }, { on := 10, ground := .data }, { on := 15, ground := .data }] := hd
      simp only [depsF, and_true] at hd'
      obtain ⟨y0, e0⟩ : IntD (v 11) := hJ.have (k := 16) (by omega) hnd 4 (by omega) (hd'.1 (by rfl))
      obtain ⟨y1, e1⟩ : IntD (v 14) := hJ.have (k := 16) (by omega) hnd 7 (by omega) (hd'.2.1 (by rfl))
      obtain ⟨y2, e2⟩ : IntD (v 17) := hJ.have (k := 16) (by omega) hnd 10 (by omega) (hd'.2.2.1 (by rfl))
      obtain ⟨y3, e3⟩ : IntD (v 22) := hJ.have (k := 16) (by omega) hnd 15 (by omega) (hd'.2.2.2 (by rfl))
      unfold actD
      go_simp
      refine hK.out _ _ ⟨updD v (slotD 16) (.agg #[.int .i64 y0, .int .i64 y1, .int .i64 y2, .int .i64 y3, .slice none 0 0]), (by simp [actD, updD, slotD, e0, e1, e2, e3]), hJ.step (by omega) hi hnd hbt (World.grownBy.refl _ none) ⟨_, _, _, _, rfl⟩⟩
    refine ⟨?_, ?_⟩
    · rintro listed a w1 hi hnd hd ⟨v, rfl, hJ⟩ K hK
      unfold actD
      go_simp
      refine hK.out _ _ ⟨_, rfl, hJ.step (by omega) hi hnd hbt (World.grownBy_alloc _ _ none) (x := .pointer (some ⟨w1.heap.size, 0, none⟩)) ⟨w1.heap.size, _, _, _, _, rfl, heap_alloc_new _ _, hJ.1.size⟩⟩
    refine ⟨?_, trivial⟩
    rintro listed a w1 hi hnd hd ⟨v, rfl, hJ⟩ K hK
    have hall : ∀ j, j ≤ 17 → doneAt listed j := by
      intro j hj
      have hj' : j = 0 ∨ j = 1 ∨ j = 2 ∨ j = 3 ∨ j = 4 ∨ j = 5 ∨ j = 6 ∨ j = 7 ∨ j = 8 ∨ j = 9 ∨ j = 10 ∨ j = 11 ∨ j = 12 ∨ j = 13 ∨ j = 14 ∨ j = 15 ∨ j = 16 ∨ j = 17 := by omega
      rcases hj' with rfl | rfl | rfl | rfl | rfl | rfl | rfl | rfl | rfl | rfl | rfl | rfl | rfl | rfl | rfl | rfl | rfl | rfl <;> exact depsF_mem hd { on := _, ground := .phase } (by simp) rfl
    obtain ⟨g1, ⟨q, hc, q0⟩, ⟨h18, _⟩ | h3⟩ := hJ
    · exact absurd h18 hnd
    obtain ⟨g, p0, wd0, ht0, rs0, e3, hb, hge⟩ : FraD wx.heap.size w1 (v 3) := h3 17 (by omega) (hall 17 (by omega))
    obtain ⟨p1, wd1, ht1, rs1, e23⟩ : ∃ p wd ht rs : Int, v 23 = .agg #[.int .i64 p, .int .i64 wd, .int .i64 ht, .int .i64 rs, .slice none 0 0] := h3 16 (by omega) (hall 16 (by omega))
    rw [if_pos (by rfl)]
    refine wp_store_row 26 _ _ rfl g e3 _ e23 _ 26 hb rfl (by kernel_rfl) (one5 _ _ _ _ _ _ _) ?_
    intro w2 hb2 g2
    refine hK.out _ _ ⟨v, rfl, grown_tb g1 g2 (fun g' e => by simp at e; omega), ⟨q, hc.beside g2 (fun g' e => by simp at e; exact ⟨by omega, fun h b off e' => by have := unhide HC h b off e'; omega⟩), by have := cntD_mono hi; omega⟩, .inl ⟨(doneAt_set hi).2 (.inl rfl), ⟨g, _, _, _, _, e3, hb2, hge⟩, fun j hj => (doneAt_set hi).2 (.inr (hall j hj))⟩⟩

end Go.Proofs.Ytnjcmlmgjoaeeaa

namespace Go.Proofs.Ytnjcmlmgjoaeeaa
open Go.RowKit

theorem compFrame5 {w : World} {g : Nat} {a b c d v : Value} {t : TypeId} (hb : w.heap[g]? = some (.cells #[a, b, c, d, v] t (0, 0))) :
    w.cell? ⟨g, 0, none⟩ = some a ∧ w.cell? ⟨g, 1, none⟩ = some b ∧ w.cell? ⟨g, 2, none⟩ = some c ∧ w.cell? ⟨g, 3, none⟩ = some d ∧ w.cell? ⟨g, 4, none⟩ = some v :=
  ⟨by rw [cell_of_row w _ 0 _ _ (0, 0) hb]; rfl, by rw [cell_of_row w _ 1 _ _ (0, 0) hb]; rfl, by rw [cell_of_row w _ 2 _ _ (0, 0) hb]; rfl, by rw [cell_of_row w _ 3 _ _ (0, 0) hb]; rfl, by rw [cell_of_row w _ 4 _ _ (0, 0) hb]; rfl⟩

/-- What holds of the frame that is drawn and spoilt: its cells, those of the component that is looked at, the answer's, the row of components, the cursor. -/
structure BunA (wx : World) (tb g xb gb rb m bc : Nat) (ao : Option Addr) (n cap : Nat) (zs : List Int) (C : Nat → Nat → Int) (p0 wd0 ht0 rs0 x0 x1 x2 x3 : Int) (q : Nat) (W : World) : Prop where
  f : W.heap[g]? = some (.cells #[.int .i64 p0, .int .i64 wd0, .int .i64 ht0, .int .i64 rs0, .slice (some ⟨gb, 0, none⟩) m bc] 26 (0, 0))
  x : W.heap[xb]? = some (.cells #[.int .i64 x0, .int .i64 x1, .int .i64 x2, .int .i64 x3] 68 (0, 0))
  r : W.heap[rb]? = some (.cells #[.int .i64 0, .int .i64 0, .int .i64 0, .int .i64 0, .slice none 0 0] 26 (0, 0))
  o : W.ownsRow wx.heap.size 68 4 (.slice (some ⟨gb, 0, none⟩) m bc) m (rowsK m 4 (compCells C))
  c : Cur W tb ao n cap zs q
  grown : wx.grownBy W (some tb)

/-- How the blocks lie. -/
structure LieA (wx : World) (tb g xb gb rb : Nat) (ao : Option Addr) (n : Nat) : Prop where
  l1 : tb < rb
  l2 : rb < wx.heap.size
  l3 : wx.heap.size ≤ gb
  l4 : gb < g
  l5 : g < xb
  code : 0 < n → ∀ b off, ao = some ⟨b, off, none⟩ → b < rb

section
variable {wx : World} {tb g xb gb rb m bc : Nat} {ao : Option Addr} {n cap : Nat} {zs : List Int} {C : Nat → Nat → Int} {p0 wd0 ht0 rs0 x0 x1 x2 x3 : Int} {q : Nat} {W W' : World}

theorem BunA.pick (h : BunA wx tb g xb gb rb m bc ao n cap zs C p0 wd0 ht0 rs0 x0 x1 x2 x3 q W) (hl : LieA wx tb g xb gb rb ao n) {q' : Nat} (hc : Cur W' tb ao n cap zs q') (hg : W.grownBy W' (some tb)) : BunA wx tb g xb gb rb m bc ao n cap zs C p0 wd0 ht0 rs0 x0 x1 x2 x3 q' W' := by
  have l1 := hl.l1
  have l2 := hl.l2
  have l3 := hl.l3
  have l4 := hl.l4
  have l5 := hl.l5
  exact ⟨(hg.block g (Array.getElem?_eq_some_iff.1 h.f).1 (by simp; omega)).trans h.f, (hg.block xb (Array.getElem?_eq_some_iff.1 h.x).1 (by simp; omega)).trans h.x, (hg.block rb (Array.getElem?_eq_some_iff.1 h.r).1 (by simp; omega)).trans h.r,
    own_beneath h.o hg (fun g' t' e e' => by have := (h.o.lt g' e).1; simp at e'; omega), hc, grown_trans h.grown hg⟩
theorem BunA.new (h : BunA wx tb g xb gb rb m bc ao n cap zs C p0 wd0 ht0 rs0 x0 x1 x2 x3 q W) (hg : W.grownBy W' none) : BunA wx tb g xb gb rb m bc ao n cap zs C p0 wd0 ht0 rs0 x0 x1 x2 x3 q W' :=
  ⟨(hg.block g (Array.getElem?_eq_some_iff.1 h.f).1 (by simp)).trans h.f, (hg.block xb (Array.getElem?_eq_some_iff.1 h.x).1 (by simp)).trans h.x, (hg.block rb (Array.getElem?_eq_some_iff.1 h.r).1 (by simp)).trans h.r, own_grown h.o hg, h.c.grown hg, grown_tb h.grown hg (fun g e => by simp at e)⟩
theorem BunA.setF (h : BunA wx tb g xb gb rb m bc ao n cap zs C p0 wd0 ht0 rs0 x0 x1 x2 x3 q W) (hl : LieA wx tb g xb gb rb ao n) (j : Nat) (y p1 wd1 ht1 rs1 : Int)
    (e : (#[Value.int .i64 p0, .int .i64 wd0, .int .i64 ht0, .int .i64 rs0, .slice (some ⟨gb, 0, none⟩) m bc]).setIfInBounds j (.int .i64 y) = #[.int .i64 p1, .int .i64 wd1, .int .i64 ht1, .int .i64 rs1, .slice (some ⟨gb, 0, none⟩) m bc]) :
    BunA wx tb g xb gb rb m bc ao n cap zs C p1 wd1 ht1 rs1 x0 x1 x2 x3 q (W.setCell ⟨g, j, none⟩ (.int .i64 y)) := by
  have l1 := hl.l1
  have l2 := hl.l2
  have l3 := hl.l3
  have l4 := hl.l4
  have l5 := hl.l5
  have hs := grown_set W g j (.int .i64 y)
  refine ⟨?_, (hs.block xb (Array.getElem?_eq_some_iff.1 h.x).1 (by simp; omega)).trans h.x, (hs.block rb (Array.getElem?_eq_some_iff.1 h.r).1 (by simp; omega)).trans h.r, own_sameAt h.o (fun g' e => Below.heap_setCell _ _ _ _ ?_), h.c.beside hs (fun g' e => by simp at e; exact ⟨by omega, fun h b off e' => by have := hl.code h b off e'; omega⟩), grown_tb h.grown hs (fun g' e => by simp at e; omega)⟩
  · have := heap_setCell_same W g j _ _ (.int .i64 y) h.f
    rw [e] at this
    exact this
  · simp [Value.ownBlock] at e; show g' ≠ g; omega
theorem BunA.setX (h : BunA wx tb g xb gb rb m bc ao n cap zs C p0 wd0 ht0 rs0 x0 x1 x2 x3 q W) (hl : LieA wx tb g xb gb rb ao n) (j : Nat) (y y0 y1 y2 y3 : Int)
    (e : (#[Value.int .i64 x0, .int .i64 x1, .int .i64 x2, .int .i64 x3]).setIfInBounds j (.int .i64 y) = #[.int .i64 y0, .int .i64 y1, .int .i64 y2, .int .i64 y3]) :
    BunA wx tb g xb gb rb m bc ao n cap zs C p0 wd0 ht0 rs0 y0 y1 y2 y3 q (W.setCell ⟨xb, j, none⟩ (.int .i64 y)) := by
  have l1 := hl.l1
  have l2 := hl.l2
  have l3 := hl.l3
  have l4 := hl.l4
  have l5 := hl.l5
  have hs := grown_set W xb j (.int .i64 y)
  refine ⟨(hs.block g (Array.getElem?_eq_some_iff.1 h.f).1 (by simp; omega)).trans h.f, ?_, (hs.block rb (Array.getElem?_eq_some_iff.1 h.r).1 (by simp; omega)).trans h.r, own_sameAt h.o (fun g' e => Below.heap_setCell _ _ _ _ ?_), h.c.beside hs (fun g' e => by simp at e; exact ⟨by omega, fun h b off e' => by have := hl.code h b off e'; omega⟩), grown_tb h.grown hs (fun g' e => by simp at e; omega)⟩
  · have := heap_setCell_same W xb j _ _ (.int .i64 y) h.x
    rw [e] at this
    exact this
  · simp [Value.ownBlock] at e; show g' ≠ xb; omega
theorem BunA.free (h : BunA wx tb g xb gb rb m bc ao n cap zs C p0 wd0 ht0 rs0 x0 x1 x2 x3 q W) : (W.frozen? ⟨g, 0, none⟩ = false ∧ W.frozen? ⟨g, 1, none⟩ = false ∧ W.frozen? ⟨g, 2, none⟩ = false ∧ W.frozen? ⟨g, 3, none⟩ = false) ∧ W.frozen? ⟨xb, 0, none⟩ = false ∧ W.frozen? ⟨xb, 1, none⟩ = false ∧ W.frozen? ⟨xb, 2, none⟩ = false ∧ W.frozen? ⟨xb, 3, none⟩ = false :=
  ⟨⟨frozen_of_row W g 0 _ _ h.f, frozen_of_row W g 1 _ _ h.f, frozen_of_row W g 2 _ _ h.f, frozen_of_row W g 3 _ _ h.f⟩, frozen_of_row W xb 0 _ _ h.x, frozen_of_row W xb 1 _ _ h.x, frozen_of_row W xb 2 _ _ h.x, frozen_of_row W xb 3 _ _ h.x⟩
theorem pushC_set (C : Nat → Nat → Int) (m k : Nat) (y0 y1 y2 y3 : Int) :
    ((((rowsK m 4 (compCells C)).set (k * 4) (.int .i64 y0)).set (k * 4 + 1) (.int .i64 y1)).set (k * 4 + 2) (.int .i64 y2)).set (k * 4 + 3) (.int .i64 y3) = rowsK m 4 (compCells (pushC C k y0 y1 y2 y3)) := by
  have e0 := rowsK_set m 4 (compCells C) k 0 (.int .i64 y0) (by omega)
  rw [Nat.add_zero] at e0
  rw [e0, rowsK_set _ _ _ k 1 _ (by omega), rowsK_set _ _ _ k 2 _ (by omega), rowsK_set _ _ _ k 3 _ (by omega)]
  apply rowsK_congr
  intro i j _ hj
  have hj4 : j = 0 ∨ j = 1 ∨ j = 2 ∨ j = 3 := by omega
  by_cases e1 : i = k
  · subst e1
    rcases hj4 with rfl | rfl | rfl | rfl <;> simp [compCells, pushC]
  · rcases hj4 with rfl | rfl | rfl | rfl <;> simp [compCells, pushC, e1]

theorem BunA.row (h : BunA wx tb g xb gb rb m bc ao n cap zs C p0 wd0 ht0 rs0 x0 x1 x2 x3 q W) (hl : LieA wx tb g xb gb rb ao n) (k : Nat) :
    BunA wx tb g xb gb rb m bc ao n cap zs (pushC C k x0 x1 x2 x3) p0 wd0 ht0 rs0 x0 x1 x2 x3 q ((((W.setCell ⟨gb, k * 4, none⟩ (.int .i64 x0)).setCell ⟨gb, k * 4 + 1, none⟩ (.int .i64 x1)).setCell ⟨gb, k * 4 + 2, none⟩ (.int .i64 x2)).setCell ⟨gb, k * 4 + 3, none⟩ (.int .i64 x3)) := by
  have l1 := hl.l1
  have l2 := hl.l2
  have l3 := hl.l3
  have l4 := hl.l4
  have l5 := hl.l5
  have s0 := h.o.stored (k * 4) (.int .i64 x0)
  have s1 := s0.1.stored (k * 4 + 1) (.int .i64 x1)
  have s2 := s1.1.stored (k * 4 + 2) (.int .i64 x2)
  have s3 := s2.1.stored (k * 4 + 3) (.int .i64 x3)
  have hs := grown_trans (grown_trans (grown_trans s0.2 s1.2) s2.2) s3.2
  have ho := s3.1
  rw [pushC_set] at ho
  exact ⟨(hs.block g (Array.getElem?_eq_some_iff.1 h.f).1 (by simp; omega)).trans h.f, (hs.block xb (Array.getElem?_eq_some_iff.1 h.x).1 (by simp; omega)).trans h.x, (hs.block rb (Array.getElem?_eq_some_iff.1 h.r).1 (by simp; omega)).trans h.r, ho,
    h.c.beside hs (fun g' e => by simp at e; exact ⟨by omega, fun h b off e' => by have := hl.code h b off e'; omega⟩), grown_tb h.grown hs (fun g' e => by simp at e; omega)⟩

/-- The answer's cells are written: the rest stays. -/
theorem finA {w : World} {v : Value} {k : Nat} (htb : tb < w.heap.size) (hcode : 0 < n → ∀ b off, ao = some ⟨b, off, none⟩ → b < w.heap.size) (hbase : w.heap.size < wx.heap.size) (h1 : W.ownsRow wx.heap.size 68 4 v k (rowsK k 4 (compCells C))) (h2 : Cur W tb ao n cap zs q) (h3 : w.grownBy W (some tb)) (a b c d e : Value) :
    (((((W.setCell ⟨w.heap.size, 0, none⟩ a).setCell ⟨w.heap.size, 1, none⟩ b).setCell ⟨w.heap.size, 2, none⟩ c).setCell ⟨w.heap.size, 3, none⟩ d).setCell ⟨w.heap.size, 4, none⟩ e).ownsRow w.heap.size 68 4 v k (rowsK k 4 (compCells C)) ∧
    Cur (((((W.setCell ⟨w.heap.size, 0, none⟩ a).setCell ⟨w.heap.size, 1, none⟩ b).setCell ⟨w.heap.size, 2, none⟩ c).setCell ⟨w.heap.size, 3, none⟩ d).setCell ⟨w.heap.size, 4, none⟩ e) tb ao n cap zs q ∧
    w.grownBy (((((W.setCell ⟨w.heap.size, 0, none⟩ a).setCell ⟨w.heap.size, 1, none⟩ b).setCell ⟨w.heap.size, 2, none⟩ c).setCell ⟨w.heap.size, 3, none⟩ d).setCell ⟨w.heap.size, 4, none⟩ e) (some tb) := by
  have hs := grown_trans (grown_trans (grown_trans (grown_trans (grown_set W w.heap.size 0 a) (grown_set _ w.heap.size 1 b)) (grown_set _ w.heap.size 2 c)) (grown_set _ w.heap.size 3 d)) (grown_set _ w.heap.size 4 e)
  refine ⟨own_base (own_beneath h1 hs (fun g' t' e e' => by have := (h1.lt g' e).1; simp at e'; omega)) (by omega), h2.beside hs (fun g' e => by simp at e; exact ⟨by omega, fun h b off e' => by have := hcode h b off e'; omega⟩), grown_tb h3 hs (fun g' e => by simp at e; omega)⟩
end

set_option maxRecDepth 20000 in
set_option maxHeartbeats 3200000 in
theorem drawAny (tb : Nat) (ao : Option Addr) (n cap p : Nat) (zs : List Int) (w : World) (h : Cur w tb ao n cap zs p) (hp : p ≤ 1000000) (hcode : 0 < n → ∀ b off, ao = some ⟨b, off, none⟩ → b < w.heap.size) (kk : Int) (hk2 : 2 ≤ kk) (hk3 : kk ≤ 2147483648) :
    Calls Try.prog 37 #[.pointer (some ⟨tb, 0, none⟩), .int .i64 kk] w fun e w' => ∃ (p0 wd0 ht0 rs0 : Int) (C : Nat → Nat → Int) (m bc q' : Nat) (bo : Option Addr), e = .returned (.agg #[.int .i64 p0, .int .i64 wd0, .int .i64 ht0, .int .i64 rs0, .slice bo m bc]) ∧ 1 ≤ m ∧ m ≤ 5 ∧
      w'.ownsRow w.heap.size 68 4 (.slice bo m bc) m (rowsK m 4 (compCells C)) ∧ Cur w' tb ao n cap zs q' ∧ q' ≤ p + 150 ∧ w.grownBy w' (some tb) := by
  have htb : tb < w.heap.size := h.lt
  have H := hide h
  have HC := hide hcode
  clear hcode
  clear h
  have G0 : Hid (w.grownBy (w.alloc (.cells #[.int .i64 0, .int .i64 0, .int .i64 0, .int .i64 0, .slice none 0 0] 26)) none) := grown_alloc (World.grownBy.refl _ _) _
  have HB0 := hide (heap_alloc_new w (.cells #[.int .i64 0, .int .i64 0, .int .i64 0, .int .i64 0, .slice none 0 0] 26))
  have hgs : w.heap.size < (w.alloc (.cells #[.int .i64 0, .int .i64 0, .int .i64 0, .int .i64 0, .slice none 0 0] 26)).heap.size := by simp
  go_enter Try.func37, Try.ntmps37
  go_wp2_with fail
  generalize (w.alloc (.cells #[.int .i64 0, .int .i64 0, .int .i64 0, .int .i64 0, .slice none 0 0] 26)) = wx at *
  have HX := hide ((unhide H).grown (unhide G0))
  have hbt : tb < wx.heap.size := by omega
  have HC2 : Hid (0 < n → ∀ b off, ao = some ⟨b, off, none⟩ → b < wx.heap.size) := fun h b off e => by have := unhide HC h b off e; omega
  refine (drawFrame tb ao n cap p zs wx (unhide HX) hp (unhide HC2)).mono ?_
  rintro e w1 ⟨p0, wd0, ht0, rs0, C, m, bc, q1, bo, rfl, hm1, hm4, o1, c1, hq1, g1⟩
  obtain ⟨gb, rfl, hgb0, hgb1⟩ := own_at o1 (by omega)
  have hB1 := (g1.block w.heap.size hgs (by simp; omega)).trans (unhide HB0)
  obtain ⟨w2, hw2⟩ : ∃ w2, w1.alloc (.cells #[.int .i64 p0, .int .i64 wd0, .int .i64 ht0, .int .i64 rs0, .slice (some ⟨gb, 0, none⟩) m bc] 26) = w2 := ⟨_, rfl⟩
  have g2 : w1.grownBy w2 none := by rw [← hw2]; exact grown_alloc (World.grownBy.refl _ _) _
  have hF2 : w2.heap[w1.heap.size]? = some (.cells #[.int .i64 p0, .int .i64 wd0, .int .i64 ht0, .int .i64 rs0, .slice (some ⟨gb, 0, none⟩) m bc] 26 (0, 0)) := by rw [← hw2]; exact heap_alloc_new _ _
  have o2 := own_grown o1 g2
  have c2 := c1.grown g2
  have hB2 := (g2.block w.heap.size (by have := g1.size; omega) (by simp)).trans hB1
  have G2 := grown_tb g1 g2 (fun g e => by simp at e)
  have hs1 := g1.size
  have HW2 := hide hw2
  clear hw2 o1 c1 hB1 g1 g2
  go_wp2_with fail
  rw [unhide HW2]
  refine (once_of tb ao n cap q1 kk zs w2 c2 (by omega) hk2 hk3).mono ?_
  rintro e w3 ⟨t, q3, rfl, c3, hq3, g3⟩
  have hlt2 := (Array.getElem?_eq_some_iff.1 hF2).1
  have hF3 := (g3.block w1.heap.size hlt2 (by simp; omega)).trans hF2
  have hB3 := (g3.block w.heap.size (by omega) (by simp; omega)).trans hB2
  have o3 := own_beneath o2 g3 (fun g g' h h' => by have := (o2.lt g h).1; simp at h'; omega)
  have G3 := grown_trans G2 g3
  have hs3 := g3.size
  clear hF2 hB2 o2 c2 G2 g3 HW2
  cases t
  · have kf := frameCells5 hF3
    have kr := frameCells5 hB3
    have fr := frameFree hB3
    have hner : ¬ w1.heap.size = w.heap.size := by omega
    have hner2 : ¬ w.heap.size = w1.heap.size := by omega
    have FIN := hide (fun a b c d e => finA htb (unhide HC) hgs o3 c3 (grown_trans (grown_weak (unhide G0)) G3) a b c d e)
    clear hF3 hB3 o3 c3 G3
    go_wp2
    refine bodyPost_ret (v := .agg #[.int .i64 p0, .int .i64 wd0, .int .i64 ht0, .int .i64 rs0, .slice (some ⟨gb, 0, none⟩) m bc]) (by simp [results, Try.results37, go_sem, *]) rfl ?_
    obtain ⟨z1, z2, z3⟩ := unhide FIN (.int .i64 p0) (.int .i64 wd0) (.int .i64 ht0) (.int .i64 rs0) (.slice (some ⟨gb, 0, none⟩) m bc)
    exact ⟨p0, wd0, ht0, rs0, C, m, _, q3, _, rfl, by omega, by omega, z1, z2, by omega, z3⟩
  · obtain ⟨_, _, _, _, f4⟩ := compFrame5 hF3
    go_wp2_with fail
    refine (pick_any tb ao n cap q3 m zs w3 c3 (by omega) (by omega) (by omega)).mono ?_
    rintro e w4 ⟨x4, q4, rfl, hx0, hx1, c4, hq4, g4⟩
    obtain ⟨k, rfl⟩ := Int.eq_ofNat_of_zero_le hx0
    have hk : k < m := by omega
    have hF4 := (g4.block w1.heap.size (by omega) (by simp; omega)).trans hF3
    have hB4 := (g4.block w.heap.size (by omega) (by simp; omega)).trans hB3
    have o4 := own_beneath o3 g4 (fun g g' h h' => by have := (o3.lt g h).1; simp at h'; omega)
    have G4 := grown_trans G3 g4
    have hs4 := g4.size
    clear hF3 hB3 o3 c3 G3 g4 f4 hx0
    obtain ⟨_, _, _, _, f4⟩ := compFrame5 hF4
    have r4 := (own_rdC o4) k hk
    obtain ⟨gb', off', e', hcell⟩ := r4
    simp at e'
    obtain ⟨rfl, rfl⟩ := e'
    have x0 := hcell 0 (by omega)
    have x1 := hcell 1 (by omega)
    have x2 := hcell 2 (by omega)
    have x3 := hcell 3 (by omega)
    rw [Nat.add_zero] at x0
    clear hcell
    simp only [Nat.zero_add] at x0 x1 x2 x3
    obtain ⟨w5, hw5⟩ : ∃ w5, w4.alloc (.cells #[.int .i64 (C k 0), .int .i64 (C k 1), .int .i64 (C k 2), .int .i64 (C k 3)] 68) = w5 := ⟨_, rfl⟩
    have g5 : w4.grownBy w5 none := by rw [← hw5]; exact grown_alloc (World.grownBy.refl _ _) _
    have hX5 : w5.heap[w4.heap.size]? = some (.cells #[.int .i64 (C k 0), .int .i64 (C k 1), .int .i64 (C k 2), .int .i64 (C k 3)] 68 (0, 0)) := by rw [← hw5]; exact heap_alloc_new _ _
    have HW5 := hide hw5
    clear hw5
    go_wp2_with fail
    rw [unhide HW5]
    have o5 := own_grown o4 g5
    have c5 := c4.grown g5
    have hF5 := (g5.block w1.heap.size (by omega) (by simp)).trans hF4
    have hB5 := (g5.block w.heap.size (by omega) (by simp)).trans hB4
    have G5 := grown_tb G4 g5 (fun g e => by simp at e)
    have LIE : LieA wx tb w1.heap.size w4.heap.size gb w.heap.size ao n := ⟨htb, hgs, hgb0, hgb1, by omega, unhide HC⟩
    have B5 : BunA wx tb w1.heap.size w4.heap.size gb w.heap.size m bc ao n cap zs C p0 wd0 ht0 rs0 (C k 0) (C k 1) (C k 2) (C k 3) q4 w5 := ⟨hF5, hX5, hB5, o5, c5, G5⟩
    have hl5 := LIE.l5
    have HB5 := hide B5
    clear o5 hF5 hB5 G5 o4 hF4 hB4 G4 hX5 HW5 f4 x0 x1 x2 x3 c4 g5 B5
    rename_i Ko ako Km akm Ks aks
    have cont : ∀ {u8 u9 u10 u11 u12 u13 u14 u15 u16 u17 u18 u19 u20 u21 u22 u23 u24 u25 u26 u27 u28 u29 u30 u31 u32 u33 u34 u35 u36 u37 u38 u39 u40 u41 u42 u43 u44 u45 u46 u47 u48 u49 u50 u51 u52 u53 u54 u55 u56 u57 u58 u59 u60 u61 u62 u63 u64 u65 u66 u67 u68 u69 u70 u71 u72 u73 u74 u75 u76 u77 u78 u79 u80 u81 u82 u83 u84 u85 u86 u87 : Value} {W : World} {p0 wd0 ht0 rs0 x0 x1 x2 x3 : Int} {q : Nat}, BunA wx tb w1.heap.size w4.heap.size gb w.heap.size m bc ao n cap zs C p0 wd0 ht0 rs0 x0 x1 x2 x3 q W → q ≤ p + 130 → Ko { tmps := List.toArray (Value.pointer (some ⟨tb, 0, none⟩) :: Value.int .i64 kk :: undef :: undef :: Value.pointer (some ⟨w.heap.size, 0, none⟩) :: Value.pointer (some ⟨w1.heap.size, 0, none⟩) :: Value.int .i64 k :: Value.pointer (some ⟨w4.heap.size, 0, none⟩) :: u8 :: u9 :: u10 :: u11 :: u12 :: u13 :: u14 :: u15 :: u16 :: u17 :: u18 :: u19 :: u20 :: u21 :: u22 :: u23 :: u24 :: u25 :: u26 :: u27 :: u28 :: u29 :: u30 :: u31 :: u32 :: u33 :: u34 :: u35 :: u36 :: u37 :: u38 :: u39 :: u40 :: u41 :: u42 :: u43 :: u44 :: u45 :: u46 :: u47 :: u48 :: u49 :: u50 :: u51 :: u52 :: u53 :: u54 :: u55 :: u56 :: u57 :: u58 :: u59 :: u60 :: u61 :: u62 :: u63 :: u64 :: u65 :: u66 :: u67 :: u68 :: u69 :: u70 :: u71 :: u72 :: u73 :: u74 :: u75 :: u76 :: u77 :: u78 :: u79 :: u80 :: u81 :: u82 :: u83 :: u84 :: u85 :: u86 :: u87 :: undef :: undef :: undef :: undef :: undef :: undef :: undef :: undef :: undef :: undef :: undef :: undef :: undef :: undef :: []), defers := [] } W := by
      clear HB5 c5 akm aks
      intro u8 u9 u10 u11 u12 u13 u14 u15 u16 u17 u18 u19 u20 u21 u22 u23 u24 u25 u26 u27 u28 u29 u30 u31 u32 u33 u34 u35 u36 u37 u38 u39 u40 u41 u42 u43 u44 u45 u46 u47 u48 u49 u50 u51 u52 u53 u54 u55 u56 u57 u58 u59 u60 u61 u62 u63 u64 u65 u66 u67 u68 u69 u70 u71 u72 u73 u74 u75 u76 u77 u78 u79 u80 u81 u82 u83 u84 u85 u86 u87 W p0 wd0 ht0 rs0 x0 x1 x2 x3 q B hq
      refine ako _ _ ?_
      clear ako
      have hk4 : k * 4 + 3 < m * 4 := by omega
      have kF := frameCells5 B.f
      have kX := compCells4 B.x
      have z0 := B.o.frozenAt (k * 4)
      have z1 := B.o.frozenAt (k * 4 + 1)
      have z2 := B.o.frozenAt (k * 4 + 2)
      have z3 := B.o.frozenAt (k * 4 + 3)
      have hold : ∀ j, j < m * 4 → ∃ u, W.cell? ⟨gb, j, none⟩ = some u := fun j hj => by rw [B.o.cellAt j hj]; exact ⟨_, List.getElem?_eq_getElem (by rw [B.o.1]; omega)⟩
      obtain ⟨v0, hv0⟩ := hold (k * 4) (by omega)
      obtain ⟨v1, hv1⟩ := hold (k * 4 + 1) (by omega)
      obtain ⟨v2, hv2⟩ := hold (k * 4 + 2) (by omega)
      obtain ⟨v3, hv3⟩ := hold (k * 4 + 3) (by omega)
      have B1 := B.row LIE k
      obtain ⟨W1, hW1⟩ : ∃ W1, ((((W.setCell ⟨gb, k * 4, none⟩ (.int .i64 x0)).setCell ⟨gb, k * 4 + 1, none⟩ (.int .i64 x1)).setCell ⟨gb, k * 4 + 2, none⟩ (.int .i64 x2)).setCell ⟨gb, k * 4 + 3, none⟩ (.int .i64 x3)) = W1 := ⟨_, rfl⟩
      rw [hW1] at B1
      have HW1 := hide hW1
      clear hW1 B hold
      go_wp2_with fail
      rw [unhide HW1]
      clear kF kX z0 z1 z2 z3 hv0 hv1 hv2 hv3 HW1
      refine (once_of tb ao n cap q 5 zs W1 B1.c (by omega) (by omega) (by omega)).mono ?_
      rintro e W2 ⟨t, q2, rfl, c2, hq2, g2⟩
      have B2 := B1.pick LIE c2 g2
      clear B1 g2
      generalize pushC C k x0 x1 x2 x3 = D at *
      have hF := B2.f
      have hR := B2.r
      have GW : w.grownBy W2 (some tb) := grown_trans (grown_weak (unhide G0)) B2.grown
      cases t
      · have kf := frameCells5 hF
        have kr := frameCells5 hR
        have fr := frameFree hR
        have hner : ¬ w1.heap.size = w.heap.size := by omega
        have hner2 : ¬ w.heap.size = w1.heap.size := by omega
        have FIN := hide (fun a b c d e => finA htb (unhide HC) hgs B2.o B2.c GW a b c d e)
        clear hF hR c2 GW B2
        go_wp2
        refine bodyPost_ret (v := .agg #[.int .i64 p0, .int .i64 wd0, .int .i64 ht0, .int .i64 rs0, .slice (some ⟨gb, 0, none⟩) m bc]) (by simp [results, Try.results37, go_sem, *]) rfl ?_
        obtain ⟨z1, z2, z3⟩ := unhide FIN (.int .i64 p0) (.int .i64 wd0) (.int .i64 ht0) (.int .i64 rs0) (.slice (some ⟨gb, 0, none⟩) m bc)
        exact ⟨p0, wd0, ht0, rs0, D, m, _, q2, _, rfl, by omega, by omega, z1, z2, by omega, z3⟩
      · obtain ⟨ic, hic, hz0, hz1, hz2⟩ := info_parts Try.info68
        have kf := frameCells5 hF
        have kx := compCells4 B2.x
        have hsz2 := (Array.getElem?_eq_some_iff.1 B2.x).1
        have BU := hide B2
        clear hF hR c2 GW B2
        go_wp2_with (at_builtin; refine wpList_append_own_at _ rfl _ _ 24 rfl wx.heap.size 68 ic _ 4 32 Try.underlying24 hic hz0 hz1 hz2 rfl (by decide) (.slice (some ⟨gb, 0, none⟩) m bc) m (rowsK m 4 (compCells D)) rfl ((unhide BU).o.alloc _) ⟨W2.heap.size, 0, none⟩ 1 1 [.int .i64 x0, .int .i64 x1, .int .i64 x2, .int .i64 x3] rfl rfl ?n1 ?n2 ?n3 ?n4 ?n5 ?_)
        case n1 => exact World.news_of_block (cs := #[.int .i64 x0, .int .i64 x1, .int .i64 x2, .int .i64 x3]) (t := 68) (fr := (0, 0)) (heap_alloc_new W2 _)
        case n2 => intro u hu; simp at hu; rcases hu with rfl | rfl | rfl | rfl <;> rfl
        case n3 => unfold maxLen; omega
        case n4 => omega
        case n5 => simp; have := LIE.l3; have := LIE.l4; omega
        intro v8 w8 hown8 hgrow8 _ hat8
        have B2 := unhide BU
        clear BU kf kx
        have A6 : W2.grownBy (W2.alloc (.cells #[.int .i64 x0, .int .i64 x1, .int .i64 x2, .int .i64 x3] 68)) none := World.grownBy_alloc _ _ _
        have hol : ∀ g', (Value.slice (some ⟨gb, 0, none⟩) m bc).ownBlock = some g' → g' = gb := fun g' e => by simp [Value.ownBlock] at e; omega
        have l4 := LIE.l4
        have l3 := LIE.l3
        have hgl6 := (Array.getElem?_eq_some_iff.1 B2.f).1
        have hgr6 := (Array.getElem?_eq_some_iff.1 B2.r).1
        have hb8 := (hgrow8.block w1.heap.size (Nat.lt_of_lt_of_le hgl6 A6.size) (fun e => by have := hol _ e.symm; omega)).trans ((A6.block w1.heap.size hgl6 (by simp)).trans B2.f)
        have hr8 := (hgrow8.block w.heap.size (Nat.lt_of_lt_of_le hgr6 A6.size) (fun e => by have := hol _ e.symm; omega)).trans ((A6.block w.heap.size hgr6 (by simp)).trans B2.r)
        have hc8 := (B2.c.grown A6).beside hgrow8 (fun g' e => by have := hol g' e; exact ⟨by omega, fun h b off e' => by have := unhide HC h b off e'; omega⟩)
        have G8 := grown_tb (grown_tb B2.grown A6 (fun g' e => by simp at e)) hgrow8 (fun g' e => by have := hol g' e; omega)
        have O8 := own_as4 hown8 (n' := m + 1) rfl (rowsK_push D m x0 x1 x2 x3)
        obtain ⟨so8, sc8, hv8⟩ := own_form O8
        subst hv8
        have k8 := frameCells5 hb8
        have l8 := frameFree hb8
        have hs9 := grown_set w8 w1.heap.size 4 (.slice so8 (m + 1) sc8)
        have G9 := grown_trans (grown_weak (unhide G0)) (grown_tb G8 hs9 (fun g' e => by simp at e; omega))
        have hc9 := hc8.beside hs9 (fun g' e => by simp at e; exact ⟨by omega, fun h b off e' => by have := unhide HC h b off e'; omega⟩)
        have O9 : (w8.setCell ⟨w1.heap.size, 4, none⟩ (.slice so8 (m + 1) sc8)).ownsRow wx.heap.size 68 4 (.slice so8 (m + 1) sc8) (m + 1) (rowsK (m + 1) 4 (compCells (pushC D m x0 x1 x2 x3))) := by
          refine own_beneath O8 hs9 (fun g' t' e e' => ?_)
          simp at e'
          subst e'
          intro e2
          subst e2
          rcases hat8 with h | h
          · rw [h] at e; simp [Value.ownBlock] at e; omega
          · rw [h] at e; simp at e; omega
        have kr := frameCells5 hr8
        have fr := frameFree hr8
        have hner : ¬ w1.heap.size = w.heap.size := by omega
        have hner2 : ¬ w.heap.size = w1.heap.size := by omega
        have FIN := hide (fun a b c d e => finA htb (unhide HC) hgs O9 hc9 G9 a b c d e)
        clear hs9 G9 hc9 O9 hown8 hgrow8 A6 hb8 hc8 G8 O8 B2 hr8 hol hat8
        go_wp2
        refine bodyPost_ret (v := .agg #[.int .i64 p0, .int .i64 wd0, .int .i64 ht0, .int .i64 rs0, .slice so8 (m + 1) sc8]) (by simp [results, Try.results37, go_sem, *]) rfl ?_
        obtain ⟨z1, z2, z3⟩ := unhide FIN (.int .i64 p0) (.int .i64 wd0) (.int .i64 ht0) (.int .i64 rs0) (.slice so8 (m + 1) sc8)
        exact ⟨p0, wd0, ht0, rs0, (pushC D m x0 x1 x2 x3), (m + 1), _, q2, _, rfl, by omega, by omega, z1, z2, by omega, z3⟩
    clear ako
    refine (pick_of tb ao n cap q4 9 zs w5 c5 (by omega) (by omega) (by omega)).mono ?_
    rintro e w6 ⟨x6, q6, rfl, hx60, hx61, c6, hq6, g6⟩
    have B6 := (unhide HB5).pick LIE c6 g6
    clear HB5 c5 g6
    have hcases : x6 = 0 ∨ x6 = 1 ∨ x6 = 2 ∨ x6 = 3 ∨ x6 = 4 ∨ x6 = 5 ∨ x6 = 6 ∨ x6 = 7 ∨ x6 = 8 := by omega
    generalize C k 0 = y0 at *
    generalize C k 1 = y1 at *
    generalize C k 2 = y2 at *
    generalize C k 3 = y3 at *
    rcases hcases with rfl | rfl | rfl | rfl | rfl | rfl | rfl | rfl | rfl
    · go_wp2_with fail
      refine (odd_of tb ao n cap q6 zs w6 c6 (by omega)).mono ?_
      rintro e w7 ⟨y, q7, rfl, c7, hq7, g7⟩
      have B7 := B6.pick LIE c7 g7
      obtain ⟨fF, fX⟩ := B7.free
      have kF := frameCells5 B7.f
      have HB7 := hide B7
      clear B6 B7 c6 c7 g7
      go_wp2
      exact cont ((unhide HB7).setF LIE 0 y _ _ _ _ rfl) (by omega)
    · go_wp2_with fail
      refine (odd_of tb ao n cap q6 zs w6 c6 (by omega)).mono ?_
      rintro e w7 ⟨y, q7, rfl, c7, hq7, g7⟩
      have B7 := B6.pick LIE c7 g7
      obtain ⟨w8, hw8⟩ : ∃ w8, w7.alloc (.cells #[.int .i64 0, .int .i64 256, .int .i64 257, .int .i64 y] 3) = w8 := ⟨_, rfl⟩
      have g8 : w7.grownBy w8 none := by rw [← hw8]; exact grown_alloc (World.grownBy.refl _ _) _
      have hL8 : w8.heap[w7.heap.size]? = some (.cells #[.int .i64 0, .int .i64 256, .int .i64 257, .int .i64 y] 3 (0, 0)) := by rw [← hw8]; exact heap_alloc_new _ _
      have B8 := B7.new g8
      have HW8 := hide hw8
      clear hw8 B6 B7 c6 g7 g8
      go_wp2_with fail
      rw [unhide HW8]
      refine (pick_of tb ao n cap q7 4 zs w8 B8.c (by omega) (by omega) (by omega)).mono ?_
      rintro e w9 ⟨x9, q9, rfl, hx90, hx91, c9, hq9, g9⟩
      obtain ⟨i9, rfl⟩ := Int.eq_ofNat_of_zero_le hx90
      have B9 := B8.pick LIE c9 g9
      have hL9 := (g9.block w7.heap.size (Array.getElem?_eq_some_iff.1 hL8).1 (by simp; have := c7.lt; omega)).trans hL8
      obtain ⟨y9, hy9⟩ : ∃ y9 : Int, w9.cell? ⟨w7.heap.size, i9, none⟩ = some (.int .i64 y9) := by
        rw [cell_of_row w9 _ i9 _ _ (0, 0) hL9]
        have : i9 = 0 ∨ i9 = 1 ∨ i9 = 2 ∨ i9 = 3 := by omega
        rcases this with rfl | rfl | rfl | rfl <;> exact ⟨_, rfl⟩
      obtain ⟨fF, fX⟩ := B9.free
      have kF := frameCells5 B9.f
      have HB9 := hide B9
      clear B8 B9 c7 c9 g9 hL8 hL9 HW8
      go_wp2
      exact cont ((unhide HB9).setF LIE 1 y9 _ _ _ _ rfl) (by omega)
    · go_wp2_with fail
      refine (odd_of tb ao n cap q6 zs w6 c6 (by omega)).mono ?_
      rintro e w7 ⟨y, q7, rfl, c7, hq7, g7⟩
      have B7 := B6.pick LIE c7 g7
      obtain ⟨w8, hw8⟩ : ∃ w8, w7.alloc (.cells #[.int .i64 0, .int .i64 256, .int .i64 257, .int .i64 y] 3) = w8 := ⟨_, rfl⟩
      have g8 : w7.grownBy w8 none := by rw [← hw8]; exact grown_alloc (World.grownBy.refl _ _) _
      have hL8 : w8.heap[w7.heap.size]? = some (.cells #[.int .i64 0, .int .i64 256, .int .i64 257, .int .i64 y] 3 (0, 0)) := by rw [← hw8]; exact heap_alloc_new _ _
      have B8 := B7.new g8
      have HW8 := hide hw8
      clear hw8 B6 B7 c6 g7 g8
      go_wp2_with fail
      rw [unhide HW8]
      refine (pick_of tb ao n cap q7 4 zs w8 B8.c (by omega) (by omega) (by omega)).mono ?_
      rintro e w9 ⟨x9, q9, rfl, hx90, hx91, c9, hq9, g9⟩
      obtain ⟨i9, rfl⟩ := Int.eq_ofNat_of_zero_le hx90
      have B9 := B8.pick LIE c9 g9
      have hL9 := (g9.block w7.heap.size (Array.getElem?_eq_some_iff.1 hL8).1 (by simp; have := c7.lt; omega)).trans hL8
      obtain ⟨y9, hy9⟩ : ∃ y9 : Int, w9.cell? ⟨w7.heap.size, i9, none⟩ = some (.int .i64 y9) := by
        rw [cell_of_row w9 _ i9 _ _ (0, 0) hL9]
        have : i9 = 0 ∨ i9 = 1 ∨ i9 = 2 ∨ i9 = 3 := by omega
        rcases this with rfl | rfl | rfl | rfl <;> exact ⟨_, rfl⟩
      obtain ⟨fF, fX⟩ := B9.free
      have kF := frameCells5 B9.f
      have HB9 := hide B9
      clear B8 B9 c7 c9 g9 hL8 hL9 HW8
      go_wp2
      exact cont ((unhide HB9).setF LIE 2 y9 _ _ _ _ rfl) (by omega)
    · go_wp2_with fail
      refine (odd_of tb ao n cap q6 zs w6 c6 (by omega)).mono ?_
      rintro e w7 ⟨y, q7, rfl, c7, hq7, g7⟩
      have B7 := B6.pick LIE c7 g7
      obtain ⟨fF, fX⟩ := B7.free
      have kF := frameCells5 B7.f
      have HB7 := hide B7
      clear B6 B7 c6 c7 g7
      go_wp2
      exact cont ((unhide HB7).setF LIE 3 y _ _ _ _ rfl) (by omega)
    · go_wp2_with fail
      refine (odd_of tb ao n cap q6 zs w6 c6 (by omega)).mono ?_
      rintro e w7 ⟨y, q7, rfl, c7, hq7, g7⟩
      have B7 := B6.pick LIE c7 g7
      obtain ⟨fF, fX⟩ := B7.free
      have kF := compCells4 B7.x
      have HB7 := hide B7
      clear B6 B7 c6 c7 g7
      go_wp2
      exact cont ((unhide HB7).setX LIE 0 y _ _ _ _ rfl) (by omega)
    · go_wp2_with fail
      refine (odd_of tb ao n cap q6 zs w6 c6 (by omega)).mono ?_
      rintro e w7 ⟨y, q7, rfl, c7, hq7, g7⟩
      have B7 := B6.pick LIE c7 g7
      obtain ⟨fF, fX⟩ := B7.free
      have kF := compCells4 B7.x
      have HB7 := hide B7
      clear B6 B7 c6 c7 g7
      go_wp2
      exact cont ((unhide HB7).setX LIE 1 y _ _ _ _ rfl) (by omega)
    · obtain ⟨w8, hw8⟩ : ∃ w8, w6.alloc (.cells #[.int .i64 0, .int .i64 4, .int .i64 5] 3) = w8 := ⟨_, rfl⟩
      have g8 : w6.grownBy w8 none := by rw [← hw8]; exact grown_alloc (World.grownBy.refl _ _) _
      have hL8 : w8.heap[w6.heap.size]? = some (.cells #[.int .i64 0, .int .i64 4, .int .i64 5] 3 (0, 0)) := by rw [← hw8]; exact heap_alloc_new _ _
      have B8 := B6.new g8
      have HW8 := hide hw8
      clear hw8 B6 g8
      go_wp2_with fail
      rw [unhide HW8]
      refine (pick_of tb ao n cap q6 3 zs w8 B8.c (by omega) (by omega) (by omega)).mono ?_
      rintro e w9 ⟨x9, q9, rfl, hx90, hx91, c9, hq9, g9⟩
      obtain ⟨i9, rfl⟩ := Int.eq_ofNat_of_zero_le hx90
      have B9 := B8.pick LIE c9 g9
      have hL9 := (g9.block w6.heap.size (Array.getElem?_eq_some_iff.1 hL8).1 (by simp; have := c6.lt; omega)).trans hL8
      obtain ⟨y9, hy9⟩ : ∃ y9 : Int, w9.cell? ⟨w6.heap.size, i9, none⟩ = some (.int .i64 y9) := by
        rw [cell_of_row w9 _ i9 _ _ (0, 0) hL9]
        have : i9 = 0 ∨ i9 = 1 ∨ i9 = 2 := by omega
        rcases this with rfl | rfl | rfl <;> exact ⟨_, rfl⟩
      obtain ⟨fF, fX⟩ := B9.free
      have kF := compCells4 B9.x
      have HB9 := hide B9
      clear B8 B9 c9 g9 hL8 hL9 HW8 c6
      go_wp2
      exact cont ((unhide HB9).setX LIE 2 y9 _ _ _ _ rfl) (by omega)
    · obtain ⟨w8, hw8⟩ : ∃ w8, w6.alloc (.cells #[.int .i64 (-1), .int .i64 3, .int .i64 4] 3) = w8 := ⟨_, rfl⟩
      have g8 : w6.grownBy w8 none := by rw [← hw8]; exact grown_alloc (World.grownBy.refl _ _) _
      have hL8 : w8.heap[w6.heap.size]? = some (.cells #[.int .i64 (-1), .int .i64 3, .int .i64 4] 3 (0, 0)) := by rw [← hw8]; exact heap_alloc_new _ _
      have B8 := B6.new g8
      have HW8 := hide hw8
      clear hw8 B6 g8
      go_wp2_with fail
      rw [unhide HW8]
      refine (pick_of tb ao n cap q6 3 zs w8 B8.c (by omega) (by omega) (by omega)).mono ?_
      rintro e w9 ⟨x9, q9, rfl, hx90, hx91, c9, hq9, g9⟩
      obtain ⟨i9, rfl⟩ := Int.eq_ofNat_of_zero_le hx90
      have B9 := B8.pick LIE c9 g9
      have hL9 := (g9.block w6.heap.size (Array.getElem?_eq_some_iff.1 hL8).1 (by simp; have := c6.lt; omega)).trans hL8
      obtain ⟨y9, hy9⟩ : ∃ y9 : Int, w9.cell? ⟨w6.heap.size, i9, none⟩ = some (.int .i64 y9) := by
        rw [cell_of_row w9 _ i9 _ _ (0, 0) hL9]
        have : i9 = 0 ∨ i9 = 1 ∨ i9 = 2 := by omega
        rcases this with rfl | rfl | rfl <;> exact ⟨_, rfl⟩
      obtain ⟨fF, fX⟩ := B9.free
      have kF := compCells4 B9.x
      have HB9 := hide B9
      clear B8 B9 c9 g9 hL8 hL9 HW8 c6
      go_wp2
      exact cont ((unhide HB9).setX LIE 3 y9 _ _ _ _ rfl) (by omega)
    · have B7 := B6.setF LIE 1 128 _ _ _ _ rfl
      have kF6 := frameCells5 B6.f
      obtain ⟨fF6, _⟩ := B6.free
      obtain ⟨w7, hw7⟩ : ∃ w7, w6.setCell ⟨w1.heap.size, 1, none⟩ (.int .i64 128) = w7 := ⟨_, rfl⟩
      rw [hw7] at B7
      have HW7 := hide hw7
      clear hw7 B6 c6
      go_wp2_with fail
      rw [unhide HW7]
      refine (pick_of tb ao n cap q6 2 zs w7 B7.c (by omega) (by omega) (by omega)).mono ?_
      rintro e w9 ⟨x9, q9, rfl, hx90, hx91, c9, hq9, g9⟩
      have B9 := B7.pick LIE c9 g9
      obtain ⟨fF, fX⟩ := B9.free
      have kF := frameCells5 B9.f
      have hw := i64_in (128 + x9) (by omega)
      have HB9 := hide B9
      clear B7 B9 c9 g9 HW7 kF6 fF6
      go_wp2
      exact cont ((unhide HB9).setF LIE 2 (128 + x9) _ _ _ _ rfl) (by omega)

end Go.Proofs.Ytnjcmlmgjoaeeaa
