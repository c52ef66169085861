/-
  A region that draws its order, whose operations only make what is new: of each it is told once what its slot holds behind it, given what the slots hold that it waits for; whatever order is picked, each slot holds that in the end.
-/
import Derived.Test.YtnjcmlmgjoaeeaaHeldTail
import Derived.Test.YtnjcmlmgjoaeeaaQuietLast
namespace Go.Proofs.Ytnjcmlmgjoaeeaa
open Go.RowKit

def preB (md : Region.Mode) (o : Oper) (i : Nat) : Bool := o.after.any fun e => Region.binds md e && e.on == i
def putAll (a : Act) : List Nat → List Value → Act
  | d :: ds, v :: vs => putAll (a.put (some d) v) ds vs
  | _, _ => a
theorem put_comm (a : Act) {d e : Nat} (h : d ≠ e) (x y : Value) : (a.put (some d) x).put (some e) y = (a.put (some e) y).put (some d) x := by
  simp only [Act.put]
  rw [Array.setIfInBounds_comm _ _ h]
theorem putAll_out : ∀ (ds : List Nat) (vs : List Value) (a : Act) (d : Nat) (v : Value), d ∉ ds → (putAll a ds vs).put (some d) v = putAll (a.put (some d) v) ds vs
  | [], _, _, _, _, _ => rfl
  | _ :: _, [], _, _, _, _ => rfl
  | e :: ds, x :: vs, a, d, v, h => by
    simp only [List.mem_cons, not_or] at h
    show (putAll (a.put (some e) x) ds vs).put (some d) v = putAll ((a.put (some d) v).put (some e) x) ds vs
    rw [putAll_out ds vs _ d v h.2, put_comm a (Ne.symm h.1)]
theorem put_twice (a : Act) (d : Nat) (x y : Value) : (a.put (some d) x).put (some d) y = a.put (some d) y := by simp [Act.put]
theorem putAll_set : ∀ (ds : List Nat) (vs : List Value) (a : Act) (k d : Nat) (v : Value), ds.Nodup → vs.length = ds.length → ds[k]? = some d → putAll a ds (vs.set k v) = (putAll a ds vs).put (some d) v
  | [], _, _, _, _, _, _, _, h => by simp at h
  | _ :: _, [], _, _, _, _, _, h, _ => by simp at h
  | e :: ds, x :: vs, a, 0, d, v, hn, _, h => by
    simp only [List.getElem?_cons_zero, Option.some.injEq] at h
    subst h
    show putAll (a.put (some e) v) ds vs = (putAll (a.put (some e) x) ds vs).put (some e) v
    rw [putAll_out ds vs _ e v (List.nodup_cons.1 hn).1, put_twice]
  | e :: ds, x :: vs, a, k + 1, d, v, hn, hl, h => putAll_set ds vs (a.put (some e) x) k d v (List.nodup_cons.1 hn).2 (by simpa using hl) (by simpa using h)
theorem put_same (a : Act) (d : Nat) : a.put (some d) (a.tmps.getD d undef) = a := by
  simp only [Act.put]
  have : a.tmps.setIfInBounds d (a.tmps.getD d undef) = a.tmps := by
    apply Array.ext_getElem?
    intro i
    rw [Array.getElem?_setIfInBounds]
    split
    · rename_i h
      subst h
      split
      · rename_i h'
        simp [h']
      · rename_i h'
        simp [Nat.le_of_not_lt h']
    · rfl
  rw [this]
theorem putAll_same (a : Act) : ∀ ds : List Nat, putAll a ds (ds.map fun d => a.tmps.getD d undef) = a
  | [] => rfl
  | d :: ds => by
    show putAll (a.put (some d) (a.tmps.getD d undef)) ds _ = a
    rw [put_same]
    exact putAll_same a ds

section
variable {P : Program} {md : Region.Mode} {S : World → Prop} {Q : Exit → Act → World → Prop} {l : List Oper}

/-- Each edge leads back; each operation is among those that are listed or those that are told; the slots are apart. -/
def relyB (md : Region.Mode) (fl : Nat) (l : List Oper) (is ds : List Nat) (deps : List (List Nat)) (listed : Array Bool) : Bool :=
  decide ds.Nodup && decide is.Nodup && (listed.size == l.length) && (List.range l.length).all (fun i => listed.getD i true || is.contains i) && is.all (fun i => decide (i < l.length)) && is.all (fun i => !listed.getD i true) &&
  (List.range l.length).all (fun i => ((l[i]?).map fun (o : Oper) => o.after.all fun e => decide (e.on < i)).getD true) &&
  (List.range l.length).all (fun i => !listed.getD i false || ((l[i]?).map fun (o : Oper) => o.after.all fun e => !Region.binds md e || listed.getD e.on false).getD true) &&
  (List.range is.length).all fun k => (deps.getD k []).all fun q => q == k || waits md l.toArray fl (is.getD k 0) (is.getD q 0)

theorem getD_tf {listed : Array Bool} {i : Nat} (h : i < listed.size) (a b : Bool) : listed.getD i a = listed.getD i b := by simp [h]
theorem getD_set {listed : Array Bool} {i j : Nat} (hj : j < listed.size) (b : Bool) : (listed.setIfInBounds i true).getD j b = if i = j then true else listed.getD j b := by
  by_cases h : i = j
  · subst h
    simp [hj]
  · rw [if_neg h]
    simp [hj, h]

theorem all_listed {n : Nat} {listed : Array Bool} (hn : l.length = n) (hs : listed.size = n) (hback : ∀ (i : Nat) (o : Oper), l[i]? = some o → ∀ e ∈ o.after, e.on < i) (hr : Region.ready md l.toArray listed = []) : ∀ i, i < n → listed.getD i true = true := by
  intro i
  induction i using Nat.strongRecOn with
  | _ i ih =>
    intro hi
    cases h : listed.getD i true with
    | true => rfl
    | false =>
      exfalso
      have ho : l[i]? = some l[i] := List.getElem?_eq_getElem (by omega)
      have : i ∈ Region.ready md l.toArray listed := mem_ready.2 ⟨h, l[i], by simp, fun e he _ => by
        have h1 := hback i _ ho e he
        have h2 := ih e.on h1 (by omega)
        rw [getD_tf (by omega) false true]
        exact h2⟩
      rw [hr] at this
      cases this

theorem filter_less {i : Nat} {p q : Nat → Bool} : ∀ is : List Nat, (∀ j ∈ is, q j = if i = j then false else p j) → (is.filter q).length ≤ (is.filter p).length
  | [], _ => Nat.le_refl _
  | j :: is, h => by
    have h1 := filter_less is (fun x hx => h x (by simp [hx]))
    have h2 := h j (by simp)
    rw [List.filter_cons, List.filter_cons]
    by_cases e : i = j
    · rw [if_pos e] at h2
      rw [h2, if_neg (by decide)]
      split
      · rw [List.length_cons]; omega
      · exact h1
    · rw [if_neg e] at h2
      rw [h2]
      split
      · rw [List.length_cons, List.length_cons]; omega
      · exact h1
theorem filter_drop0 {i : Nat} {p q : Nat → Bool} (hp : p i = true) : ∀ is : List Nat, (∀ j ∈ is, q j = if i = j then false else p j) → i ∈ is → (is.filter q).length + 1 ≤ (is.filter p).length
  | [], _, h => by cases h
  | j :: is, h, hm => by
    have h2 := h j (by simp)
    rw [List.filter_cons, List.filter_cons]
    by_cases e : i = j
    · subst e
      rw [if_pos rfl] at h2
      have h1 := filter_less is (fun x hx => h x (by simp [hx]))
      rw [h2, hp, if_neg (by decide), if_pos rfl, List.length_cons]
      omega
    · have h1 := filter_drop0 hp is (fun x hx => h x (by simp [hx])) (by
        rcases List.mem_cons.1 hm with h | h
        · exact absurd h e
        · exact h)
      rw [if_neg e] at h2
      rw [h2]
      split
      · rw [List.length_cons, List.length_cons]; omega
      · exact h1
theorem filter_drop {listed : Array Bool} {i : Nat} (hu : listed.getD i true = false) (is : List Nat) (hj : ∀ j ∈ is, j < listed.size) (hm : i ∈ is) :
    (is.filter fun j => !(listed.setIfInBounds i true).getD j true).length + 1 ≤ (is.filter fun j => !listed.getD j true).length :=
  filter_drop0 (p := fun j => !listed.getD j true) (q := fun j => !(listed.setIfInBounds i true).getD j true) (by show (!listed.getD i true) = true; rw [hu]; rfl) is (fun j h => by
    show (!(listed.setIfInBounds i true).getD j true) = if i = j then false else !listed.getD j true
    rw [getD_set (hj j h)]
    split <;> rfl) hm

/-- What is so on the way. -/
structure OnWay (md : Region.Mode) (S : World → Prop) (l : List Oper) (is ds : List Nat) (fs : List (List Value → World → Prop)) (fuel : Nat) (listed : Array Bool) (vs : List Value) (w : World) : Prop where
  len : vs.length = ds.length
  st : S w
  sz : listed.size = l.length
  who : ∀ i, i < l.length → listed.getD i true = true ∨ i ∈ is
  told : ∀ (k i : Nat) (f : List Value → World → Prop), is[k]? = some i → fs[k]? = some f → listed.getD i false = true → f vs w
  cl : Cl md l.toArray listed
  fuel : (is.filter fun j => !listed.getD j true).length ≤ fuel

theorem anyH_on (fl : Nat) (is ds : List Nat) (deps : List (List Nat)) (fs : List (List Value → World → Prop)) (a0 : Act) (hl1 : is.length = ds.length) (hl2 : fs.length = ds.length) (hn : ds.Nodup) (hin : is.Nodup) (hlt : ∀ i ∈ is, i < l.length) (hback : ∀ (i : Nat) (o : Oper), l[i]? = some o → ∀ e ∈ o.after, e.on < i)
    (hst : ∀ (k : Nat) (f : List Value → World → Prop), fs[k]? = some f → ∀ (vs : List Value) (w w' : World), f vs w → w.grownBy w' none → f vs w')
    (hdep : ∀ (k : Nat) (f : List Value → World → Prop), fs[k]? = some f → ∀ (vs vs' : List Value) (w : World), (∀ q ∈ deps.getD k [], vs.getD q undef = vs'.getD q undef) → f vs w → f vs' w)
    (hwt : ∀ k, k < is.length → ∀ q ∈ deps.getD k [], q = k ∨ waits md l.toArray fl (is.getD k 0) (is.getD q 0) = true)
    (hstep : ∀ (k i d : Nat) (f : List Value → World → Prop) (o : Oper), is[k]? = some i → ds[k]? = some d → fs[k]? = some f → l[i]? = some o → ∀ (vs : List Value) (w : World), vs.length = ds.length → S w → (∀ (k' i' : Nat) (f' : List Value → World → Prop), is[k']? = some i' → fs[k']? = some f' → preB md o i' = true → f' vs w) →
      ∀ K : Act → World → Prop, Shut (∀ (v : Value) (w' : World), S w' → w.grownBy w' none → f (vs.set k v) w' → K ((putAll a0 ds vs).put (some d) v) w') → if Region.wanted o (yielded l.toArray (putAll a0 ds vs).tmps) = true then Oper.wp P o (putAll a0 ds vs) w K Q else K ((putAll a0 ds vs).put o.dst undef) w)
    (hend : ∀ (vs : List Value) (w : World), vs.length = ds.length → S w → (∀ (k : Nat) (f : List Value → World → Prop), fs[k]? = some f → f vs w) → Q .normal (putAll a0 ds vs) w) :
    ∀ (fuel : Nat) (listed : Array Bool) (vs : List Value) (w : World), OnWay md S l is ds fs fuel listed vs w → wpAnyH P md l.toArray Q S fuel listed (putAll a0 ds vs) w := by
  have hfin : ∀ (fuel : Nat) (listed : Array Bool) (vs : List Value) (w : World), OnWay md S l is ds fs fuel listed vs w → (∀ i, i < l.length → listed.getD i true = true) → Q .normal (putAll a0 ds vs) w := by
    intro fuel listed vs w h hall
    refine hend vs w h.len h.st (fun k f hf => ?_)
    have hk : k < is.length := by have := (List.getElem?_eq_some_iff.1 hf).1; omega
    refine h.told k is[k] f (List.getElem?_eq_getElem hk) hf ?_
    have h1 := hlt is[k] (List.getElem_mem hk)
    rw [getD_tf (by have := h.sz; omega) false true]
    exact hall _ h1
  intro fuel
  induction fuel with
  | zero =>
    intro listed vs w h
    have h0 := h.fuel
    have hall : ∀ i, i < l.length → listed.getD i true = true := fun i hi => by
      rcases h.who i hi with h1 | h1
      · exact h1
      · cases hu : listed.getD i true with
        | true => rfl
        | false =>
          have := filter_drop hu is (fun j hj => by have := hlt j hj; have := h.sz; omega) h1
          omega
    refine ⟨?_, hfin 0 listed vs w h hall⟩
    refine List.eq_nil_iff_forall_not_mem.2 (fun i hi => ?_)
    obtain ⟨h1, o, ho, _⟩ := mem_ready.1 hi
    have hi' : i < l.length := by
      have := (Array.getElem?_eq_some_iff.1 ho).1
      simpa using this
    rw [hall i hi'] at h1
    cases h1
  | succ fuel ih =>
    intro listed vs w h
    refine ⟨fun hr => hfin _ listed vs w h (all_listed rfl h.sz hback hr), fun i hi => ?_⟩
    obtain ⟨hu, o, ho, hpre⟩ := mem_ready.1 hi
    have hi' : i < l.length := by
      have := (Array.getElem?_eq_some_iff.1 ho).1
      simpa using this
    have ho' : l[i]? = some o := by simpa using ho
    have him : i ∈ is := by
      rcases h.who i hi' with h1 | h1
      · rw [hu] at h1; cases h1
      · exact h1
    obtain ⟨k, hk, hki⟩ := List.getElem_of_mem him
    have hkd : k < ds.length := by omega
    have hkf : k < fs.length := by omega
    have eis : is[k]? = some i := by rw [List.getElem?_eq_getElem hk, hki]
    have eds : ds[k]? = some ds[k] := List.getElem?_eq_getElem hkd
    have efs : fs[k]? = some fs[k] := List.getElem?_eq_getElem hkf
    refine wpOp_step (by simpa using ho') (fun K' hK => ?_)
    refine hstep k i ds[k] fs[k] o eis eds efs ho' vs w h.len h.st (fun k' i' f' e1 e2 hp => ?_) K' (fun v w' hS hg hf => ?_)
    · refine h.told k' i' f' e1 e2 ?_
      obtain ⟨e, he, hb⟩ := Array.any_eq_true'.1 hp
      rw [Bool.and_eq_true, beq_iff_eq] at hb
      rw [← hb.2]
      exact hpre e he hb.1
    · refine hK _ _ ⟨hS, ?_⟩
      rw [← putAll_set ds vs a0 k ds[k] v hn h.len eds]
      refine ih _ _ _ ⟨by simpa using h.len, hS, by simpa using h.sz, fun j hj => ?_, fun k' i' f' e1 e2 hl => ?_, ?_, ?_⟩
      · rw [getD_set (by have := h.sz; omega)]
        rcases h.who j hj with h1 | h1
        · left; split <;> first | rfl | exact h1
        · exact .inr h1
      · by_cases hkk : k' = k
        · subst hkk
          rw [efs] at e2
          cases e2
          exact hf
        · have hk' : k' < is.length := (List.getElem?_eq_some_iff.1 e1).1
          have hne : i ≠ i' := fun e => hkk (by
            subst e
            exact (List.getElem?_inj hk' hin).1 (e1.trans eis.symm))
          have hi2 : i' < l.length := hlt i' (List.mem_of_getElem? e1)
          rw [getD_set (by have := h.sz; omega), if_neg hne] at hl
          refine hdep k' f' e2 vs _ w' (fun q hq => ?_) (hst k' f' e2 _ _ _ (h.told k' i' f' e1 e2 hl) hg)
          have hqk : k ≠ q := fun e => by
            subst e
            rcases hwt k' hk' k hq with h1 | h1
            · exact hkk h1.symm
            · have e3 : is.getD k' 0 = i' := by simp [List.getD_eq_getElem?_getD, e1]
              have e4 : is.getD k 0 = i := by simp [List.getD_eq_getElem?_getD, eis]
              rw [e3, e4] at h1
              have h2 := waits_listed h.cl i fl i' hl h1
              rw [getD_tf (by have := h.sz; omega) false true, hu] at h2
              cases h2
          simp [List.getD_eq_getElem?_getD, hqk]
      · exact h.cl.set hi
      · have := filter_drop hu is (fun j hj => by have := hlt j hj; have := h.sz; omega) him
        have := h.fuel
        omega

theorem anyH_rely (fl : Nat) (is ds : List Nat) (deps : List (List Nat)) (fs : List (List Value → World → Prop)) {a0 : Act} {w : World} {fuel : Nat} {listed : Array Bool} (hl1 : is.length = ds.length) (hl2 : fs.length = ds.length) (hB : relyB md fl l is ds deps listed = true) (hfu : is.length ≤ fuel) (hS : S w)
    (hst : ∀ (k : Nat) (f : List Value → World → Prop), fs[k]? = some f → ∀ (vs : List Value) (w w' : World), f vs w → w.grownBy w' none → f vs w')
    (hdep : ∀ (k : Nat) (f : List Value → World → Prop), fs[k]? = some f → ∀ (vs vs' : List Value) (w : World), (∀ q ∈ deps.getD k [], vs.getD q undef = vs'.getD q undef) → f vs w → f vs' w)
    (hstep : ∀ (k i d : Nat) (f : List Value → World → Prop) (o : Oper), is[k]? = some i → ds[k]? = some d → fs[k]? = some f → l[i]? = some o → ∀ (vs : List Value) (w : World), vs.length = ds.length → S w → (∀ (k' i' : Nat) (f' : List Value → World → Prop), is[k']? = some i' → fs[k']? = some f' → preB md o i' = true → f' vs w) →
      ∀ K : Act → World → Prop, Shut (∀ (v : Value) (w' : World), S w' → w.grownBy w' none → f (vs.set k v) w' → K ((putAll a0 ds vs).put (some d) v) w') → if Region.wanted o (yielded l.toArray (putAll a0 ds vs).tmps) = true then Oper.wp P o (putAll a0 ds vs) w K Q else K ((putAll a0 ds vs).put o.dst undef) w)
    (hend : ∀ (vs : List Value) (w : World), vs.length = ds.length → S w → (∀ (k : Nat) (f : List Value → World → Prop), fs[k]? = some f → f vs w) → Q .normal (putAll a0 ds vs) w) : wpAnyH P md l.toArray Q S fuel listed a0 w := by
  simp only [relyB, Bool.and_eq_true, decide_eq_true_eq, beq_iff_eq, List.all_eq_true] at hB
  obtain ⟨⟨⟨⟨⟨⟨⟨⟨b1, b2⟩, b3⟩, b4⟩, b5⟩, b6⟩, b7⟩, b8⟩, b9⟩ := hB
  have e := putAll_same a0 ds
  rw [← e]
  have hback : ∀ (i : Nat) (o : Oper), l[i]? = some o → ∀ e ∈ o.after, e.on < i := fun i o ho x hx => by
    have := b7 i (by have := (List.getElem?_eq_some_iff.1 ho).1; simpa using this)
    simp only [ho, Option.map_some, Option.getD_some] at this
    exact of_decide_eq_true (Array.all_eq_true'.1 this x hx)
  have hwt : ∀ k, k < is.length → ∀ q ∈ deps.getD k [], q = k ∨ waits md l.toArray fl (is.getD k 0) (is.getD q 0) = true := fun k hk q hq => by
    have := b9 k (by simpa using hk) q hq
    simpa [Bool.or_eq_true, beq_iff_eq] using this
  have hcl : Cl md l.toArray listed := fun k ok hk hl e he hb => by
    have hk' : k < l.length := by
      have := (Array.getElem?_eq_some_iff.1 hk).1
      simpa using this
    have h := b8 k (by simpa using hk')
    have hk2 : l[k]? = some ok := by simpa using hk
    rw [hl, hk2] at h
    simp only [Bool.not_true, Bool.false_or, Option.map_some, Option.getD_some] at h
    have := Array.all_eq_true'.1 h e he
    rw [hb] at this
    simpa using this
  refine anyH_on (md := md) fl is ds deps fs a0 hl1 hl2 b1 b2 b5 hback hst hdep hwt hstep hend fuel listed _ w ⟨by simp, hS, b3, fun i hi => ?_, fun k i f e1 _ hl => ?_, hcl, ?_⟩
  · have := b4 i (by simpa using hi)
    simpa [Bool.or_eq_true] using this
  · have h1 := b6 i (List.mem_of_getElem? e1)
    have h2 := b5 i (List.mem_of_getElem? e1)
    rw [getD_tf (by omega) false true] at hl
    rw [hl] at h1
    cases h1
  · exact Nat.le_trans (List.length_filter_le _ _) hfu
end

end Go.Proofs.Ytnjcmlmgjoaeeaa
