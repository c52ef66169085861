/-
  RelyRegion, ScriptImpl, GiveScript, GiveScripts.
-/
import Derived.Test.YtnjcmlmgjoaeeaaMVj

namespace Go.Proofs.Ytnjcmlmgjoaeeaa
open Go.RowKit

def preB (md : Region.Mode) (o : Oper) (i : Nat) : Bool := o.after.any fun e => Region.binds md e && e.on == i
def putAll (a : Act) : List Nat → List Value → Act
  | d :: ds, v :: vs => putAll (a.put (some d) v) ds vs
  | _, _ => a
theorem put_comm (a : Act) {d e : Nat} (h : d ≠ e) (x y : Value) : (a.put (some d) x).put (some e) y = (a.put (some e) y).put (some d) x := by
  simp only [Act.put]
  rw [Array.setIfInBounds_comm _ _ h]
theorem putAll_out : ∀ (ds : List Nat) (vs : List Value) (a : Act) (d : Nat) (v : Value), d ∉ ds → (putAll a ds vs).put (some d) v = putAll (a.put (some d) v) ds vs
  | [], _, _, _, _, _ => rfl
  | _ :: _, [], _, _, _, _ => rfl
  | e :: ds, x :: vs, a, d, v, h => by
    simp only [List.mem_cons, not_or] at h
    show (putAll (a.put (some e) x) ds vs).put (some d) v = putAll ((a.put (some d) v).put (some e) x) ds vs
    rw [putAll_out ds vs _ d v h.2, put_comm a (Ne.symm h.1)]
theorem put_twice (a : Act) (d : Nat) (x y : Value) : (a.put (some d) x).put (some d) y = a.put (some d) y := by simp [Act.put]
theorem putAll_set : ∀ (ds : List Nat) (vs : List Value) (a : Act) (k d : Nat) (v : Value), ds.Nodup → vs.length = ds.length → ds[k]? = some d → putAll a ds (vs.set k v) = (putAll a ds vs).put (some d) v
  | [], _, _, _, _, _, _, _, h => by simp at h
  | _ :: _, [], _, _, _, _, _, h, _ => by simp at h
  | e :: ds, x :: vs, a, 0, d, v, hn, _, h => by
    simp only [List.getElem?_cons_zero, Option.some.injEq] at h
    subst h
    show putAll (a.put (some e) v) ds vs = (putAll (a.put (some e) x) ds vs).put (some e) v
    rw [putAll_out ds vs _ e v (List.nodup_cons.1 hn).1, put_twice]
  | e :: ds, x :: vs, a, k + 1, d, v, hn, hl, h => putAll_set ds vs (a.put (some e) x) k d v (List.nodup_cons.1 hn).2 (by simpa using hl) (by simpa using h)
theorem put_same (a : Act) (d : Nat) : a.put (some d) (a.tmps.getD d undef) = a := by
  simp only [Act.put]
  have : a.tmps.setIfInBounds d (a.tmps.getD d undef) = a.tmps := by
    apply Array.ext_getElem?
    intro i
    rw [Array.getElem?_setIfInBounds]
    split
    · rename_i h
      subst h
      split
      · rename_i h'
        simp [h']
      · rename_i h'
        simp [Nat.le_of_not_lt h']
    · rfl
  rw [this]
theorem putAll_same (a : Act) : ∀ ds : List Nat, putAll a ds (ds.map fun d => a.tmps.getD d undef) = a
  | [] => rfl
  | d :: ds => by
    show putAll (a.put (some d) (a.tmps.getD d undef)) ds _ = a
    rw [put_same]
    exact putAll_same a ds

section
variable {P : Program} {md : Region.Mode} {S : World → Prop} {Q : Exit → Act → World → Prop} {l : List Oper}

/-- Each edge leads back; each operation is among those that are listed or those that are told; the slots are apart. -/
def relyB (md : Region.Mode) (fl : Nat) (l : List Oper) (is ds : List Nat) (deps : List (List Nat)) (listed : Array Bool) : Bool :=
  decide ds.Nodup && decide is.Nodup && (listed.size == l.length) && (List.range l.length).all (fun i => listed.getD i true || is.contains i) && is.all (fun i => decide (i < l.length)) && is.all (fun i => !listed.getD i true) &&
  (List.range l.length).all (fun i => ((l[i]?).map fun (o : Oper) => o.after.all fun e => decide (e.on < i)).getD true) &&
  (List.range l.length).all (fun i => !listed.getD i false || ((l[i]?).map fun (o : Oper) => o.after.all fun e => !Region.binds md e || listed.getD e.on false).getD true) &&
  (List.range is.length).all fun k => (deps.getD k []).all fun q => q == k || waits md l.toArray fl (is.getD k 0) (is.getD q 0)

theorem listed_tf {listed : Array Bool} {i : Nat} (h : i < listed.size) (a b : Bool) : listed.getD i a = listed.getD i b := by simp [h]
theorem listed_set {listed : Array Bool} {i j : Nat} (hj : j < listed.size) (b : Bool) : (listed.setIfInBounds i true).getD j b = if i = j then true else listed.getD j b := by
  by_cases h : i = j
  · subst h
    simp [hj]
  · rw [if_neg h]
    simp [hj, h]

theorem all_listed {n : Nat} {listed : Array Bool} (hn : l.length = n) (hs : listed.size = n) (hback : ∀ (i : Nat) (o : Oper), l[i]? = some o → ∀ e ∈ o.after, e.on < i) (hr : Region.ready md l.toArray listed = []) : ∀ i, i < n → listed.getD i true = true := by
  intro i
  induction i using Nat.strongRecOn with
  | _ i ih =>
    intro hi
    cases h : listed.getD i true with
    | true => rfl
    | false =>
      exfalso
      have ho : l[i]? = some l[i] := List.getElem?_eq_getElem (by omega)
      have : i ∈ Region.ready md l.toArray listed := mem_ready.2 ⟨h, l[i], by simp, fun e he _ => by
        have h1 := hback i _ ho e he
        have h2 := ih e.on h1 (by omega)
        rw [listed_tf (by omega) false true]
        exact h2⟩
      rw [hr] at this
      cases this

theorem filter_less {i : Nat} {p q : Nat → Bool} : ∀ is : List Nat, (∀ j ∈ is, q j = if i = j then false else p j) → (is.filter q).length ≤ (is.filter p).length
  | [], _ => Nat.le_refl _
  | j :: is, h => by
    have h1 := filter_less is (fun x hx => h x (by simp [hx]))
    have h2 := h j (by simp)
    rw [List.filter_cons, List.filter_cons]
    by_cases e : i = j
    · rw [if_pos e] at h2
      rw [h2, if_neg (by decide)]
      split
      · rw [List.length_cons]; omega
      · exact h1
    · rw [if_neg e] at h2
      rw [h2]
      split
      · rw [List.length_cons, List.length_cons]; omega
      · exact h1
theorem filter_drop0 {i : Nat} {p q : Nat → Bool} (hp : p i = true) : ∀ is : List Nat, (∀ j ∈ is, q j = if i = j then false else p j) → i ∈ is → (is.filter q).length + 1 ≤ (is.filter p).length
  | [], _, h => by cases h
  | j :: is, h, hm => by
    have h2 := h j (by simp)
    rw [List.filter_cons, List.filter_cons]
    by_cases e : i = j
    · subst e
      rw [if_pos rfl] at h2
      have h1 := filter_less is (fun x hx => h x (by simp [hx]))
      rw [h2, hp, if_neg (by decide), if_pos rfl, List.length_cons]
      omega
    · have h1 := filter_drop0 hp is (fun x hx => h x (by simp [hx])) (by
        rcases List.mem_cons.1 hm with h | h
        · exact absurd h e
        · exact h)
      rw [if_neg e] at h2
      rw [h2]
      split
      · rw [List.length_cons, List.length_cons]; omega
      · exact h1
theorem filter_drop {listed : Array Bool} {i : Nat} (hu : listed.getD i true = false) (is : List Nat) (hj : ∀ j ∈ is, j < listed.size) (hm : i ∈ is) :
    (is.filter fun j => !(listed.setIfInBounds i true).getD j true).length + 1 ≤ (is.filter fun j => !listed.getD j true).length :=
  filter_drop0 (p := fun j => !listed.getD j true) (q := fun j => !(listed.setIfInBounds i true).getD j true) (by show (!listed.getD i true) = true; rw [hu]; rfl) is (fun j h => by
    show (!(listed.setIfInBounds i true).getD j true) = if i = j then false else !listed.getD j true
    rw [listed_set (hj j h)]
    split <;> rfl) hm

/-- What is so on the way. -/
structure OnWay (md : Region.Mode) (S : World → Prop) (l : List Oper) (is ds : List Nat) (fs : List (List Value → World → Prop)) (fuel : Nat) (listed : Array Bool) (vs : List Value) (w : World) : Prop where
  len : vs.length = ds.length
  st : S w
  sz : listed.size = l.length
  who : ∀ i, i < l.length → listed.getD i true = true ∨ i ∈ is
  told : ∀ (k i : Nat) (f : List Value → World → Prop), is[k]? = some i → fs[k]? = some f → listed.getD i false = true → f vs w
  cl : Cl md l.toArray listed
  fuel : (is.filter fun j => !listed.getD j true).length ≤ fuel

theorem anyH_on (fl : Nat) (is ds : List Nat) (deps : List (List Nat)) (fs : List (List Value → World → Prop)) (a0 : Act) (hl1 : is.length = ds.length) (hl2 : fs.length = ds.length) (hn : ds.Nodup) (hin : is.Nodup) (hlt : ∀ i ∈ is, i < l.length) (hback : ∀ (i : Nat) (o : Oper), l[i]? = some o → ∀ e ∈ o.after, e.on < i)
    (hst : ∀ (k : Nat) (f : List Value → World → Prop), fs[k]? = some f → ∀ (vs : List Value) (w w' : World), f vs w → w.grownBy w' none → f vs w')
    (hdep : ∀ (k : Nat) (f : List Value → World → Prop), fs[k]? = some f → ∀ (vs vs' : List Value) (w : World), (∀ q ∈ deps.getD k [], vs.getD q undef = vs'.getD q undef) → f vs w → f vs' w)
    (hwt : ∀ k, k < is.length → ∀ q ∈ deps.getD k [], q = k ∨ waits md l.toArray fl (is.getD k 0) (is.getD q 0) = true)
    (hstep : ∀ (k i d : Nat) (f : List Value → World → Prop) (o : Oper), is[k]? = some i → ds[k]? = some d → fs[k]? = some f → l[i]? = some o → ∀ (vs : List Value) (w : World), vs.length = ds.length → S w → (∀ (k' i' : Nat) (f' : List Value → World → Prop), is[k']? = some i' → fs[k']? = some f' → preB md o i' = true → f' vs w) →
      ∀ K : Act → World → Prop, Shut (∀ (v : Value) (w' : World), S w' → w.grownBy w' none → f (vs.set k v) w' → K ((putAll a0 ds vs).put (some d) v) w') → if Region.wanted o (yielded l.toArray (putAll a0 ds vs).tmps) = true then Oper.wp P o (putAll a0 ds vs) w K Q else K ((putAll a0 ds vs).put o.dst undef) w)
    (hend : ∀ (vs : List Value) (w : World), vs.length = ds.length → S w → (∀ (k : Nat) (f : List Value → World → Prop), fs[k]? = some f → f vs w) → Q .normal (putAll a0 ds vs) w) :
    ∀ (fuel : Nat) (listed : Array Bool) (vs : List Value) (w : World), OnWay md S l is ds fs fuel listed vs w → wpAnyH P md l.toArray Q S fuel listed (putAll a0 ds vs) w := by
  have hfin : ∀ (fuel : Nat) (listed : Array Bool) (vs : List Value) (w : World), OnWay md S l is ds fs fuel listed vs w → (∀ i, i < l.length → listed.getD i true = true) → Q .normal (putAll a0 ds vs) w := by
    intro fuel listed vs w h hall
    refine hend vs w h.len h.st (fun k f hf => ?_)
    have hk : k < is.length := by have := (List.getElem?_eq_some_iff.1 hf).1; omega
    refine h.told k is[k] f (List.getElem?_eq_getElem hk) hf ?_
    have h1 := hlt is[k] (List.getElem_mem hk)
    rw [listed_tf (by have := h.sz; omega) false true]
    exact hall _ h1
  intro fuel
  induction fuel with
  | zero =>
    intro listed vs w h
    have h0 := h.fuel
    have hall : ∀ i, i < l.length → listed.getD i true = true := fun i hi => by
      rcases h.who i hi with h1 | h1
      · exact h1
      · cases hu : listed.getD i true with
        | true => rfl
        | false =>
          have := filter_drop hu is (fun j hj => by have := hlt j hj; have := h.sz; omega) h1
          omega
    refine ⟨?_, hfin 0 listed vs w h hall⟩
    refine List.eq_nil_iff_forall_not_mem.2 (fun i hi => ?_)
    obtain ⟨h1, o, ho, _⟩ := mem_ready.1 hi
    have hi' : i < l.length := by
      have := (Array.getElem?_eq_some_iff.1 ho).1
      simpa using this
    rw [hall i hi'] at h1
    cases h1
  | succ fuel ih =>
    intro listed vs w h
    refine ⟨fun hr => hfin _ listed vs w h (all_listed rfl h.sz hback hr), fun i hi => ?_⟩
    obtain ⟨hu, o, ho, hpre⟩ := mem_ready.1 hi
    have hi' : i < l.length := by
      have := (Array.getElem?_eq_some_iff.1 ho).1
      simpa using this
    have ho' : l[i]? = some o := by simpa using ho
    have him : i ∈ is := by
      rcases h.who i hi' with h1 | h1
      · rw [hu] at h1; cases h1
      · exact h1
    obtain ⟨k, hk, hki⟩ := List.getElem_of_mem him
    have hkd : k < ds.length := by omega
    have hkf : k < fs.length := by omega
    have eis : is[k]? = some i := by rw [List.getElem?_eq_getElem hk, hki]
    have eds : ds[k]? = some ds[k] := List.getElem?_eq_getElem hkd
    have efs : fs[k]? = some fs[k] := List.getElem?_eq_getElem hkf
    refine wpOp_step (by simpa using ho') (fun K' hK => ?_)
    refine hstep k i ds[k] fs[k] o eis eds efs ho' vs w h.len h.st (fun k' i' f' e1 e2 hp => ?_) K' (fun v w' hS hg hf => ?_)
    · refine h.told k' i' f' e1 e2 ?_
      obtain ⟨e, he, hb⟩ := Array.any_eq_true'.1 hp
      rw [Bool.and_eq_true, beq_iff_eq] at hb
      rw [← hb.2]
      exact hpre e he hb.1
    · refine hK _ _ ⟨hS, ?_⟩
      rw [← putAll_set ds vs a0 k ds[k] v hn h.len eds]
      refine ih _ _ _ ⟨by simpa using h.len, hS, by simpa using h.sz, fun j hj => ?_, fun k' i' f' e1 e2 hl => ?_, ?_, ?_⟩
      · rw [listed_set (by have := h.sz; omega)]
        rcases h.who j hj with h1 | h1
        · left; split <;> first | rfl | exact h1
        · exact .inr h1
      · by_cases hkk : k' = k
        · subst hkk
          rw [efs] at e2
          cases e2
          exact hf
        · have hk' : k' < is.length := (List.getElem?_eq_some_iff.1 e1).1
          have hne : i ≠ i' := fun e => hkk (by
            subst e
            exact (List.getElem?_inj hk' hin).1 (e1.trans eis.symm))
          have hi2 : i' < l.length := hlt i' (List.mem_of_getElem? e1)
          rw [listed_set (by have := h.sz; omega), if_neg hne] at hl
          refine hdep k' f' e2 vs _ w' (fun q hq => ?_) (hst k' f' e2 _ _ _ (h.told k' i' f' e1 e2 hl) hg)
          have hqk : k ≠ q := fun e => by
            subst e
            rcases hwt k' hk' k hq with h1 | h1
            · exact hkk h1.symm
            · have e3 : is.getD k' 0 = i' := by simp [List.getD_eq_getElem?_getD, e1]
              have e4 : is.getD k 0 = i := by simp [List.getD_eq_getElem?_getD, eis]
              rw [e3, e4] at h1
              have h2 := waits_listed h.cl i fl i' hl h1
              rw [listed_tf (by have := h.sz; omega) false true, hu] at h2
              cases h2
          simp [List.getD_eq_getElem?_getD, hqk]
      · exact h.cl.set hi
      · have := filter_drop hu is (fun j hj => by have := hlt j hj; have := h.sz; omega) him
        have := h.fuel
        omega

theorem anyH_rely (fl : Nat) (is ds : List Nat) (deps : List (List Nat)) (fs : List (List Value → World → Prop)) {a0 : Act} {w : World} {fuel : Nat} {listed : Array Bool} (hl1 : is.length = ds.length) (hl2 : fs.length = ds.length) (hB : relyB md fl l is ds deps listed = true) (hfu : is.length ≤ fuel) (hS : S w)
    (hst : ∀ (k : Nat) (f : List Value → World → Prop), fs[k]? = some f → ∀ (vs : List Value) (w w' : World), f vs w → w.grownBy w' none → f vs w')
    (hdep : ∀ (k : Nat) (f : List Value → World → Prop), fs[k]? = some f → ∀ (vs vs' : List Value) (w : World), (∀ q ∈ deps.getD k [], vs.getD q undef = vs'.getD q undef) → f vs w → f vs' w)
    (hstep : ∀ (k i d : Nat) (f : List Value → World → Prop) (o : Oper), is[k]? = some i → ds[k]? = some d → fs[k]? = some f → l[i]? = some o → ∀ (vs : List Value) (w : World), vs.length = ds.length → S w → (∀ (k' i' : Nat) (f' : List Value → World → Prop), is[k']? = some i' → fs[k']? = some f' → preB md o i' = true → f' vs w) →
      ∀ K : Act → World → Prop, Shut (∀ (v : Value) (w' : World), S w' → w.grownBy w' none → f (vs.set k v) w' → K ((putAll a0 ds vs).put (some d) v) w') → if Region.wanted o (yielded l.toArray (putAll a0 ds vs).tmps) = true then Oper.wp P o (putAll a0 ds vs) w K Q else K ((putAll a0 ds vs).put o.dst undef) w)
    (hend : ∀ (vs : List Value) (w : World), vs.length = ds.length → S w → (∀ (k : Nat) (f : List Value → World → Prop), fs[k]? = some f → f vs w) → Q .normal (putAll a0 ds vs) w) : wpAnyH P md l.toArray Q S fuel listed a0 w := by
  simp only [relyB, Bool.and_eq_true, decide_eq_true_eq, beq_iff_eq, List.all_eq_true] at hB
  obtain ⟨⟨⟨⟨⟨⟨⟨⟨b1, b2⟩, b3⟩, b4⟩, b5⟩, b6⟩, b7⟩, b8⟩, b9⟩ := hB
  have e := putAll_same a0 ds
  rw [← e]
  have hback : ∀ (i : Nat) (o : Oper), l[i]? = some o → ∀ e ∈ o.after, e.on < i := fun i o ho x hx => by
    have := b7 i (by have := (List.getElem?_eq_some_iff.1 ho).1; simpa using this)
    simp only [ho, Option.map_some, Option.getD_some] at this
    exact of_decide_eq_true (Array.all_eq_true'.1 this x hx)
  have hwt : ∀ k, k < is.length → ∀ q ∈ deps.getD k [], q = k ∨ waits md l.toArray fl (is.getD k 0) (is.getD q 0) = true := fun k hk q hq => by
    have := b9 k (by simpa using hk) q hq
    simpa [Bool.or_eq_true, beq_iff_eq] using this
  have hcl : Cl md l.toArray listed := fun k ok hk hl e he hb => by
    have hk' : k < l.length := by
      have := (Array.getElem?_eq_some_iff.1 hk).1
      simpa using this
    have h := b8 k (by simpa using hk')
    have hk2 : l[k]? = some ok := by simpa using hk
    rw [hl, hk2] at h
    simp only [Bool.not_true, Bool.false_or, Option.map_some, Option.getD_some] at h
    have := Array.all_eq_true'.1 h e he
    rw [hb] at this
    simpa using this
  refine anyH_on (md := md) fl is ds deps fs a0 hl1 hl2 b1 b2 b5 hback hst hdep hwt hstep hend fuel listed _ w ⟨by simp, hS, b3, fun i hi => ?_, fun k i f e1 _ hl => ?_, hcl, ?_⟩
  · have := b4 i (by simpa using hi)
    simpa [Bool.or_eq_true] using this
  · have h1 := b6 i (List.mem_of_getElem? e1)
    have h2 := b5 i (List.mem_of_getElem? e1)
    rw [listed_tf (by omega) false true] at hl
    rw [hl] at h1
    cases h1
  · exact Nat.le_trans (List.length_filter_le _ _) hfu
end

end Go.Proofs.Ytnjcmlmgjoaeeaa

namespace Go.Proofs.Ytnjcmlmgjoaeeaa
open Go.RowKit

def scL (fr to hi lo : Int) : Scn := ⟨[], fr, to, hi, lo⟩
/-- A row of scans without components that was laid. -/
theorem laid1 (w : World) (fr to hi lo : Int) : RdSs (w.alloc (.cells #[.slice none 0 0, .int .i64 fr, .int .i64 to, .int .i64 hi, .int .i64 lo] 38)) (.slice (some ⟨w.heap.size, 0, none⟩) 1 1) [scL fr to hi lo] := by
  have o : OwSs (w.alloc (.cells #[.slice none 0 0, .int .i64 fr, .int .i64 to, .int .i64 hi, .int .i64 lo] 38)) (.slice (some ⟨w.heap.size, 0, none⟩) 1 1) [scL fr to hi lo] ([w.heap.size] ++ [([] : List Nat)].flatten) :=
    ⟨fun _ => five (.slice none 0 0) (.int .i64 fr) (.int .i64 to) (.int .i64 hi) (.int .i64 lo), [[]], rfl, World.ownsRow_lit w #[.slice none 0 0, .int .i64 fr, .int .i64 to, .int .i64 hi, .int .i64 lo] 1 (Nat.zero_le _) (by unfold maxLen; omega) rfl, fun i hi => by
      obtain rfl : i = 0 := by simpa using hi
      exact ⟨⟨rfl, rfl, rfl, rfl⟩, ⟨rfl, .inl ⟨rfl, rfl⟩⟩, rfl⟩, rfl⟩
  exact o.rd
theorem laid2 (w : World) (fr to hi lo fr2 to2 hi2 lo2 : Int) : RdSs (w.alloc (.cells #[.slice none 0 0, .int .i64 fr, .int .i64 to, .int .i64 hi, .int .i64 lo, .slice none 0 0, .int .i64 fr2, .int .i64 to2, .int .i64 hi2, .int .i64 lo2] 38)) (.slice (some ⟨w.heap.size, 0, none⟩) 2 2) [scL fr to hi lo, scL fr2 to2 hi2 lo2] := by
  have hr : (#[.slice none 0 0, .int .i64 fr, .int .i64 to, .int .i64 hi, .int .i64 lo, .slice none 0 0, .int .i64 fr2, .int .i64 to2, .int .i64 hi2, .int .i64 lo2] : Array Value).toList = rowsK 2 5 (fun i j => if i < 1 then (five (.slice none 0 0) (.int .i64 fr) (.int .i64 to) (.int .i64 hi) (.int .i64 lo)) j else (five (.slice none 0 0) (.int .i64 fr2) (.int .i64 to2) (.int .i64 hi2) (.int .i64 lo2)) j) := rowsK_append 1 1 5 (by decide) (fun _ => (five (.slice none 0 0) (.int .i64 fr) (.int .i64 to) (.int .i64 hi) (.int .i64 lo))) (fun _ => (five (.slice none 0 0) (.int .i64 fr2) (.int .i64 to2) (.int .i64 hi2) (.int .i64 lo2)))
  have h := World.ownsRow_lit w (e := 38) (size := 5) (base := 0) #[.slice none 0 0, .int .i64 fr, .int .i64 to, .int .i64 hi, .int .i64 lo, .slice none 0 0, .int .i64 fr2, .int .i64 to2, .int .i64 hi2, .int .i64 lo2] 2 (Nat.zero_le _) (by unfold maxLen; omega) rfl
  rw [hr] at h
  have o : OwSs (w.alloc (.cells #[.slice none 0 0, .int .i64 fr, .int .i64 to, .int .i64 hi, .int .i64 lo, .slice none 0 0, .int .i64 fr2, .int .i64 to2, .int .i64 hi2, .int .i64 lo2] 38)) (.slice (some ⟨w.heap.size, 0, none⟩) 2 2) [scL fr to hi lo, scL fr2 to2 hi2 lo2] ([w.heap.size] ++ [([] : List Nat), []].flatten) :=
    ⟨_, [[], []], rfl, h, fun i hi => by
      have h : i = 0 ∨ i = 1 := by simp at hi; omega
      rcases h with rfl | rfl
      · exact ⟨⟨rfl, rfl, rfl, rfl⟩, ⟨rfl, .inl ⟨rfl, rfl⟩⟩, rfl⟩
      · exact ⟨⟨rfl, rfl, rfl, rfl⟩, ⟨rfl, .inl ⟨rfl, rfl⟩⟩, rfl⟩, rfl⟩
  exact o.rd

def k1L (n : Nat) : List Scn := [⟨allC n, 0, 0, 0, 1⟩]
def k2L (n : Nat) : List Scn := eachC n (apG [scL 1 5 0 2, scL 6 63 0 2])
def k3L (n : Nat) : List Scn := eachC n (apG [scL 1 63 2 1])
def k4L (n : Nat) : List Scn := [⟨allC n, 0, 0, 1, 0⟩]
def k5L (n : Nat) : List Scn := eachC n (apG [scL 1 63 1 0])
theorem script2_is (n : Nat) : scriptG true n 2 = [k1L n, k2L n, k3L n, k4L n, k5L n].flatten := by
  have h : scriptG true n 2 = k1L n ++ k2L n ++ k3L n ++ k4L n ++ k5L n := rfl
  rw [h]
  simp
theorem each_len (n : Nat) (T : List Scn) : (eachC n (apG T)).length = n * T.length := by
  unfold eachC
  rw [flat_lenA]
  simp [allC]

/-- What each slot holds behind its operation. -/
def facts (B n : Nat) (L : List Scn) : List (List Value → World → Prop) :=
  [fun vs w => OwB B w [vs.getD 0 undef] [k1L n],
   fun vs w => RdSs w (vs.getD 1 undef) [scL 1 5 0 2, scL 6 63 0 2],
   fun vs w => OwB B w [vs.getD 0 undef, vs.getD 2 undef] [k1L n, k2L n],
   fun vs w => RdSs w (vs.getD 3 undef) [scL 1 63 2 1],
   fun vs w => OwB B w [vs.getD 0 undef, vs.getD 2 undef, vs.getD 4 undef] [k1L n, k2L n, k3L n],
   fun vs w => OwB B w [vs.getD 0 undef, vs.getD 2 undef, vs.getD 4 undef, vs.getD 5 undef] [k1L n, k2L n, k3L n, k4L n],
   fun vs w => RdSs w (vs.getD 6 undef) [scL 1 63 1 0],
   fun vs w => OwB B w [vs.getD 0 undef, vs.getD 2 undef, vs.getD 4 undef, vs.getD 5 undef, vs.getD 7 undef] [k1L n, k2L n, k3L n, k4L n, k5L n],
   fun vs w => (∃ g, vs.getD 8 undef = .slice (some ⟨g, 0, none⟩) 5 5 ∧ w.heap[g]? = some (.cells #[vs.getD 0 undef, vs.getD 2 undef, vs.getD 4 undef, vs.getD 5 undef, vs.getD 7 undef] 27 (0, 0))) ∧ OwB B w [vs.getD 0 undef, vs.getD 2 undef, vs.getD 4 undef, vs.getD 5 undef, vs.getD 7 undef] [k1L n, k2L n, k3L n, k4L n, k5L n],
   fun vs w => ∃ F, OwSs w (vs.getD 9 undef) L F ∧ F.Nodup ∧ ∀ x ∈ F, B ≤ x,
   fun vs w => ∃ F, OwSs w (vs.getD 10 undef) L F ∧ F.Nodup ∧ ∀ x ∈ F, B ≤ x]
def factDeps : List (List Nat) := [[0], [1], [0, 2], [3], [0, 2, 4], [0, 2, 4, 5], [6], [0, 2, 4, 5, 7], [0, 2, 4, 5, 7, 8], [9], [10]]
theorem facts_keep (B n : Nat) (L : List Scn) (k : Nat) (f : List Value → World → Prop) (hf : (facts B n L)[k]? = some f) (vs : List Value) (w w' : World) (h : f vs w) (g : w.grownBy w' none) : f vs w' := by
  have hk : k < 11 := (List.getElem?_eq_some_iff.1 hf).1
  have hc : k = 0 ∨ k = 1 ∨ k = 2 ∨ k = 3 ∨ k = 4 ∨ k = 5 ∨ k = 6 ∨ k = 7 ∨ k = 8 ∨ k = 9 ∨ k = 10 := by omega
  rcases hc with rfl | rfl | rfl | rfl | rfl | rfl | rfl | rfl | rfl | rfl | rfl <;> cases hf
  · exact OwB.keep h g
  · exact RdSs.st _ _ _ _ h g
  · exact OwB.keep h g
  · exact RdSs.st _ _ _ _ h g
  · exact OwB.keep h g
  · exact OwB.keep h g
  · exact RdSs.st _ _ _ _ h g
  · exact OwB.keep h g
  · obtain ⟨⟨b, e, hb⟩, ho⟩ := h
    exact ⟨⟨b, e, at_rowS g hb (by simp)⟩, ho.keep g⟩
  · obtain ⟨F, o, a, b⟩ := h
    exact ⟨F, OwSs.ok.keep o g, a, b⟩
  · obtain ⟨F, o, a, b⟩ := h
    exact ⟨F, OwSs.ok.keep o g, a, b⟩
theorem facts_dep (B n : Nat) (L : List Scn) (k : Nat) (f : List Value → World → Prop) (hf : (facts B n L)[k]? = some f) (vs vs' : List Value) (w : World) (h : ∀ q ∈ factDeps.getD k [], vs.getD q undef = vs'.getD q undef) (hv : f vs w) : f vs' w := by
  have hk : k < 11 := (List.getElem?_eq_some_iff.1 hf).1
  have hc : k = 0 ∨ k = 1 ∨ k = 2 ∨ k = 3 ∨ k = 4 ∨ k = 5 ∨ k = 6 ∨ k = 7 ∨ k = 8 ∨ k = 9 ∨ k = 10 := by omega
  rcases hc with rfl | rfl | rfl | rfl | rfl | rfl | rfl | rfl | rfl | rfl | rfl <;> cases hf
  · have e0 := h 0 (by decide)
    dsimp only at hv ⊢
    rw [← e0]
    exact hv
  · have e1 := h 1 (by decide)
    dsimp only at hv ⊢
    rw [← e1]
    exact hv
  · have e0 := h 0 (by decide)
    have e2 := h 2 (by decide)
    dsimp only at hv ⊢
    rw [← e0, ← e2]
    exact hv
  · have e3 := h 3 (by decide)
    dsimp only at hv ⊢
    rw [← e3]
    exact hv
  · have e0 := h 0 (by decide)
    have e2 := h 2 (by decide)
    have e4 := h 4 (by decide)
    dsimp only at hv ⊢
    rw [← e0, ← e2, ← e4]
    exact hv
  · have e0 := h 0 (by decide)
    have e2 := h 2 (by decide)
    have e4 := h 4 (by decide)
    have e5 := h 5 (by decide)
    dsimp only at hv ⊢
    rw [← e0, ← e2, ← e4, ← e5]
    exact hv
  · have e6 := h 6 (by decide)
    dsimp only at hv ⊢
    rw [← e6]
    exact hv
  · have e0 := h 0 (by decide)
    have e2 := h 2 (by decide)
    have e4 := h 4 (by decide)
    have e5 := h 5 (by decide)
    have e7 := h 7 (by decide)
    dsimp only at hv ⊢
    rw [← e0, ← e2, ← e4, ← e5, ← e7]
    exact hv
  · have e0 := h 0 (by decide)
    have e2 := h 2 (by decide)
    have e4 := h 4 (by decide)
    have e5 := h 5 (by decide)
    have e7 := h 7 (by decide)
    have e8 := h 8 (by decide)
    dsimp only at hv ⊢
    rw [← e0, ← e2, ← e4, ← e5, ← e7, ← e8]
    exact hv
  · have e9 := h 9 (by decide)
    dsimp only at hv ⊢
    rw [← e9]
    exact hv
  · have e10 := h 10 (by decide)
    dsimp only at hv ⊢
    rw [← e10]
    exact hv

set_option maxRecDepth 20000 in
set_option maxHeartbeats 6400000 in
theorem scriptAll (X : Array Value) (n : Nat) (hX : Cnt X n) (h1 : 1 ≤ n) (kind : Int) (w : World) (L : List Scn) (HL : Hid (scriptG true n kind = L)) :
    Calls Try.prog 44 #[.agg X, .int .i64 kind] w fun e w' => ∃ u F, e = .returned u ∧ OwSs w' u L F ∧ F.Nodup ∧ (∀ g ∈ F, w.heap.size ≤ g) ∧ w.grownBy w' none := by
  have HX := hide hX
  have HS := hide hX.size
  have hn4 := hX.n4
  have HB0 := hide (heap_alloc_new w (.cells X 71))
  have HG0 : Hid (w.grownBy (w.alloc (.cells X 71)) none) := World.grownBy_alloc _ _ _
  have hs0 : (w.alloc (.cells X 71)).heap.size = w.heap.size + 1 := by simp
  clear hX
  by_cases k0 : kind = 0
  · subst k0
    have HT := hide (together X n (unhide HX) 0 63 0 0 (w.alloc (.cells X 71)))
    have e : L = [⟨allC n, 0, 63, 0, 0⟩] := by rw [← unhide HL]; rfl
    subst e
    clear hs0
    go_enter Try.func44, Try.ntmps44
    go_wp2_with (refine load_row rfl 71 _ rfl w.heap.size rfl X 71 (unhide HB0) _ Try.underlying71 rfl (by rw [unhide HS]; kernel_rfl) ?_)
    refine (unhide HT).mono ?_
    rintro e w2 ⟨u, F, rfl, o2, n2, l2, g2⟩
    have HR : Hid (∃ F, OwSs w2 u [⟨allC n, 0, 63, 0, 0⟩] F ∧ F.Nodup ∧ (∀ g ∈ F, w.heap.size ≤ g) ∧ w.grownBy w2 none) := ⟨F, o2, n2, fun g hg => by have := l2 g hg; have := (unhide HG0).size; omega, grown_trans (unhide HG0) g2⟩
    clear o2 n2 l2 g2 HT
    go_wp2
    go_ret
    obtain ⟨F, h⟩ := unhide HR
    exact ⟨_, F, rfl, h⟩
  · have e0 : (kind == 0) = false := by simp [k0]
    by_cases k1 : kind = 1
    · subst k1
      have HRD := hide (laid1 (w.alloc (.cells X 71)) 0 63 0 0)
      rw [hs0] at HRD
      have HT := hide (apart X n (unhide HX) _ [scL 0 63 0 0] _ (unhide HRD) (by decide) L (by unfold Hid; rw [← unhide HL]; rfl))
      clear hs0
      go_enter Try.func44, Try.ntmps44
      go_wp2_with (refine load_row rfl 71 _ rfl w.heap.size rfl X 71 (unhide HB0) _ Try.underlying71 rfl (by rw [unhide HS]; kernel_rfl) ?_)
      refine (unhide HT).mono ?_
      rintro e w2 ⟨u, F, rfl, o2, n2, l2, g2⟩
      have HR : Hid (∃ F, OwSs w2 u L F ∧ F.Nodup ∧ (∀ g ∈ F, w.heap.size ≤ g) ∧ w.grownBy w2 none) := ⟨F, o2, n2, fun g hg => by have := l2 g hg; have := (unhide HG0).size; simp at *; omega, grown_trans (grown_alloc (unhide HG0) _) g2⟩
      clear o2 n2 l2 g2 HT
      go_wp2
      go_ret
      obtain ⟨F, h⟩ := unhide HR
      exact ⟨_, F, rfl, h⟩
    · have e1 : (kind == 1) = false := by simp [k1]
      by_cases k2 : kind = 2
      · subst k2
        have HL2 : Hid ([k1L n, k2L n, k3L n, k4L n, k5L n].flatten = L) := by unfold Hid; rw [← unhide HL, script2_is]
        clear HL
        go_enter Try.func44, Try.ntmps44
        go_wp2
        obtain ⟨W0, HW⟩ : ∃ W0, Hid (w.alloc (.cells X 71) = W0) := ⟨_, rfl⟩
        rw [unhide HW] at HB0 HG0 hs0 ⊢
        clear HW
        refine wp_region_noPanic ?_
        refine wp_region_raw (fun W => W0.drew.grownBy W none) [true, true, false, true, true, true, false, false, true, true, false, false, true, true, false, true, true, false, false, false, false, false] (by kernel_rfl) (fun _ _ _ _ _ h => h) rfl (by kernel_rfl) (World.grownBy.refl _ _) ?_
        have HBD : Hid (W0.drew.heap[w.heap.size]? = some (.cells X 71 (0, 0))) := unhide HB0
        have HGD : Hid (w.grownBy W0.drew none) := grown_drew (unhide HG0)
        have hsD : W0.drew.heap.size = w.heap.size + 1 := hs0
        clear HB0 HG0 hs0
        generalize W0.drew = W1 at *
        refine heldF_take (v := .agg X) (Or.inl ⟨by rfl, ?_⟩) ?_
        · intro w' hSw
          exact exec_row 71 _ rfl w.heap.size rfl X _ (grown_atT hSw (unhide HBD) (by simp)) _ Try.underlying71 rfl (by rw [unhide HS]; kernel_rfl)
        try simp only [Act.put, List.setIfInBounds_toArray, List.set_cons_zero, List.set_cons_succ]
        refine heldF_take (v := .agg #[.slice none 0 0, .int .i64 0, .int .i64 0, .int .i64 0, .int .i64 1]) (Or.inl ⟨by rfl, ?_⟩) ?_
        · intro w' hSw
          go_simp
          try with_reducible rfl
        try simp only [Act.put, List.setIfInBounds_toArray, List.set_cons_zero, List.set_cons_succ]
        refine heldF_skip ?_
        refine heldF_take (v := .agg X) (Or.inl ⟨by rfl, ?_⟩) ?_
        · intro w' hSw
          exact exec_row 71 _ rfl w.heap.size rfl X _ (grown_atT hSw (unhide HBD) (by simp)) _ Try.underlying71 rfl (by rw [unhide HS]; kernel_rfl)
        try simp only [Act.put, List.setIfInBounds_toArray, List.set_cons_zero, List.set_cons_succ]
        refine heldF_take (v := .agg #[.slice none 0 0, .int .i64 1, .int .i64 5, .int .i64 0, .int .i64 2]) (Or.inl ⟨by rfl, ?_⟩) ?_
        · intro w' hSw
          go_simp
          try with_reducible rfl
        try simp only [Act.put, List.setIfInBounds_toArray, List.set_cons_zero, List.set_cons_succ]
        refine heldF_take (v := .agg #[.slice none 0 0, .int .i64 6, .int .i64 63, .int .i64 0, .int .i64 2]) (Or.inl ⟨by rfl, ?_⟩) ?_
        · intro w' hSw
          go_simp
          try with_reducible rfl
        try simp only [Act.put, List.setIfInBounds_toArray, List.set_cons_zero, List.set_cons_succ]
        refine heldF_skip ?_
        refine heldF_skip ?_
        refine heldF_take (v := .agg X) (Or.inl ⟨by rfl, ?_⟩) ?_
        · intro w' hSw
          exact exec_row 71 _ rfl w.heap.size rfl X _ (grown_atT hSw (unhide HBD) (by simp)) _ Try.underlying71 rfl (by rw [unhide HS]; kernel_rfl)
        try simp only [Act.put, List.setIfInBounds_toArray, List.set_cons_zero, List.set_cons_succ]
        refine heldF_take (v := .agg #[.slice none 0 0, .int .i64 1, .int .i64 63, .int .i64 2, .int .i64 1]) (Or.inl ⟨by rfl, ?_⟩) ?_
        · intro w' hSw
          go_simp
          try with_reducible rfl
        try simp only [Act.put, List.setIfInBounds_toArray, List.set_cons_zero, List.set_cons_succ]
        refine heldF_skip ?_
        refine heldF_skip ?_
        refine heldF_take (v := .agg X) (Or.inl ⟨by rfl, ?_⟩) ?_
        · intro w' hSw
          exact exec_row 71 _ rfl w.heap.size rfl X _ (grown_atT hSw (unhide HBD) (by simp)) _ Try.underlying71 rfl (by rw [unhide HS]; kernel_rfl)
        try simp only [Act.put, List.setIfInBounds_toArray, List.set_cons_zero, List.set_cons_succ]
        refine heldF_take (v := .agg #[.slice none 0 0, .int .i64 0, .int .i64 0, .int .i64 1, .int .i64 0]) (Or.inl ⟨by rfl, ?_⟩) ?_
        · intro w' hSw
          go_simp
          try with_reducible rfl
        try simp only [Act.put, List.setIfInBounds_toArray, List.set_cons_zero, List.set_cons_succ]
        refine heldF_skip ?_
        refine heldF_take (v := .agg X) (Or.inl ⟨by rfl, ?_⟩) ?_
        · intro w' hSw
          exact exec_row 71 _ rfl w.heap.size rfl X _ (grown_atT hSw (unhide HBD) (by simp)) _ Try.underlying71 rfl (by rw [unhide HS]; kernel_rfl)
        try simp only [Act.put, List.setIfInBounds_toArray, List.set_cons_zero, List.set_cons_succ]
        refine heldF_take (v := .agg #[.slice none 0 0, .int .i64 1, .int .i64 63, .int .i64 1, .int .i64 0]) (Or.inl ⟨by rfl, ?_⟩) ?_
        · intro w' hSw
          go_simp
          try with_reducible rfl
        try simp only [Act.put, List.setIfInBounds_toArray, List.set_cons_zero, List.set_cons_succ]
        refine heldF_skip ?_
        refine heldF_skip ?_
        refine heldF_skip ?_
        refine heldF_skip ?_
        refine heldF_skip ?_
        refine heldF_nil ?_
        have hs1 : w.heap.size + 1 ≤ W1.heap.size := by omega
        refine anyH_rely 8 [2, 6, 7, 10, 11, 14, 17, 18, 19, 20, 21] [21, 25, 26, 29, 30, 33, 36, 37, 38, 39, 4] factDeps (facts w.heap.size n L) rfl rfl (by kernel_rfl) (by decide) (World.grownBy.refl _ _) (facts_keep _ _ _) (facts_dep _ _ _) ?_ ?_
        · intro k i d f o hk1 hk2 hk3 hk4 vs W hvl hSW hpre K hK
          have hSz := hSW.size
          have HP := hide hpre
          have HSW := hide hSW
          clear hpre hSW
          match vs, hvl with
          | [v0, v1, v2, v3, v4, v5, v6, v7, v8, v9, v10], _ =>
            have hk : k < 11 := (List.getElem?_eq_some_iff.1 hk1).1
            have hc : k = 0 ∨ k = 1 ∨ k = 2 ∨ k = 3 ∨ k = 4 ∨ k = 5 ∨ k = 6 ∨ k = 7 ∨ k = 8 ∨ k = 9 ∨ k = 10 := by omega
            rcases hc with rfl | rfl | rfl | rfl | rfl | rfl | rfl | rfl | rfl | rfl | rfl <;> cases hk1 <;> cases hk2 <;> cases hk3 <;> cases hk4
            · simp only [putAll, Act.put, List.setIfInBounds_toArray, List.set_cons_zero, List.set_cons_succ] at hK ⊢
              go_simp
              refine (together X n (unhide HX) 0 0 0 1 W).mono ?_
              rintro e w2 ⟨u, F, rfl, o2, n2, l2, g2⟩
              refine hK.out _ _ (grown_trans (unhide HSW) g2) g2 ?_
              exact (OwB.nil w.heap.size W).push g2 o2 n2 l2 (by omega)
            · simp only [putAll, Act.put, List.setIfInBounds_toArray, List.set_cons_zero, List.set_cons_succ] at hK ⊢
              go_simp
              refine hK.out _ _ (grown_trans (unhide HSW) (World.grownBy_alloc _ _ _)) (World.grownBy_alloc _ _ _) ?_
              exact laid2 W 1 5 0 2 6 63 0 2
            · simp only [putAll, Act.put, List.setIfInBounds_toArray, List.set_cons_zero, List.set_cons_succ] at hK ⊢
              go_simp
              refine (apart X n (unhide HX) v1 [scL 1 5 0 2, scL 6 63 0 2] W (unhide HP 1 _ _ rfl rfl (by kernel_rfl)) (by decide) _ rfl).mono ?_
              rintro e w2 ⟨u, F, rfl, o2, n2, l2, g2⟩
              refine hK.out _ _ (grown_trans (unhide HSW) g2) g2 ?_
              exact (show OwB _ _ _ _ from unhide HP 0 _ _ rfl rfl (by kernel_rfl)).push g2 o2 n2 l2 (by omega)
            · simp only [putAll, Act.put, List.setIfInBounds_toArray, List.set_cons_zero, List.set_cons_succ] at hK ⊢
              go_simp
              refine hK.out _ _ (grown_trans (unhide HSW) (World.grownBy_alloc _ _ _)) (World.grownBy_alloc _ _ _) ?_
              exact laid1 W 1 63 2 1
            · simp only [putAll, Act.put, List.setIfInBounds_toArray, List.set_cons_zero, List.set_cons_succ] at hK ⊢
              go_simp
              refine (apart X n (unhide HX) v3 [scL 1 63 2 1] W (unhide HP 3 _ _ rfl rfl (by kernel_rfl)) (by decide) _ rfl).mono ?_
              rintro e w2 ⟨u, F, rfl, o2, n2, l2, g2⟩
              refine hK.out _ _ (grown_trans (unhide HSW) g2) g2 ?_
              exact (show OwB _ _ _ _ from unhide HP 2 _ _ rfl rfl (by kernel_rfl)).push g2 o2 n2 l2 (by omega)
            · simp only [putAll, Act.put, List.setIfInBounds_toArray, List.set_cons_zero, List.set_cons_succ] at hK ⊢
              go_simp
              refine (together X n (unhide HX) 0 0 1 0 W).mono ?_
              rintro e w2 ⟨u, F, rfl, o2, n2, l2, g2⟩
              refine hK.out _ _ (grown_trans (unhide HSW) g2) g2 ?_
              exact (show OwB _ _ _ _ from unhide HP 4 _ _ rfl rfl (by kernel_rfl)).push g2 o2 n2 l2 (by omega)
            · simp only [putAll, Act.put, List.setIfInBounds_toArray, List.set_cons_zero, List.set_cons_succ] at hK ⊢
              go_simp
              refine hK.out _ _ (grown_trans (unhide HSW) (World.grownBy_alloc _ _ _)) (World.grownBy_alloc _ _ _) ?_
              exact laid1 W 1 63 1 0
            · simp only [putAll, Act.put, List.setIfInBounds_toArray, List.set_cons_zero, List.set_cons_succ] at hK ⊢
              go_simp
              refine (apart X n (unhide HX) v6 [scL 1 63 1 0] W (unhide HP 6 _ _ rfl rfl (by kernel_rfl)) (by decide) _ rfl).mono ?_
              rintro e w2 ⟨u, F, rfl, o2, n2, l2, g2⟩
              refine hK.out _ _ (grown_trans (unhide HSW) g2) g2 ?_
              exact (show OwB _ _ _ _ from unhide HP 5 _ _ rfl rfl (by kernel_rfl)).push g2 o2 n2 l2 (by omega)
            · have ho : OwB w.heap.size W [v0, v2, v4, v5, v7] [k1L n, k2L n, k3L n, k4L n, k5L n] := unhide HP 7 _ _ rfl rfl (by kernel_rfl)
              have HO := hide ho
              obtain ⟨F, ⟨_, _, o1, ⟨_, _, o2, ⟨_, _, o3, ⟨_, _, o4, ⟨_, _, o5, _, _⟩, _⟩, _⟩, _⟩, _⟩, _⟩ := ho
              obtain ⟨a1, c1, e1⟩ := o1.form
              obtain ⟨a2, c2, e2⟩ := o2.form
              obtain ⟨a3, c3, e3⟩ := o3.form
              obtain ⟨a4, c4, e4⟩ := o4.form
              obtain ⟨a5, c5, e5⟩ := o5.form
              subst e1 e2 e3 e4 e5
              clear o1 o2 o3 o4 o5
              simp only [putAll, Act.put, List.setIfInBounds_toArray, List.set_cons_zero, List.set_cons_succ] at hK ⊢
              go_simp
              refine hK.out _ _ (grown_trans (unhide HSW) (World.grownBy_alloc _ _ _)) (World.grownBy_alloc _ _ _) ?_
              exact ⟨⟨W.heap.size, rfl, heap_alloc_new W _⟩, OwB.keep (unhide HO) (World.grownBy_alloc _ _ _)⟩
            · obtain ⟨⟨g, eg, hg⟩, ho⟩ := unhide HP 8 _ _ rfl rfl (by kernel_rfl)
              have eg' : v8 = .slice (some ⟨g, 0, none⟩) 5 5 := eg
              subst eg'
              simp only [putAll, Act.put, List.setIfInBounds_toArray, List.set_cons_zero, List.set_cons_succ] at hK ⊢
              go_simp
              refine (OwB.concat ho ?_ ?_ (by show 5 ≤ 100; omega) (by show 0 < 5; omega) (by omega) g ?_).mono ?_
              · intro L' hL'
                simp only [List.mem_cons, List.not_mem_nil, or_false] at hL'
                rcases hL' with rfl | rfl | rfl | rfl | rfl <;> simp only [k1L, k2L, k3L, k4L, k5L, each_len, List.length_cons, List.length_nil] <;> omega
              · intro L' hL'
                simp only [List.mem_cons, List.not_mem_nil, or_false] at hL'
                rcases hL' with rfl | rfl | rfl | rfl | rfl <;> simp only [k1L, k2L, k3L, k4L, k5L, each_len, List.length_cons, List.length_nil] <;> omega
              · intro i hi
                have hi5 : i < 5 := hi
                have hc : i = 0 ∨ i = 1 ∨ i = 2 ∨ i = 3 ∨ i = 4 := by omega
                rw [cell_of_row W g i _ _ (0, 0) hg]
                rcases hc with rfl | rfl | rfl | rfl | rfl <;> rfl
              · rintro e w2 ⟨u, F, rfl, o2, n2, l2, g2⟩
                rw [unhide HL2] at o2
                refine hK.out _ _ (grown_trans (unhide HSW) g2) g2 ?_
                exact ⟨F, o2, n2, l2⟩
            · simp only [putAll, Act.put, List.setIfInBounds_toArray, List.set_cons_zero, List.set_cons_succ] at hK ⊢
              go_simp
              refine hK.out _ _ (unhide HSW) (World.grownBy.refl _ _) ?_
              exact unhide HP 9 _ _ rfl rfl (by kernel_rfl)
        · intro vs W hvl hSW hall
          have HR : Hid (∃ F, OwSs W (vs.getD 10 undef) L F ∧ F.Nodup ∧ (∀ g ∈ F, w.heap.size ≤ g)) := hall 10 _ rfl
          have HGW := hide (grown_trans (unhide HGD) hSW)
          match vs, hvl with
          | [v0, v1, v2, v3, v4, v5, v6, v7, v8, v9, v10], _ =>
            simp only [putAll, Act.put, List.setIfInBounds_toArray, List.set_cons_zero, List.set_cons_succ]
            refine NoPanic.normal ?_
            clear hall hSW HBD hsD hs1
            go_wp2
            go_ret
            obtain ⟨F, h⟩ := unhide HR
            exact ⟨_, F, rfl, h.1, h.2.1, h.2.2, unhide HGW⟩
      · have e2 : (kind == 2) = false := by simp [k2]
        have e : L = [] := by rw [← unhide HL]; unfold scriptG; rw [if_pos rfl, if_neg k0, if_neg k1, if_neg k2]
        subst e
        go_enter Try.func44, Try.ntmps44
        go_wp2
        go_ret
        exact ⟨_, [], rfl, OwG.nil _ _ _ _, by simp, (fun g hg => by cases hg), unhide HG0⟩

end Go.Proofs.Ytnjcmlmgjoaeeaa

namespace Go.Proofs.Ytnjcmlmgjoaeeaa
open Go.RowKit

set_option maxRecDepth 20000 in
set_option maxHeartbeats 3200000 in
theorem giveScript : ImplScript := by
  intro p wd ht rs fo n fc C kind w hr hn fb HFB L HL
  have HG0 : Hid (w.grownBy (w.alloc (.cells #[.int .i64 p, .int .i64 wd, .int .i64 ht, .int .i64 rs, .slice fo n fc] 26)) none) := World.grownBy_alloc _ _ _
  have HFIX := hide (fixFrame p wd ht rs fo n fc C _ (hr.grown (unhide HG0)) hn fb HFB)
  clear hr
  go_enter Try.func10, Try.ntmps10
  go_wp2_with fail
  refine (unhide HFIX).mono ?_
  rintro e w1 ⟨X, rfl, h1, h2, g1⟩
  have HG1 := hide (grown_trans (unhide HG0) g1)
  have HS : Hid (X.size = 21) := by
    unfold Hid
    cases fb
    · rw [h1 rfl]; rfl
    · obtain ⟨D, hF, _⟩ := h2 rfl; exact hF.size
  have HOX : Hid (X.all (·.oneCell') = true) := by
    unfold Hid
    cases fb
    · rw [h1 rfl]; simp [Value.oneCell']
    · obtain ⟨D, hF, _⟩ := h2 rfl
      exact hF.one
  have H1 := hide h1
  have H2 := hide h2
  have HZ0 := hide (heap_alloc_new w1 (.cells #[.int .i64 0, .int .i64 0, .int .i64 0, .int .i64 0, .int .i64 0, .int .i64 0, .int .i64 0, .int .i64 0, .int .i64 0, .int .i64 0, .int .i64 0, .int .i64 0, .int .i64 0, .int .i64 0, .int .i64 0, .int .i64 0, .int .i64 0, .int .i64 0, .int .i64 0, .int .i64 0, .int .i64 0] 71))
  have HGA := hide (grown_alloc (unhide HG1) (.cells #[.int .i64 0, .int .i64 0, .int .i64 0, .int .i64 0, .int .i64 0, .int .i64 0, .int .i64 0, .int .i64 0, .int .i64 0, .int .i64 0, .int .i64 0, .int .i64 0, .int .i64 0, .int .i64 0, .int .i64 0, .int .i64 0, .int .i64 0, .int .i64 0, .int .i64 0, .int .i64 0, .int .i64 0] 71))
  have hw1 := (unhide HG1).size
  clear h1 h2 g1 HFIX HG0
  go_wp2_with (first | (refine store_row rfl 71 _ _ rfl w1.heap.size rfl X rfl #[.int .i64 0, .int .i64 0, .int .i64 0, .int .i64 0, .int .i64 0, .int .i64 0, .int .i64 0, .int .i64 0, .int .i64 0, .int .i64 0, .int .i64 0, .int .i64 0, .int .i64 0, .int .i64 0, .int .i64 0, .int .i64 0, .int .i64 0, .int .i64 0, .int .i64 0, .int .i64 0, .int .i64 0] 71 (unhide HZ0) (by rw [unhide HS]; rfl) (by rw [unhide HS]; kernel_rfl) (unhide HOX) ?_; intro w3 hB3 g3; replace hB3 := hide hB3; replace g3 := hide (grown_new (unhide HGA) g3 (fun q e => by injection e with e; omega))) | (refine load_row rfl 71 _ rfl w1.heap.size rfl X 71 (unhide hB3) _ Try.underlying71 rfl (by rw [unhide HS]; kernel_rfl) ?_))
  cases fb with
  | false =>
    have eX := unhide H1 rfl
    have HN := hide (isNone_yes w3)
    rw [← eX] at HN
    have e : L = [] := by rw [← unhide HL]; rfl
    subst e
    refine (unhide HN).mono ?_
    rintro e w4 ⟨rfl, g4⟩
    have HG4 := hide (grown_trans (unhide g3) g4)
    clear g4 HN eX
    go_wp2
    go_ret
    exact ⟨_, [], rfl, OwG.nil _ _ _ _, by simp, (fun g hg => by cases hg), unhide HG4⟩
  | true =>
    obtain ⟨D, hF, _⟩ := unhide H2 rfl
    have hg := geo_of (unhide HFB)
    have hp : (p == 0) = false := by
      have hf := unhide HFB
      unfold frameB at hf
      rw [Bool.and_eq_true] at hf
      rcases (headB_facts hf.1).1 with h | h <;> (rw [h]; rfl)
    have HN := hide (isNone_no X p wd ht rs n D hF hp w3)
    have HC : Hid (Cnt X n) := ⟨hF.size, hF.c4, hg.n4⟩
    have hn1 := hg.n1
    clear hF hg hp
    refine (unhide HN).mono ?_
    rintro e w4 ⟨rfl, g4⟩
    have HG4 := hide (grown_trans (unhide g3) g4)
    have HB4 := hide (at_rowS g4 (unhide hB3) (by simp))
    have HSC := hide (scriptAll X n (unhide HC) hn1 kind w4 L HL)
    clear g4 HN hB3 g3
    go_wp2_with (refine load_row rfl 71 _ rfl w1.heap.size rfl X 71 (unhide HB4) _ Try.underlying71 rfl (by rw [unhide HS]; kernel_rfl) ?_)
    refine (unhide HSC).mono ?_
    rintro e w5 ⟨u, F, rfl, o5, n5, l5, g5⟩
    have hs4 := (unhide HG4).size
    have HR : Hid (∃ F, OwSs w5 u L F ∧ F.Nodup ∧ (∀ g ∈ F, w.heap.size ≤ g) ∧ w.grownBy w5 none) := ⟨F, o5, n5, fun g hg => by have := l5 g hg; omega, grown_trans (unhide HG4) g5⟩
    clear o5 n5 l5 g5 HSC
    go_wp2
    go_ret
    obtain ⟨F, h⟩ := unhide HR
    exact ⟨_, F, rfl, h⟩

end Go.Proofs.Ytnjcmlmgjoaeeaa

namespace Go.Proofs.Ytnjcmlmgjoaeeaa

theorem giveScripts : ImplScript ∧ ImplScriptOk ∧ ImplLeft := ⟨giveScript, giveScriptOk, giveLeft⟩

end Go.Proofs.Ytnjcmlmgjoaeeaa
