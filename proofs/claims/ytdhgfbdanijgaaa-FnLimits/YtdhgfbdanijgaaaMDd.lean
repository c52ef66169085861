/-
  HeldLast, AnyTake, CoefPure, ZeroSpec, FrameSpec, GeoSpec, RegionInv, GeoRegion, GeoImpl2, GeoHas, GeoImpl3, GeoImpl4, GeoSpec2, CoefSpec, DeepC, IntRows, DeepI0, DeepR2, DeepI2, DeepI, CoefFns, CoefOk, AppRdI, CoefAt, CoefGive, GridRows.
-/
import Derived.Test.YtdhgfbdanijgaaaRows
import Derived.Deep.RegionHeld3
import Derived.Orders
import Derived.RegionTactic
import Derived.Deep.RegionHeld
import Derived.Deep.QuietTactic
import Derived.BigQuiet
import Derived.Laws.AppendOwnNone
import Derived.Maps.AppendAt
import Derived.Deep.AppendLies
import Derived.Test.YtdhgfbdanijgaaaMDc

namespace Go.Proofs.Ytdhgfbdanijgaaa
open Go.RowKit

section
variable {P : Program} {ops : Array Oper} {md : Region.Mode} {S : World → Prop} {Q : Exit → Act → World → Prop} {m : Nat}

/-- Whatever order is picked from here on; behind every operation but number m S holds. -/
def wpAnyT (P : Program) (md : Region.Mode) (ops : Array Oper) (Q : Exit → Act → World → Prop) (S : World → Prop) (m : Nat) : Nat → Array Bool → Act → World → Prop
  | 0, listed, a, w => Region.ready md ops listed = [] ∧ Q .normal a w
  | fuel + 1, listed, a, w => (Region.ready md ops listed = [] → Q .normal a w) ∧ ∀ i ∈ Region.ready md ops listed, wpOp P ops Q i (fun a' w' => (i = m ∨ S w') ∧ wpAnyT P md ops Q S m fuel (listed.setIfInBounds i true) a' w') a w
theorem wpAny_of_T : ∀ (fuel : Nat) (listed : Array Bool) (a : Act) (w : World), wpAnyT P md ops Q S m fuel listed a w → wpAny P md ops Q fuel listed a w
  | 0, _, _, _, h => h
  | fuel + 1, listed, _, _, h => ⟨h.1, fun i hi => wpOp_mono (fun a' w' h2 => wpAny_of_T fuel (listed.setIfInBounds i true) a' w' h2.2) (h.2 i hi)⟩

/-- An operation that yields the same wherever S holds, and for which m waits, may be taken first. -/
theorem wpAnyT_first {i f : Nat} {oi : Oper} {v : Value} (hi : ops[i]? = some oi) (him : i ≠ m) (hwt : waits md ops (f + 1) m i = true) (hsel : ∀ (j : Nat) (o : Oper) cs b, ops[j]? = some o → o.op ≠ .select cs b)
    (hQ : ∀ c a w, Q (.panic c) (a.put oi.dst v) w → Q (.panic c) a w) :
    ∀ (fuel : Nat) (listed : Array Bool) (a : Act) (w : World), Cl md ops listed →
      (∀ j oj, ops[j]? = some oj → j ≠ i → listed.getD j true = false → (∀ e ∈ oj.after, Region.binds md e = true → e.on ≠ i) → oi.apart ops oj = true) →
      i ∈ Region.ready md ops listed → YieldsIf P ops S oi v a → S w →
      wpAnyT P md ops Q S m fuel (listed.setIfInBounds i true) (a.put oi.dst v) w → wpAnyT P md ops Q S m (fuel + 1) listed a w := by
  intro fuel
  induction fuel with
  | zero =>
    intro listed a w _ _ hr hy hS H
    refine ⟨fun h => (by rw [h] at hr; cases hr), fun j hj => ?_⟩
    by_cases hji : j = i
    · subst hji; exact hy.wpOp hi hS ⟨.inr hS, H⟩
    · have := ready_mono hj hji
      rw [H.1] at this
      cases this
  | succ fuel ih =>
    intro listed a w hcl hfree hr hy hS H
    have hun := (mem_ready.1 hr).1
    refine ⟨fun h => (by rw [h] at hr; cases hr), fun j hj => ?_⟩
    by_cases hji : j = i
    · subst hji; exact hy.wpOp hi hS ⟨.inr hS, H⟩
    · have hjm : j ≠ m := by
        intro e
        subst e
        have h1 := waits_ready hcl i f hj hwt
        rcases Nat.lt_or_ge i listed.size with h' | h'
        · simp [h'] at h1 hun; rw [hun] at h1; cases h1
        · simp [Array.getElem?_eq_none h'] at h1
      have h1 := H.2 j (ready_mono hj hji)
      obtain ⟨hjun, oj, hoj, hall⟩ := mem_ready.1 hj
      have hnot : ∀ e ∈ oj.after, Region.binds md e = true → e.on ≠ i := fun e he hb heq => by
        have h1 := hall e he hb
        rw [heq] at h1
        rcases Nat.lt_or_ge i listed.size with h' | h'
        · simp [h'] at h1 hun; rw [hun] at h1; cases h1
        · simp [Array.getElem?_eq_none h'] at h1
      have h2 := wpOp_putIf hoj (hfree j oj hoj hji hjun hnot) (fun cs b => hsel i oi cs b hi) (fun cs b => hsel j oj cs b hoj) hQ hy h1
      refine wpOp_mono (fun a' w' h3 => ?_) h2
      have hS' : S w' := h3.2.1.resolve_left hjm
      refine ⟨.inr hS', ih (listed.setIfInBounds j true) a' w' (hcl.set hj) (fun k ok hk hki hu hno => hfree k ok hk hki ?_ hno) (ready_mono hr (Ne.symm hji)) h3.1 hS' ?_⟩
      · by_cases hjk : j = k
        · subst hjk; exact hjun
        · rw [getD_set_ne true hjk] at hu; exact hu
      · rw [Array.setIfInBounds_comm _ _ hji]
        exact h3.2.2

/-- Those that are not marked, in the order of the text; behind each but the last S. -/
def tailL (P : Program) (ops : Array Oper) (Q : Exit → Act → World → Prop) (S : World → Prop) : List Oper → List Bool → Act → World → Prop
  | o :: rest, false :: ms, a, w => ∀ K' : Act → World → Prop, Shut (∀ a w, (ms = [] ∨ S w) → tailL P ops Q S rest ms a w → K' a w) → if Region.wanted o (yielded ops a.tmps) = true then Oper.wp P o a w K' Q else K' (a.put o.dst undef) w
  | _ :: rest, true :: ms, a, w => tailL P ops Q S rest ms a w
  | _, _, a, w => Q .normal a w
theorem tailL_step {o : Oper} {rest : List Oper} {ms : List Bool} {a : Act} {w : World} (h : ∀ K' : Act → World → Prop, Shut (∀ a w, (ms = [] ∨ S w) → tailL P ops Q S rest ms a w → K' a w) → if Region.wanted o (yielded ops a.tmps) = true then Oper.wp P o a w K' Q else K' (a.put o.dst undef) w) :
    tailL P ops Q S (o :: rest) (false :: ms) a w := h
theorem tailL_skip {o : Oper} {rest : List Oper} {ms : List Bool} {a : Act} {w : World} (h : tailL P ops Q S rest ms a w) : tailL P ops Q S (o :: rest) (true :: ms) a w := h
theorem tailL_nil {a : Act} {w : World} (h : Q .normal a w) : tailL P ops Q S [] [] a w := h

theorem anyT_tail : ∀ (l : List Oper) (ms : List Bool) (k : Nat) (listed : Array Bool) (a : Act) (w : World), l.length = ms.length → (∀ j, j < l.length → l[j]? = ops[k + j]?) → k + l.length = m + 1 →
    lexTail md ops ms k listed = true → tailL P ops Q S l ms a w → wpAnyT P md ops Q S m (leftF ms) listed a w
  | [], [], _, listed, a, w, _, _, _, hB, h => ⟨by simpa [lexTail] using hB, h⟩
  | [], _ :: _, _, _, _, _, hl, _, _, _, _ => by simp at hl
  | _ :: _, [], _, _, _, _, hl, _, _, _, _ => by simp at hl
  | o :: l, true :: ms, k, listed, a, w, hl, ha, hm, hB, h =>
    anyT_tail l ms (k + 1) listed a w (by simpa using hl) (fun j hj => by have := ha (j + 1) (by simpa using hj); simpa [Nat.add_assoc, Nat.add_comm 1 j] using this) (by simp at hm; omega) hB h
  | o :: l, false :: ms, k, listed, a, w, hl, ha, hm, hB, h => by
    have h0 : ops[k]? = some o := by have := ha 0 (by simp); simpa using this.symm
    simp only [lexTail, Bool.and_eq_true, beq_iff_eq] at hB
    refine ⟨fun h1 => by rw [hB.1] at h1; simp at h1, fun i hi => ?_⟩
    rw [hB.1, List.mem_singleton] at hi
    subst hi
    refine wpOp_step h0 (fun K' hK => h K' (fun a' w' hS ht => hK a' w' ⟨?_, ?_⟩))
    · rcases hS with rfl | hS
      · have : l.length = 0 := by simpa using hl
        simp at hm
        exact .inl (by omega)
      · exact .inr hS
    · exact anyT_tail l ms (i + 1) _ a' w' (by simpa using hl) (fun j hj => by have := ha (j + 1) (by simpa using hj); simpa [Nat.add_assoc, Nat.add_comm 1 j] using this) (by simp at hm; omega) hB.2 ht

def lexLast (md : Region.Mode) (ops : Array Oper) (m f : Nat) (all : List Bool) : List Bool → Nat → Array Bool → Bool
  | [], _, listed => lexTail md ops all 0 listed
  | true :: ms, k, listed => (Region.ready md ops listed).contains k && Region.free md ops listed k && (k != m) && waits md ops (f + 1) m k && lexLast md ops m f all ms (k + 1) (listed.setIfInBounds k true)
  | false :: ms, k, listed => lexLast md ops m f all ms (k + 1) listed
theorem anyT_held {f : Nat} {l0 : List Oper} {all : List Bool} (hs : Region.noSelect ops = true) (hQ : ∀ c a d v w, Q (.panic c) (Act.put a d v) w → Q (.panic c) a w) (hl0 : l0.length = all.length) (ha0 : ∀ j, j < l0.length → l0[j]? = ops[0 + j]?) (hm : l0.length = m + 1) :
    ∀ (l : List Oper) (ms : List Bool) (k : Nat) (listed : Array Bool) (a : Act) (w : World), l.length = ms.length → (∀ j, j < l.length → l[j]? = ops[k + j]?) → Cl md ops listed →
    lexLast md ops m f all ms k listed = true → S w → heldF P ops S (fun a' => tailL P ops Q S l0 all a' w) l ms a → wpAnyT P md ops Q S m (takenF ms + leftF all) listed a w
  | [], [], _, listed, a, w, _, _, _, hB, _, h => by
    simp only [takenF, Nat.zero_add]
    exact anyT_tail l0 all 0 listed a w hl0 ha0 (by omega) hB h
  | [], _ :: _, _, _, _, _, hl, _, _, _, _, _ => by simp at hl
  | _ :: _, [], _, _, _, _, hl, _, _, _, _, _ => by simp at hl
  | o :: l, true :: ms, k, listed, a, w, hl, ha, hcl, hB, hS, h => by
    have h0 : ops[k]? = some o := by have := ha 0 (by simp); simpa using this.symm
    simp only [lexLast, Bool.and_eq_true, bne_iff_ne] at hB
    obtain ⟨⟨⟨⟨hr, hf⟩, hne⟩, hw⟩, hB'⟩ := hB
    obtain ⟨v, hy, hK⟩ := h
    have hrm : k ∈ Region.ready md ops listed := by simpa using hr
    have e : takenF (true :: ms) + leftF all = (takenF ms + leftF all) + 1 := by simp only [takenF]; omega
    rw [e]
    exact wpAnyT_first h0 hne hw (Region.noSelect_spec hs) (fun c a' w' hq => hQ c a' _ _ w' hq) _ listed a w hcl (Region.free_spec h0 hf) hrm hy hS
      (anyT_held hs hQ hl0 ha0 hm l ms (k + 1) _ _ w (by simpa using hl) (fun j hj => by have := ha (j + 1) (by simpa using hj); simpa [Nat.add_assoc, Nat.add_comm 1 j] using this) (hcl.set hrm) hB' hS hK)
  | o :: l, false :: ms, k, listed, a, w, hl, ha, hcl, hB, hS, h =>
    anyT_held hs hQ hl0 ha0 hm l ms (k + 1) listed a w (by simpa using hl) (fun j hj => by have := ha (j + 1) (by simpa using hj); simpa [Nat.add_assoc, Nat.add_comm 1 j] using this) hcl hB hS h
end

/-- A region whose operations are written out, and which of them are taken first; the last one waits for all. -/
theorem wp_region_tailL {P : Program} {id : Nat} {Q : Exit → Act → World → Prop} {a : Act} {w : World} {l : List Oper} (f : Nat) (S : World → Prop) (ms : List Bool) (hm : P.follows .mixedOrders = true) (hQ : ∀ c a d v w, Q (.panic c) (Act.put a d v) w → Q (.panic c) a w)
    (hl : l.length = ms.length) (hpos : 0 < l.length) (hB : (Region.noSelect l.toArray && lexLast .any l.toArray (l.length - 1) f ms ms 0 (Array.replicate l.length false)) = true)
    (hS : S w.drew) (h : heldF P l.toArray S (fun a' => tailL P l.toArray Q S l ms a' w.drew) l ms a) : (Code.region id l.toArray true).wp P Q a w := by
  rw [Bool.and_eq_true] at hB
  refine wp_region_any hm (wpAny_of_T (S := S) (m := l.length - 1) _ _ _ _ ?_)
  have := anyT_held (P := P) (ops := l.toArray) (md := .any) (S := S) (Q := Q) (m := l.length - 1) (f := f) (l0 := l) (all := ms) hB.1 hQ hl (fun j hj => by simp) (by omega) l ms 0 (Array.replicate l.length false) a w.drew hl (fun j hj => by simp) (Cl.none _) hB.2 hS h
  rw [count_all ms, ← hl] at this
  simpa using this

end Go.Proofs.Ytdhgfbdanijgaaa

namespace Go.Proofs.Ytdhgfbdanijgaaa
open Go.RowKit

theorem anyH_take1 {P : Program} {md : Region.Mode} {Q : Exit → Act → World → Prop} {S : World → Prop} {l : List Oper} {i f : Nat} {o : Oper} {v : Value} {listed : Array Bool} {a : Act} {w : World} (ho : l[i]? = some o) (hB : (Region.noSelect l.toArray && Region.free md l.toArray listed i && (Region.ready md l.toArray listed).contains i) = true)
    (hQ : ∀ c a d v w, Q (.panic c) (Act.put a d v) w → Q (.panic c) a w) (hS : S w) (hy : YieldsIf P l.toArray S o v a) (h : wpAnyH P md l.toArray Q S f (listed.setIfInBounds i true) (a.put o.dst v) w) : wpAnyH P md l.toArray Q S (f + 1) listed a w := by
  rw [Bool.and_eq_true, Bool.and_eq_true] at hB
  exact wpAnyH_take (by simpa using ho) hB.1.1 hB.1.2 hB.2 (fun c a w hq => hQ c a _ _ w hq) hy hS h

end Go.Proofs.Ytdhgfbdanijgaaa

namespace Go.Proofs.Ytdhgfbdanijgaaa

/-- How many blocks a component's plane has beside and below one another, and how many of them are needed. -/
def bwG (wd : Int) (n : Nat) (C : Nat → Nat → Int) (c : Nat) : Nat := (upI wd (8 * mostA 1 C 1 n) * C c 1).toNat
def bhG (ht : Int) (n : Nat) (C : Nat → Nat → Int) (c : Nat) : Nat := (upI ht (8 * mostA 1 C 2 n) * C c 2).toNat
def nwG (wd : Int) (n : Nat) (C : Nat → Nat → Int) (c : Nat) : Nat := (upI (upI (wd * C c 1) (mostA 1 C 1 n)) 8).toNat
def nhG (ht : Int) (n : Nat) (C : Nat → Nat → Int) (c : Nat) : Nat := (upI (upI (ht * C c 2) (mostA 1 C 2 n)) 8).toNat
theorem up_le32 {n d : Int} (hn : 1 ≤ n ∧ n ≤ 256) (hd : 1 ≤ d ∧ d ≤ 4) : 1 ≤ upI n (8 * d) ∧ upI n (8 * d) ≤ 32 := by
  unfold upI
  rw [Int.tdiv_eq_ediv_of_nonneg (by omega)]
  have : d = 1 ∨ d = 2 ∨ d = 3 ∨ d = 4 := by omega
  rcases this with rfl | rfl | rfl | rfl <;> omega
theorem mul_in {a b : Int} (ha : 1 ≤ a ∧ a ≤ 32) (hb : 1 ≤ b ∧ b ≤ 4) : 1 ≤ a * b ∧ a * b ≤ 128 := by
  obtain ⟨b0, b1⟩ := hb
  have : b = 1 ∨ b = 2 ∨ b = 3 ∨ b = 4 := by omega
  rcases this with rfl | rfl | rfl | rfl <;> omega
structure Dims (wd ht : Int) (n : Nat) (C : Nat → Nat → Int) (c : Nat) : Prop where
  bw : upI wd (8 * mostA 1 C 1 n) * C c 1 = (bwG wd n C c : Int)
  bh : upI ht (8 * mostA 1 C 2 n) * C c 2 = (bhG ht n C c : Int)
  bw1 : 1 ≤ bwG wd n C c ∧ bwG wd n C c ≤ 128
  bh1 : 1 ≤ bhG ht n C c ∧ bhG ht n C c ≤ 128
  sw : 1 ≤ upI (wd * C c 1) (mostA 1 C 1 n) ∧ upI (wd * C c 1) (mostA 1 C 1 n) ≤ 1024
  sh : 1 ≤ upI (ht * C c 2) (mostA 1 C 2 n) ∧ upI (ht * C c 2) (mostA 1 C 2 n) ≤ 1024
  nw : upI (upI (wd * C c 1) (mostA 1 C 1 n)) 8 = (nwG wd n C c : Int)
  nh : upI (upI (ht * C c 2) (mostA 1 C 2 n)) 8 = (nhG ht n C c : Int)
  nw1 : nwG wd n C c ≤ 1024
  nh1 : nhG ht n C c ≤ 1024
theorem side_mul {a b : Int} (ha : 1 ≤ a ∧ a ≤ 256) (hb : 1 ≤ b ∧ b ≤ 4) : 1 ≤ a * b ∧ a * b ≤ 1024 := by
  obtain ⟨b0, b1⟩ := hb
  have : b = 1 ∨ b = 2 ∨ b = 3 ∨ b = 4 := by omega
  rcases this with rfl | rfl | rfl | rfl <;> omega
theorem dims_of {wd ht : Int} {n : Nat} {C : Nat → Nat → Int} (hg : Geo wd ht n C (mostA 1 C 1 n) (mostA 1 C 2 n)) (c : Nat) (hc : c < n) : Dims wd ht n C c := by
  have h1 := mul_in (up_le32 hg.wd hg.hb) (hg.ch c hc)
  have h2 := mul_in (up_le32 hg.ht hg.vb) (hg.cv c hc)
  have h3 := side_mul hg.wd (hg.ch c hc)
  have h4 := side_mul hg.ht (hg.cv c hc)
  have h5 := upI_pos h3.1 hg.hb.1
  have h6 := upI_pos h4.1 hg.vb.1
  have h7 := upI_pos h5.1 (show (1 : Int) ≤ 8 by omega)
  have h8 := upI_pos h6.1 (show (1 : Int) ≤ 8 by omega)
  refine ⟨?_, ?_, ?_, ?_, ⟨h5.1, by omega⟩, ⟨h6.1, by omega⟩, ?_, ?_, ?_, ?_⟩
  · unfold bwG; omega
  · unfold bhG; omega
  · unfold bwG; omega
  · unfold bhG; omega
  · unfold nwG; omega
  · unfold nhG; omega
  · unfold nwG; omega
  · unfold nhG; omega

/-- Blocks of noughts, and what is so of coefficients that are ok. -/
def noughts : List Int := List.replicate 64 0
def emptyG (n : Nat) (bn : Nat → Nat) : List (List (List Int)) := (List.range n).map fun c => List.replicate (bn c) noughts
def emptyF (b : Bool) (wd ht : Int) (n : Nat) (C : Nat → Nat → Int) : List (List (List Int)) := if b then emptyG n (fun c => bwG wd n C c * bhG ht n C c) else []
def zeroB (xs : List Int) : Bool := xs.all (fun x => x == 0)
def hidB (bw nw nh k : Nat) : Bool := decide (nh ≤ k / bw) || decide (nw ≤ k % bw)
def blockB (hid : Bool) (xs : List Int) : Bool := levB (-16383) 16383 xs && (!hid || zeroB xs)
def planeB (bw bh nw nh : Nat) (P : List (List Int)) : Bool := decide (P.length = bw * bh) && (List.range P.length).all (fun k => blockB (hidB bw nw nh k) (P.getD k []))
def coefsOkB (wd ht : Int) (n : Nat) (C : Nat → Nat → Int) (X : List (List (List Int))) : Bool := decide (X.length = n) && (List.range X.length).all (fun c => planeB (bwG wd n C c) (bhG ht n C c) (nwG wd n C c) (nhG ht n C c) (X.getD c []))
def coefsOkF (b : Bool) (wd ht : Int) (n : Nat) (C : Nat → Nat → Int) (X : List (List (List Int))) : Bool := b && coefsOkB wd ht n C X
/-- Where a place lies in its plane, if it is one. -/
def placeO (wd ht : Int) (n : Nat) (C : Nat → Nat → Int) (co ro cl : Int) : Option Nat :=
  if 0 ≤ co ∧ co ≤ (n : Int) - 1 then (if (0 ≤ ro ∧ ro ≤ (bhG ht n C co.toNat : Int) - 1) ∧ 0 ≤ cl ∧ cl ≤ (bwG wd n C co.toNat : Int) - 1 then some (ro.toNat * bwG wd n C co.toNat + cl.toNat) else none) else none
def hiddenI (wd ht : Int) (n : Nat) (C : Nat → Nat → Int) (c : Nat) (ro cl : Int) : Bool := decide ((nhG ht n C c : Int) ≤ ro) || decide ((nwG wd n C c : Int) ≤ cl)
def blockAtF (b : Bool) (wd ht : Int) (n : Nat) (C : Nat → Nat → Int) (X : List (List (List Int))) (co ro cl : Int) : List Int :=
  if coefsOkF b wd ht n C X then (match placeO wd ht n C co ro cl with | some k => (X.getD co.toNat []).getD k [] | none => []) else []
def withBlockF (b : Bool) (wd ht : Int) (n : Nat) (C : Nat → Nat → Int) (X : List (List (List Int))) (co ro cl : Int) (bl : List Int) : List (List (List Int)) :=
  if coefsOkF b wd ht n C X && levB (-16383) 16383 bl then (match placeO wd ht n C co ro cl with | some k => if hiddenI wd ht n C co.toNat ro cl then [] else X.set co.toNat ((X.getD co.toNat []).set k bl) | none => []) else []

end Go.Proofs.Ytdhgfbdanijgaaa

namespace Go.Proofs.Ytdhgfbdanijgaaa
open Go.RowKit

theorem zero_take {xs : List Int} {k : Nat} (hk : k < xs.length) : zeroB (xs.take (k + 1)) = (zeroB (xs.take k) && (xs.getD k 0 == 0)) := by
  unfold zeroB
  rw [List.take_succ_eq_append_getElem hk, List.all_append]
  simp [hk]
theorem zero_no {xs : List Int} {k : Nat} (hk : k < xs.length) (h : (xs.getD k 0 == 0) = false) : zeroB xs = false := by
  cases hx : zeroB xs with
  | false => rfl
  | true =>
    have e : xs.getD k 0 = xs[k] := by simp [hk]
    rw [e, List.all_eq_true.1 hx _ (List.getElem_mem hk)] at h
    exact h

end Go.Proofs.Ytdhgfbdanijgaaa

namespace Go.Proofs.Ytdhgfbdanijgaaa
open Go.RowKit

end Go.Proofs.Ytdhgfbdanijgaaa

namespace Go.Proofs.Ytdhgfbdanijgaaa
open Go.RowKit

theorem frameCells' {w : World} {g : Nat} {a b c d v : Value} {t : TypeId} (hb : w.heap[g]? = some (.cells #[a, b, c, d, v] t (0, 0))) :
    w.cell? ⟨g, 0, none⟩ = some a ∧ w.cell? ⟨g, 1, none⟩ = some b ∧ w.cell? ⟨g, 2, none⟩ = some c ∧ w.cell? ⟨g, 3, none⟩ = some d ∧ w.cell? ⟨g, 4, none⟩ = some v :=
  ⟨by rw [cell_of_row w _ 0 _ _ (0, 0) hb]; rfl, by rw [cell_of_row w _ 1 _ _ (0, 0) hb]; rfl, by rw [cell_of_row w _ 2 _ _ (0, 0) hb]; rfl, by rw [cell_of_row w _ 3 _ _ (0, 0) hb]; rfl, by rw [cell_of_row w _ 4 _ _ (0, 0) hb]; rfl⟩

end Go.Proofs.Ytdhgfbdanijgaaa

namespace Go.Proofs.Ytdhgfbdanijgaaa
open Go.RowKit

section
variable {P : Program} {md : Region.Mode} {Q : Exit → Act → World → Prop} {l : List Oper}

/-- Whether operation k is done. -/
def doneAt (listed : Array Bool) (k : Nat) : Prop := listed.getD k false = true
theorem doneAt_set {listed : Array Bool} {i k : Nat} (hi : i < listed.size) : doneAt (listed.setIfInBounds i true) k ↔ k = i ∨ doneAt listed k := by
  unfold doneAt
  rw [Array.getD_eq_getD_getElem?, Array.getElem?_setIfInBounds, Array.getD_eq_getD_getElem?]
  by_cases e : i = k
  · subst e; simp [hi]
  · rw [if_neg e]
    constructor
    · intro h; exact .inr h
    · rintro (h | h)
      · exact absurd h.symm e
      · exact h

/-- How many are not done. -/
def undone (listed : Array Bool) : Nat := listed.toList.countP (fun b => !b)
theorem undone_set {listed : Array Bool} {i : Nat} (h : listed.getD i true = false) : undone (listed.setIfInBounds i true) + 1 = undone listed := by
  have hi : i < listed.size := by
    rcases Nat.lt_or_ge i listed.size with h1 | h1
    · exact h1
    · rw [Array.getD_eq_getD_getElem?, Array.getElem?_eq_none h1] at h; simp at h
  have hb : listed.toList[i]? = some false := by
    rw [Array.getD_eq_getD_getElem?, Array.getElem?_eq_getElem hi] at h
    rw [Array.getElem?_toList, Array.getElem?_eq_getElem hi]
    simpa using h
  have key : ∀ (xs : List Bool) (i : Nat), xs[i]? = some false → (xs.set i true).countP (fun b => !b) + 1 = xs.countP (fun b => !b) := by
    intro xs
    induction xs with
    | nil => intro i h; simp at h
    | cons x xs ih =>
      intro i h
      cases i with
      | zero => simp at h; subst h; simp
      | succ i =>
        have := ih i (by simpa using h)
        rw [List.set_cons_succ, List.countP_cons, List.countP_cons]
        omega
  unfold undone
  rw [Array.toList_setIfInBounds]
  exact key _ _ hb

theorem ready_mem {listed : Array Bool} {i : Nat} (h : i ∈ Region.ready md l.toArray listed) : ∃ o, l[i]? = some o ∧ listed.getD i true = false ∧ ∀ e ∈ o.after, Region.binds md e = true → doneAt listed e.on := by
  unfold Region.ready at h
  rw [List.mem_filter] at h
  obtain ⟨_, h2⟩ := h
  rw [Bool.and_eq_true] at h2
  obtain ⟨h2, h3⟩ := h2
  cases ho : l[i]? with
  | none => simp [ho] at h3
  | some o =>
    refine ⟨o, rfl, by simpa using h2, fun e he hb => ?_⟩
    have h4 : o.after.all (fun e => !Region.binds md e || listed.getD e.on false) = true := by simpa [ho] using h3
    have h5 := (Array.all_eq_true_iff_forall_mem.1 h4) e he
    rw [hb] at h5
    simpa [doneAt] using h5

/-- Where every operation waits for earlier ones alone, none is ready only when all are done. -/
theorem all_done {listed : Array Bool} (hsz : listed.size = l.length) (hfw : ∀ (i : Nat) (o : Oper), l[i]? = some o → ∀ e ∈ o.after, e.on < i) (hr : Region.ready md l.toArray listed = []) : ∀ i, i < l.length → doneAt listed i := by
  intro i
  induction i using Nat.strongRecOn with
  | _ i ih =>
    intro hi
    by_cases hd : doneAt listed i
    · exact hd
    · exfalso
      have hmem : i ∈ Region.ready md l.toArray listed := by
        unfold Region.ready
        rw [List.mem_filter]
        refine ⟨by simpa using hi, ?_⟩
        have ho : l[i]? = some l[i] := List.getElem?_eq_getElem hi
        have hf : listed.getD i true = false := by
          unfold doneAt at hd
          rw [Array.getD_eq_getD_getElem?, Array.getElem?_eq_getElem (by omega)] at hd ⊢
          simpa using hd
        rw [Bool.and_eq_true]
        refine ⟨by simp [hf], ?_⟩
        have h4 : (l[i]).after.all (fun e => !Region.binds md e || listed.getD e.on false) = true := by
          rw [Array.all_eq_true_iff_forall_mem]
          intro e he
          have hlt := hfw i _ ho e he
          have := ih e.on hlt (by omega)
          unfold doneAt at this
          rw [this, Bool.or_true]
        simpa [ho] using h4
      rw [hr] at hmem
      simp at hmem

theorem any_inv (I : Array Bool → Act → World → Prop)
    (step : ∀ (i : Nat) (o : Oper) (listed : Array Bool) (a : Act) (w : World), l[i]? = some o → listed.size = l.length → i < listed.size → ¬ doneAt listed i → (∀ e ∈ o.after, Region.binds md e = true → doneAt listed e.on) → I listed a w →
      ∀ K' : Act → World → Prop, Shut (∀ a' w', I (listed.setIfInBounds i true) a' w' → K' a' w') → if Region.wanted o (yielded l.toArray a.tmps) = true then Oper.wp P o a w K' Q else K' (a.put o.dst undef) w)
    (done : ∀ listed a w, listed.size = l.length → Region.ready md l.toArray listed = [] → I listed a w → Q .normal a w) :
    ∀ (fuel : Nat) (listed : Array Bool) (a : Act) (w : World), listed.size = l.length → undone listed ≤ fuel → I listed a w → wpAny P md l.toArray Q fuel listed a w := by
  have lt_of : ∀ {listed : Array Bool} {i : Nat}, listed.getD i true = false → i < listed.size := by
    intro listed i h
    rcases Nat.lt_or_ge i listed.size with h1 | h1
    · exact h1
    · rw [Array.getD_eq_getD_getElem?, Array.getElem?_eq_none h1] at h; simp at h
  intro fuel
  induction fuel with
  | zero =>
    intro listed a w hsz hu hI
    have hr : Region.ready md l.toArray listed = [] := by
      apply List.eq_nil_iff_forall_not_mem.2
      intro i hi
      obtain ⟨o, _, hf, _⟩ := ready_mem hi
      have := undone_set hf
      omega
    exact ⟨hr, done listed a w hsz hr hI⟩
  | succ fuel ih =>
    intro listed a w hsz hu hI
    refine ⟨fun hr => done listed a w hsz hr hI, fun i hi => ?_⟩
    obtain ⟨o, ho, hf, hdep⟩ := ready_mem hi
    have hlt := lt_of hf
    have hnd : ¬ doneAt listed i := by
      unfold doneAt
      rw [Array.getD_eq_getD_getElem?, Array.getElem?_eq_getElem hlt] at hf ⊢
      simpa using hf
    have hu2 := undone_set hf
    refine wpOp_step (by simpa using ho) (fun K' hK => step i o listed a w ho hsz hlt hnd hdep hI K' (fun a' w' hI' => hK a' w' (ih _ a' w' (by simpa using hsz) (by omega) hI')))
end

/-- A region that draws its order, by an invariant. -/
theorem wp_region_inv {P : Program} {id : Nat} {Q : Exit → Act → World → Prop} {a : Act} {w : World} {l : List Oper} (I : Array Bool → Act → World → Prop) (hm : P.follows .mixedOrders = true)
    (hfw : ∀ (i : Nat) (o : Oper), l[i]? = some o → ∀ e ∈ o.after, e.on < i)
    (start : I (Array.replicate l.length false) a w.drew)
    (step : ∀ (i : Nat) (o : Oper) (listed : Array Bool) (a : Act) (w : World), l[i]? = some o → listed.size = l.length → i < listed.size → ¬ doneAt listed i → (∀ e ∈ o.after, Region.binds .any e = true → doneAt listed e.on) → I listed a w →
      ∀ K' : Act → World → Prop, Shut (∀ a' w', I (listed.setIfInBounds i true) a' w' → K' a' w') → if Region.wanted o (yielded l.toArray a.tmps) = true then Oper.wp P o a w K' Q else K' (a.put o.dst undef) w)
    (done : ∀ listed a w, (∀ i, i < l.length → doneAt listed i) → I listed a w → Q .normal a w) : (Code.region id l.toArray true).wp P Q a w := by
  refine wp_region_any hm ?_
  have hu : undone (Array.replicate l.toArray.size false) ≤ l.toArray.size := by
    unfold undone
    exact Nat.le_trans List.countP_le_length (by simp)
  exact any_inv I step (fun listed a' w' hsz hr hI => done listed a' w' (all_done hsz hfw hr) hI) _ _ a _ (by simp) hu (by simpa using start)

/-- Every operation waits for earlier ones alone. -/
def fwB : Nat → List Oper → Bool
  | _, [] => true
  | k, o :: rest => o.after.all (fun e => decide (e.on < k)) && fwB (k + 1) rest
theorem fwB_get : ∀ (l : List Oper) (k : Nat), fwB k l = true → ∀ (i : Nat) (o : Oper), l[i]? = some o → ∀ e ∈ o.after, e.on < k + i
  | [], _, _, i, o, h => by simp at h
  | x :: l, k, hB, i, o, h => by
    rw [fwB, Bool.and_eq_true] at hB
    intro e he
    cases i with
    | zero =>
      simp at h; subst h
      exact of_decide_eq_true ((Array.all_eq_true_iff_forall_mem.1 hB.1) e he)
    | succ i =>
      have := fwB_get l (k + 1) hB.2 i o (by simpa using h) e he
      omega

def depsF (listed : Array Bool) : List Edge → Prop
  | [] => True
  | e :: es => (Region.binds .any e = true → doneAt listed e.on) ∧ depsF listed es
theorem depsF_of {listed : Array Bool} : ∀ (es : List Edge), (∀ e ∈ es, Region.binds .any e = true → doneAt listed e.on) → depsF listed es
  | [], _ => trivial
  | e :: es, h => ⟨h e (by simp), depsF_of es (fun e' he' => h e' (by simp [he']))⟩

theorem depsF_mem {listed : Array Bool} : ∀ {es : List Edge}, depsF listed es → ∀ e ∈ es, Region.binds .any e = true → doneAt listed e.on
  | [], _, e, he, _ => by simp at he
  | x :: es, h, e, he, hb => by
    rcases List.mem_cons.1 he with rfl | he
    · exact h.1 hb
    · exact depsF_mem h.2 e he hb

/-- One proof for each operation. -/
def stepsF (P : Program) (ops : Array Oper) (Q : Exit → Act → World → Prop) (I : Array Bool → Act → World → Prop) : List Oper → Nat → Prop
  | [], _ => True
  | o :: rest, k => (∀ (listed : Array Bool) (a : Act) (w : World), k < listed.size → ¬ doneAt listed k → depsF listed o.after.toList → I listed a w →
      ∀ K' : Act → World → Prop, Shut (∀ a' w', I (listed.setIfInBounds k true) a' w' → K' a' w') → if Region.wanted o (yielded ops a.tmps) = true then Oper.wp P o a w K' Q else K' (a.put o.dst undef) w) ∧ stepsF P ops Q I rest (k + 1)
theorem stepsF_get {P : Program} {ops : Array Oper} {Q : Exit → Act → World → Prop} {I : Array Bool → Act → World → Prop} : ∀ (l : List Oper) (k : Nat), stepsF P ops Q I l k → ∀ (i : Nat) (o : Oper), l[i]? = some o →
    ∀ (listed : Array Bool) (a : Act) (w : World), k + i < listed.size → ¬ doneAt listed (k + i) → depsF listed o.after.toList → I listed a w →
      ∀ K' : Act → World → Prop, Shut (∀ a' w', I (listed.setIfInBounds (k + i) true) a' w' → K' a' w') → if Region.wanted o (yielded ops a.tmps) = true then Oper.wp P o a w K' Q else K' (a.put o.dst undef) w
  | [], _, _, i, o, h => by simp at h
  | x :: l, k, hS, i, o, h => by
    cases i with
    | zero => simp at h; subst h; exact hS.1
    | succ i =>
      have := stepsF_get l (k + 1) hS.2 i o (by simpa using h)
      rw [show k + 1 + i = k + (i + 1) by omega] at this
      exact this

theorem wp_region_steps {P : Program} {id : Nat} {Q : Exit → Act → World → Prop} {a : Act} {w : World} {l : List Oper} (I : Array Bool → Act → World → Prop) (hm : P.follows .mixedOrders = true)
    (hfw : fwB 0 l = true) (start : I (Array.replicate l.length false) a w.drew) (steps : stepsF P l.toArray Q I l 0)
    (done : ∀ listed a w, (∀ i, i < l.length → doneAt listed i) → I listed a w → Q .normal a w) : (Code.region id l.toArray true).wp P Q a w :=
  wp_region_inv I hm (fun i o ho e he => by have := fwB_get l 0 hfw i o ho e he; omega) start
    (fun i o listed a w ho _ hi hnd hdep hI K' hK => by
      have := stepsF_get l 0 steps i o ho listed a w (by omega) (by rw [Nat.zero_add]; exact hnd) (depsF_of _ (fun e he => hdep e (by simpa using he))) hI K'
      rw [Nat.zero_add] at this
      exact this hK) done
theorem not_done_start (m k : Nat) : ¬ doneAt (Array.replicate m false) k := by
  unfold doneAt
  rw [Array.getD_eq_getD_getElem?, Array.getElem?_replicate]
  split <;> simp

end Go.Proofs.Ytdhgfbdanijgaaa

namespace Go.Proofs.Ytdhgfbdanijgaaa
open Go.RowKit

def updA (v : Nat → Value) (d : Nat) (x : Value) : Nat → Value := fun i => if i = d then x else v i
theorem updA_same (v : Nat → Value) (d : Nat) (x : Value) : updA v d x d = x := by simp [updA]
theorem updA_other (v : Nat → Value) {d i : Nat} (x : Value) (h : i ≠ d) : updA v d x i = v i := by simp [updA, h]

/-- A new cell with an area in it, which is (a, b) where it has been laid. -/
def CellA (wx w : World) (v : Value) (laid : Prop) (a b : Int) : Prop := ∃ g, v = .pointer (some ⟨g, 0, none⟩) ∧ wx.heap.size ≤ g ∧ ∃ x y : Int, w.heap[g]? = some (.cells #[.int .i64 x, .int .i64 y] 73 (0, 0)) ∧ (laid → x = a ∧ y = b)
theorem CellA.grown {wx w w' : World} {v : Value} {laid laid' : Prop} {a b : Int} (h : CellA wx w v laid a b) (hg : w.grownBy w' none) (hl : laid' → laid) : CellA wx w' v laid' a b := by
  obtain ⟨g, e, h1, x, y, h2, h3⟩ := h
  exact ⟨g, e, h1, x, y, (hg.block g (Array.getElem?_eq_some_iff.1 h2).1 (by simp)).trans h2, fun q => h3 (hl q)⟩

/-- What holds while the region goes. -/
structure InvA (wx : World) (X : Array Value) (c a b a' b' : Int) (v : Nat → Value) (listed : Array Bool) (w : World) : Prop where
  grown : wx.grownBy w none
  d0 : doneAt listed 0 → v 7 = .agg X
  d1 : doneAt listed 1 → v 8 = .int .i64 c
  d2 : doneAt listed 2 → v 9 = .agg #[.int .i64 a, .int .i64 b]
  d3 : doneAt listed 3 → v 10 = .agg X
  d4 : doneAt listed 4 → v 11 = .agg #[.int .i64 a', .int .i64 b']
  d5 : doneAt listed 5 → CellA wx w (v 5) (doneAt listed 7) a b
  d6 : doneAt listed 6 → CellA wx w (v 6) (doneAt listed 8) a' b'
  ne : doneAt listed 5 → doneAt listed 6 → v 5 ≠ v 6
  o7 : doneAt listed 7 → doneAt listed 5
  o8 : doneAt listed 8 → doneAt listed 6

section
variable {wx w w' : World} {X : Array Value} {c a b a' b' : Int} {v : Nat → Value} {listed : Array Bool} {k : Nat}

def yieldA (X : Array Value) (c a b a' b' : Int) (x : Value) : Nat → Prop
  | 0 => x = .agg X
  | 1 => x = .int .i64 c
  | 2 => x = .agg #[.int .i64 a, .int .i64 b]
  | 3 => x = .agg X
  | 4 => x = .agg #[.int .i64 a', .int .i64 b']
  | _ => False

theorem InvA.step (h : InvA wx X c a b a' b' v listed w) (hi : k < listed.size) (hg : w.grownBy w' none) {x : Value} (hx : yieldA X c a b a' b' x k) : InvA wx X c a b a' b' (updA v (k + 7) x) (listed.setIfInBounds k true) w' := by
  have hk : k ≤ 4 := by
    by_cases h : k ≤ 4
    · exact h
    · exfalso
      have : 5 ≤ k := by omega
      match k, this, hx with
      | k + 5, _, hx => exact hx
  have dn : ∀ j, doneAt (listed.setIfInBounds k true) j → j = k ∨ doneAt listed j := fun j h => (doneAt_set hi).1 h
  have one : ∀ (j : Nat) (P : Value → Prop), (j = k → P x) → (doneAt listed j → P (v (j + 7))) → doneAt (listed.setIfInBounds k true) j → P (updA v (k + 7) x (j + 7)) := by
    intro j P h1 h2 h3
    by_cases e : j = k
    · subst e; rw [updA_same]; exact h1 rfl
    · rw [updA_other v x (by omega)]
      rcases dn j h3 with h | h
      · exact absurd h e
      · exact h2 h
  have far : ∀ j, 5 ≤ j → doneAt (listed.setIfInBounds k true) j → doneAt listed j := fun j hj h3 => by
    rcases dn j h3 with h | h
    · omega
    · exact h
  refine ⟨grown_trans h.grown hg, one 0 (fun u => u = .agg X) (fun e => by rw [← e] at hx; exact hx) h.d0, one 1 (fun u => u = .int .i64 c) (fun e => by rw [← e] at hx; exact hx) h.d1, one 2 (fun u => u = .agg #[.int .i64 a, .int .i64 b]) (fun e => by rw [← e] at hx; exact hx) h.d2, one 3 (fun u => u = .agg X) (fun e => by rw [← e] at hx; exact hx) h.d3, one 4 (fun u => u = .agg #[.int .i64 a', .int .i64 b']) (fun e => by rw [← e] at hx; exact hx) h.d4, fun q => ?_, fun q => ?_, fun q q' => ?_, fun q => (doneAt_set hi).2 (.inr (h.o7 (far 7 (by omega) q))), fun q => (doneAt_set hi).2 (.inr (h.o8 (far 8 (by omega) q)))⟩
  · rw [updA_other v x (by omega)]; exact (h.d5 (far 5 (by omega) q)).grown hg (far 7 (by omega))
  · rw [updA_other v x (by omega)]; exact (h.d6 (far 6 (by omega) q)).grown hg (far 8 (by omega))
  · rw [updA_other v x (by omega), updA_other v x (by omega)]; exact h.ne (far 5 (by omega) q) (far 6 (by omega) q')

theorem CellA.lt {laid : Prop} {u : Value} (h : CellA wx w u laid a b) : ∃ g, u = .pointer (some ⟨g, 0, none⟩) ∧ g < w.heap.size := by
  obtain ⟨g, e, _, x, y, h2, _⟩ := h
  exact ⟨g, e, (Array.getElem?_eq_some_iff.1 h2).1⟩

theorem InvA.alloc (h : InvA wx X c a b a' b' v listed w) (hi : k < listed.size) (hk : k = 5 ∨ k = 6) (hnd : ¬ doneAt listed k) :
    InvA wx X c a b a' b' (updA v k (.pointer (some ⟨w.heap.size, 0, none⟩))) (listed.setIfInBounds k true) (w.alloc (.cells #[.int .i64 0, .int .i64 0] 73)) := by
  have dn : ∀ j, j ≠ k → doneAt (listed.setIfInBounds k true) j → doneAt listed j := fun j hj h => by
    rcases (doneAt_set hi).1 h with h | h
    · exact absurd h hj
    · exact h
  have hg : w.grownBy (w.alloc (.cells #[.int .i64 0, .int .i64 0] 73)) none := World.grownBy_alloc _ _ none
  have new : ∀ (laid : Prop) (a b : Int), ¬ laid → CellA wx (w.alloc (.cells #[.int .i64 0, .int .i64 0] 73)) (.pointer (some ⟨w.heap.size, 0, none⟩)) laid a b := fun laid a b hl => ⟨w.heap.size, rfl, h.grown.size, 0, 0, heap_alloc_new _ _, fun q => absurd q hl⟩
  have o7 : doneAt (listed.setIfInBounds k true) 7 → doneAt (listed.setIfInBounds k true) 5 := fun q => (doneAt_set hi).2 (.inr (h.o7 (dn 7 (by omega) q)))
  have o8 : doneAt (listed.setIfInBounds k true) 8 → doneAt (listed.setIfInBounds k true) 6 := fun q => (doneAt_set hi).2 (.inr (h.o8 (dn 8 (by omega) q)))
  have h7 : ¬ doneAt listed (k + 2) := by
    rcases hk with rfl | rfl
    · exact fun q => hnd (h.o7 q)
    · exact fun q => hnd (h.o8 q)
  rcases hk with rfl | rfl
  · refine ⟨grown_trans h.grown hg, fun q => ?_, fun q => ?_, fun q => ?_, fun q => ?_, fun q => ?_, fun q => ?_, fun q => ?_, fun q q' => ?_, o7, o8⟩
    · rw [updA_other v _ (by omega)]; exact h.d0 (dn 0 (by omega) q)
    · rw [updA_other v _ (by omega)]; exact h.d1 (dn 1 (by omega) q)
    · rw [updA_other v _ (by omega)]; exact h.d2 (dn 2 (by omega) q)
    · rw [updA_other v _ (by omega)]; exact h.d3 (dn 3 (by omega) q)
    · rw [updA_other v _ (by omega)]; exact h.d4 (dn 4 (by omega) q)
    · rw [updA_same]; exact new _ _ _ (fun q => h7 (dn 7 (by omega) q))
    · rw [updA_other v _ (by omega)]; exact (h.d6 (dn 6 (by omega) q)).grown hg (dn 8 (by omega))
    · rw [updA_same, updA_other v _ (by omega)]
      obtain ⟨g, e, hlt⟩ := (h.d6 (dn 6 (by omega) q')).lt
      rw [e]; intro e'; simp at e'; first | done | omega
  · refine ⟨grown_trans h.grown hg, fun q => ?_, fun q => ?_, fun q => ?_, fun q => ?_, fun q => ?_, fun q => ?_, fun q => ?_, fun q q' => ?_, o7, o8⟩
    · rw [updA_other v _ (by omega)]; exact h.d0 (dn 0 (by omega) q)
    · rw [updA_other v _ (by omega)]; exact h.d1 (dn 1 (by omega) q)
    · rw [updA_other v _ (by omega)]; exact h.d2 (dn 2 (by omega) q)
    · rw [updA_other v _ (by omega)]; exact h.d3 (dn 3 (by omega) q)
    · rw [updA_other v _ (by omega)]; exact h.d4 (dn 4 (by omega) q)
    · rw [updA_other v _ (by omega)]; exact (h.d5 (dn 5 (by omega) q)).grown hg (dn 7 (by omega))
    · rw [updA_same]; exact new _ _ _ (fun q => h7 (dn 8 (by omega) q))
    · rw [updA_same, updA_other v _ (by omega)]
      obtain ⟨g, e, hlt⟩ := (h.d5 (dn 5 (by omega) q)).lt
      rw [e]; intro e'; simp at e'; first | done | omega

/-- Both cells of an area are written. -/
def putA (w : World) (g : Nat) (x y : Int) : World := (w.setCell ⟨g, 0, none⟩ (.int .i64 x)).setCell ⟨g, 1, none⟩ (.int .i64 y)
theorem putA_grown (w : World) (g : Nat) (x y : Int) : w.grownBy (putA w g x y) (some g) := grown_trans (grown_set _ _ _ _) (grown_set _ _ _ _)
theorem putA_at {g : Nat} {p q : Value} {t : TypeId} (x y : Int) (h : w.heap[g]? = some (.cells #[p, q] t (0, 0))) : (putA w g x y).heap[g]? = some (.cells #[.int .i64 x, .int .i64 y] t (0, 0)) :=
  heap_setCell_same _ _ 1 _ _ _ (heap_setCell_same _ _ 0 _ _ _ h)

theorem CellA.beside {u : Value} {laid laid' : Prop} {g : Nat} {x y : Int} (h : CellA wx w u laid a b) (hne : u ≠ .pointer (some ⟨g, 0, none⟩)) (hl : laid' → laid) : CellA wx (putA w g x y) u laid' a b := by
  obtain ⟨g', e, h1, p, q, h2, h3⟩ := h
  exact ⟨g', e, h1, p, q, ((putA_grown w g x y).block g' (Array.getElem?_eq_some_iff.1 h2).1 (by simp; intro e'; exact hne (by rw [e, e']))).trans h2, fun r => h3 (hl r)⟩

theorem InvA.store5 (h : InvA wx X c a b a' b' v listed w) (hi : 7 < listed.size) {g : Nat} (e : v 5 = .pointer (some ⟨g, 0, none⟩)) (h5 : doneAt listed 5) : InvA wx X c a b a' b' v (listed.setIfInBounds 7 true) (putA w g a b) := by
  have dn : ∀ j, j ≠ 7 → doneAt (listed.setIfInBounds 7 true) j → doneAt listed j := fun j hj h => by
    rcases (doneAt_set hi).1 h with h | h
    · exact absurd h hj
    · exact h
  obtain ⟨g', e', h1, p, q, h2, _⟩ := h.d5 h5
  obtain rfl : g = g' := by rw [e] at e'; simpa using e'
  refine ⟨grown_new h.grown (putA_grown w g a b) (fun g' e' => by simp at e'; omega), fun q => h.d0 (dn 0 (by omega) q), fun q => h.d1 (dn 1 (by omega) q), fun q => h.d2 (dn 2 (by omega) q), fun q => h.d3 (dn 3 (by omega) q), fun q => h.d4 (dn 4 (by omega) q),
    fun _ => ⟨g, e, h1, a, b, putA_at a b h2, fun _ => ⟨rfl, rfl⟩⟩, fun q => (h.d6 (dn 6 (by omega) q)).beside (fun e' => h.ne h5 (dn 6 (by omega) q) (by rw [e, e'])) (dn 8 (by omega)), fun q q' => h.ne (dn 5 (by omega) q) (dn 6 (by omega) q'), fun _ => (doneAt_set hi).2 (.inr h5), fun q => (doneAt_set hi).2 (.inr (h.o8 (dn 8 (by omega) q)))⟩

theorem InvA.store6 (h : InvA wx X c a b a' b' v listed w) (hi : 8 < listed.size) {g : Nat} (e : v 6 = .pointer (some ⟨g, 0, none⟩)) (h6 : doneAt listed 6) : InvA wx X c a b a' b' v (listed.setIfInBounds 8 true) (putA w g a' b') := by
  have dn : ∀ j, j ≠ 8 → doneAt (listed.setIfInBounds 8 true) j → doneAt listed j := fun j hj h => by
    rcases (doneAt_set hi).1 h with h | h
    · exact absurd h hj
    · exact h
  obtain ⟨g', e', h1, p, q, h2, _⟩ := h.d6 h6
  obtain rfl : g = g' := by rw [e] at e'; simpa using e'
  refine ⟨grown_new h.grown (putA_grown w g a' b') (fun g' e' => by simp at e'; omega), fun q => h.d0 (dn 0 (by omega) q), fun q => h.d1 (dn 1 (by omega) q), fun q => h.d2 (dn 2 (by omega) q), fun q => h.d3 (dn 3 (by omega) q), fun q => h.d4 (dn 4 (by omega) q),
    fun q => (h.d5 (dn 5 (by omega) q)).beside (fun e' => h.ne (dn 5 (by omega) q) h6 (by rw [e, e'])) (dn 7 (by omega)), fun _ => ⟨g, e, h1, a', b', putA_at a' b' h2, fun _ => ⟨rfl, rfl⟩⟩, fun q q' => h.ne (dn 5 (by omega) q) (dn 6 (by omega) q'), fun q => (doneAt_set hi).2 (.inr (h.o7 (dn 7 (by omega) q))), fun _ => (doneAt_set hi).2 (.inr h6)⟩
end

end Go.Proofs.Ytdhgfbdanijgaaa

namespace Go.Proofs.Ytdhgfbdanijgaaa
open Go.RowKit

def actP (X : Array Value) (c : Int) (rx : Nat) (v : Nat → Value) : Act := { tmps := #[.agg X, .int .i64 c, .pointer (some ⟨rx, 0, none⟩), undef, .pointer (some ⟨rx + 1, 0, none⟩), v 5, v 6, v 7, v 8, v 9, v 10, v 11, undef, undef, undef, undef, undef, undef, undef, undef, undef, undef, undef, undef, undef, undef, undef, undef, undef], defers := [] }

set_option maxRecDepth 20000 in
set_option maxHeartbeats 3200000 in
theorem plane (X : Array Value) (p wd ht rs : Int) (n : Nat) (C : Nat → Nat → Int) (hX : Fx X p wd ht rs n C) (mh mv : Int) (hg : Geo wd ht n C mh mv) (c : Nat) (hc : c < n) (u v : Int) (HU : Hid (upI (wd * C c 1) mh = u)) (HV : Hid (upI (ht * C c 2) mv = v)) (w : World) :
    Calls Try.prog 51 #[.agg X, .int .i64 c] w fun e w' => e = .returned (.agg #[.int .i64 u, .int .i64 v]) ∧ w.grownBy w' none := by
  have hs := hX.size
  have hn4 := hg.n4
  have F1 := hide (fun w => shares X p wd ht rs n C hX c (by omega) w)
  have F2 := hide (fun w => most X p wd ht rs n C hX hg.n4 mh mv hg.h0 hg.v0 w)
  have HX1 := hX.c1
  have HX2 := hX.c2
  obtain ⟨h1, h2⟩ : (1 ≤ C c 1 ∧ C c 1 ≤ 4) ∧ (1 ≤ C c 2 ∧ C c 2 ≤ 4) := ⟨hg.ch c hc, hg.cv c hc⟩
  have hmh := hg.hb
  have hmv := hg.vb
  have hwd := hg.wd
  have hht := hg.ht
  have P1 := mul_share (a := wd) ⟨hwd.1, by omega⟩ h1
  have P2 := mul_share (a := ht) ⟨hht.1, by omega⟩ h2
  obtain ⟨wx, hW0⟩ : ∃ wx, ((w.alloc (.cells X 51)).alloc (.cells #[.int .i64 0, .int .i64 0] 73)) = wx := ⟨_, rfl⟩
  have G0 : w.grownBy wx none := by rw [← hW0]; exact grown_alloc (grown_alloc (World.grownBy.refl _ _) _) _
  have b0 : wx.heap[w.heap.size]? = some (.cells X 51 (0, 0)) := by
    rw [← hW0, Below.heap_alloc _ _ _ (by simp)]
    exact heap_alloc_new w _
  have b1 : wx.heap[w.heap.size + 1]? = some (.cells #[.int .i64 0, .int .i64 0] 73 (0, 0)) := by
    rw [← hW0]
    have := heap_alloc_new (w.alloc (.cells X 51)) (.cells #[.int .i64 0, .int .i64 0] 73)
    simpa using this
  have hsz : wx.heap.size = w.heap.size + 2 := by rw [← hW0]; simp
  have HW := hide hW0
  have B0 := hide b0
  have B1 := hide b1
  have HG0 := hide G0
  clear hW0 b0 b1 G0
  clear hX hg
  go_enter Try.func51, Try.ntmps51
  go_wp2
  rw [unhide HW]
  clear HW
  generalize C c 1 = c1 at *
  generalize C c 2 = c2 at *
  have hw1 := i64_in (wd * c1) (by omega)
  have hw2 := i64_in (ht * c2) (by omega)
  refine wp_region_steps (fun listed a w' => ∃ v, a = actP X c w.heap.size v ∧ InvA wx X c c1 c2 mh mv v listed w') (by kernel_rfl) (by kernel_rfl) ?start ?steps ?done

  case start =>
    exact ⟨fun _ => undef, rfl, grown_drew (World.grownBy.refl _ _), fun h => absurd h (not_done_start _ _), fun h => absurd h (not_done_start _ _), fun h => absurd h (not_done_start _ _), fun h => absurd h (not_done_start _ _), fun h => absurd h (not_done_start _ _), fun h => absurd h (not_done_start _ _), fun h => absurd h (not_done_start _ _), fun h => absurd h (not_done_start _ _), fun h => absurd h (not_done_start _ _), fun h => absurd h (not_done_start _ _)⟩
  case steps =>
    have xB : ∀ w1, wx.grownBy w1 none → w1.heap[w.heap.size]? = some (.cells X 51 (0, 0)) := fun w1 g => (g.block w.heap.size (by omega) (by simp)).trans (unhide B0)
    refine ⟨?_, ?_⟩
    · rintro listed a w1 hi hnd hd ⟨v, rfl, hJ⟩ K hK
      unfold actP
      rw [if_pos (by rfl)]
      refine wp_load_mid 51 _ rfl w.heap.size 0 rfl X.toList _ (fun j u hu => by rw [cell_of_row w1 w.heap.size (0 + j) X _ (0, 0) (xB w1 hJ.grown)]; simpa using hu) Try.underlying51 rfl (by simp only [Array.length_toList]; rw [hs]; kernel_rfl) ?_
      exact hK.out _ _ ⟨_, rfl, hJ.step hi (World.grownBy.refl _ none) (x := .agg X) rfl⟩
    refine ⟨?_, ?_⟩
    · rintro listed a w1 hi hnd hd ⟨v, rfl, hJ⟩ K hK
      unfold actP
      go_simp
      exact hK.out _ _ ⟨_, rfl, hJ.step hi (World.grownBy.refl _ none) (x := .int .i64 c) rfl⟩
    refine ⟨?_, ?_⟩
    · rintro listed a w1 hi hnd hd ⟨v, rfl, hJ⟩ K hK
      have hd' : depsF listed [{ on := 0, ground := .data }, { on := 1, ground := .data }] := hd
      simp only [depsF, and_true] at hd'
      have e7 := hJ.d0 (hd'.1 (by rfl))
      have e8 := hJ.d1 (hd'.2 (by rfl))
      unfold actP
      rw [e7, e8]
      go_simp
      refine (unhide F1 w1).mono ?_
      rintro e w2 ⟨rfl, g2⟩
      exact hK.out _ _ ⟨updA v 9 _, (by simp [actP, updA, e7, e8]), hJ.step hi g2 rfl⟩
    refine ⟨?_, ?_⟩
    · rintro listed a w1 hi hnd hd ⟨v, rfl, hJ⟩ K hK
      unfold actP
      rw [if_pos (by rfl)]
      refine wp_load_mid 51 _ rfl w.heap.size 0 rfl X.toList _ (fun j u hu => by rw [cell_of_row w1 w.heap.size (0 + j) X _ (0, 0) (xB w1 hJ.grown)]; simpa using hu) Try.underlying51 rfl (by simp only [Array.length_toList]; rw [hs]; kernel_rfl) ?_
      exact hK.out _ _ ⟨_, rfl, hJ.step hi (World.grownBy.refl _ none) (x := .agg X) rfl⟩
    refine ⟨?_, ?_⟩
    · rintro listed a w1 hi hnd hd ⟨v, rfl, hJ⟩ K hK
      have hd' : depsF listed [{ on := 3, ground := .data }, { on := 2, ground := .chain }] := hd
      simp only [depsF, and_true] at hd'
      have e10 := hJ.d3 (hd'.1 (by rfl))
      unfold actP
      rw [e10]
      go_simp
      refine (unhide F2 w1).mono ?_
      rintro e w2 ⟨rfl, g2⟩
      exact hK.out _ _ ⟨updA v 11 _, (by simp [actP, updA, e10]), hJ.step hi g2 rfl⟩
    refine ⟨?_, ?_⟩
    · rintro listed a w1 hi hnd hd ⟨v, rfl, hJ⟩ K hK
      unfold actP
      go_simp
      exact hK.out _ _ ⟨_, rfl, hJ.alloc hi (.inl rfl) hnd⟩
    refine ⟨?_, ?_⟩
    · rintro listed a w1 hi hnd hd ⟨v, rfl, hJ⟩ K hK
      unfold actP
      go_simp
      exact hK.out _ _ ⟨_, rfl, hJ.alloc hi (.inr rfl) hnd⟩
    refine ⟨?_, ?_⟩
    · rintro listed a w1 hi hnd hd ⟨v, rfl, hJ⟩ K hK
      have d5 := depsF_mem hd { on := 5, ground := .data } (by simp) rfl
      have e9 := hJ.d2 (depsF_mem hd { on := 2, ground := .data } (by simp) rfl)
      obtain ⟨g, e5, hge, x, y, hb, _⟩ := hJ.d5 d5
      have cf := areaCells hb
      unfold actP
      rw [e5, e9]
      go_simp
      exact hK.out _ _ ⟨v, (by simp [actP, e5, e9]), hJ.store5 hi e5 d5⟩
    refine ⟨?_, trivial⟩
    · rintro listed a w1 hi hnd hd ⟨v, rfl, hJ⟩ K hK
      have d6 := depsF_mem hd { on := 6, ground := .data } (by simp) rfl
      have e11 := hJ.d4 (depsF_mem hd { on := 4, ground := .data } (by simp) rfl)
      obtain ⟨g, e6, hge, x, y, hb, _⟩ := hJ.d6 d6
      have cf := areaCells hb
      unfold actP
      rw [e6, e11]
      go_simp
      exact hK.out _ _ ⟨v, (by simp [actP, e6, e11]), hJ.store6 hi e6 d6⟩
  case done =>
    rintro listed a w1 hall ⟨v, rfl, hJ⟩
    obtain ⟨g5, e5, hge5, x5, y5, hb5, l5⟩ := hJ.d5 (hall 5 (by decide))
    obtain ⟨g6, e6, hge6, x6, y6, hb6, l6⟩ := hJ.d6 (hall 6 (by decide))
    obtain ⟨rfl, rfl⟩ := l5 (hall 7 (by decide))
    obtain ⟨rfl, rfl⟩ := l6 (hall 8 (by decide))
    have hB := (hJ.grown.block w.heap.size (by omega) (by simp)).trans (unhide B0)
    have hR := (hJ.grown.block (w.heap.size + 1) (by omega) (by simp)).trans (unhide B1)
    have gJ := hJ.grown
    have hne : g5 ≠ g6 := fun e => hJ.ne (hall 5 (by decide)) (hall 6 (by decide)) (by rw [e5, e6, e])
    unfold actP
    rw [e5, e6]
    clear hall hJ l5 l6 e5 e6
    generalize v 7 = v7
    generalize v 8 = v8
    generalize v 9 = v9
    generalize v 10 = v10
    generalize v 11 = v11
    clear v

    have cx1 : w1.cell? ⟨w.heap.size, 1, none⟩ = some (.int .i64 wd) := by rw [cell_of_row w1 _ 1 _ _ (0, 0) hB]; exact HX1
    have cx2 : w1.cell? ⟨w.heap.size, 2, none⟩ = some (.int .i64 ht) := by rw [cell_of_row w1 _ 2 _ _ (0, 0) hB]; exact HX2
    obtain ⟨c50, c51, _, _⟩ := areaCells hb5
    obtain ⟨c60, c61, _, _⟩ := areaCells hb6
    obtain ⟨cr0, cr1, f0, f1⟩ := areaCells hR
    clear hb5 hb6 hB F1 F2
    have KEEP : Hid (∀ u v, (putA w1 (w.heap.size + 1) u v).cell? ⟨w.heap.size, 1, none⟩ = some (.int .i64 wd) ∧ (putA w1 (w.heap.size + 1) u v).cell? ⟨w.heap.size, 2, none⟩ = some (.int .i64 ht) ∧ (putA w1 (w.heap.size + 1) u v).cell? ⟨g5, 0, none⟩ = some (.int .i64 x5) ∧ (putA w1 (w.heap.size + 1) u v).cell? ⟨g5, 1, none⟩ = some (.int .i64 y5) ∧ (putA w1 (w.heap.size + 1) u v).cell? ⟨g6, 0, none⟩ = some (.int .i64 x6) ∧ (putA w1 (w.heap.size + 1) u v).cell? ⟨g6, 1, none⟩ = some (.int .i64 y6)) := fun u v => ⟨(putA_grown _ _ _ _).cell cx1 (by simp), (putA_grown _ _ _ _).cell cx2 (by simp), (putA_grown _ _ _ _).cell c50 (by simp; omega), (putA_grown _ _ _ _).cell c51 (by simp; omega), (putA_grown _ _ _ _).cell c60 (by simp; omega), (putA_grown _ _ _ _).cell c61 (by simp; omega)⟩
    go_wp2
    go_region_held3 (fun w' => w'.cell? ⟨w.heap.size, 1, none⟩ = some (.int .i64 wd) ∧ w'.cell? ⟨w.heap.size, 2, none⟩ = some (.int .i64 ht) ∧ w'.cell? ⟨g5, 0, none⟩ = some (.int .i64 x5) ∧ w'.cell? ⟨g5, 1, none⟩ = some (.int .i64 y5) ∧ w'.cell? ⟨g6, 0, none⟩ = some (.int .i64 x6) ∧ w'.cell? ⟨g6, 1, none⟩ = some (.int .i64 y6)) (first | exact ⟨cx1, cx2, c50, c51, c60, c61⟩ | exact unhide KEEP _ _) (first | (go_at_call_of 50 (Value.int .i64 (wd * x5)); refine (divUp _ _ u (by omega) (by omega) HU _).mono ?_; rintro e w2 ⟨rfl, rfl⟩) | (go_at_call_of 50 (Value.int .i64 (ht * y5)); refine (divUp _ _ v (by omega) (by omega) HV _).mono ?_; rintro e w2 ⟨rfl, rfl⟩))
    go_wp2
    refine bodyPost_ret (v := .agg #[.int .i64 u, .int .i64 v]) (by simp [results, Try.results51, go_sem, cr0, cr1]) rfl ⟨rfl, ?_⟩
    exact grown_drew (grown_setNew (grown_setNew (grown_trans (unhide HG0) gJ) _ _ _ (by omega)) _ _ _ (by omega))

/-- Two numbers rounded up, laid into the answer. -/
theorem unitsOf_bounds {a m : Int} (ha : 1 ≤ a ∧ a ≤ 256) (hm : 1 ≤ m ∧ m ≤ 4) : 1 ≤ upI a (8 * m) ∧ upI a (8 * m) ≤ a := upI_pos ha.1 (by omega)

set_option maxRecDepth 20000 in
set_option maxHeartbeats 3200000 in
theorem units (X : Array Value) (p wd ht rs : Int) (n : Nat) (C : Nat → Nat → Int) (hX : Fx X p wd ht rs n C) (mh mv : Int) (hg : Geo wd ht n C mh mv) (u v : Int) (HU : Hid (upI wd (8 * mh) = u)) (HV : Hid (upI ht (8 * mv) = v)) (w : World) :
    Calls Try.prog 43 #[.agg X] w fun e w' => e = .returned (.agg #[.int .i64 u, .int .i64 v]) ∧ w.grownBy w' none := by
  have hs := hX.size
  have F2 := hide (fun w => most X p wd ht rs n C hX hg.n4 mh mv hg.h0 hg.v0 w)
  have HX1 := hX.c1
  have HX2 := hX.c2
  have hmh := hg.hb
  have hmv := hg.vb
  have hwd := hg.wd
  have hht := hg.ht
  obtain ⟨wx, hW0⟩ : ∃ wx, ((w.alloc (.cells X 51)).alloc (.cells #[.int .i64 0, .int .i64 0] 73)) = wx := ⟨_, rfl⟩
  have G0 : w.grownBy wx none := by rw [← hW0]; exact grown_alloc (grown_alloc (World.grownBy.refl _ _) _) _
  have b0 : wx.heap[w.heap.size]? = some (.cells X 51 (0, 0)) := by
    rw [← hW0, Below.heap_alloc _ _ _ (by simp)]
    exact heap_alloc_new w _
  have b1 : wx.heap[w.heap.size + 1]? = some (.cells #[.int .i64 0, .int .i64 0] 73 (0, 0)) := by
    rw [← hW0]
    have := heap_alloc_new (w.alloc (.cells X 51)) (.cells #[.int .i64 0, .int .i64 0] 73)
    simpa using this
  have hsz : wx.heap.size = w.heap.size + 2 := by rw [← hW0]; simp
  have HW := hide hW0
  have B0 := hide b0
  have B1 := hide b1
  have HG0 := hide G0
  clear hW0 b0 b1 G0
  clear hX hg
  have hw1 := i64_in (8 * mh) (by omega)
  have hw2 := i64_in (8 * mv) (by omega)
  have bB := unhide B0
  go_enter Try.func43, Try.ntmps43
  go_wp2_with (first | (rw [unhide HW]; refine wpList_load_row rfl 51 _ rfl w.heap.size rfl X 51 bB _ Try.underlying51 rfl (by rw [hs]; kernel_rfl) ?_))
  refine (unhide F2 wx).mono ?_
  rintro e w1 ⟨rfl, g1⟩
  obtain ⟨W2, hW2⟩ : ∃ W2, w1.alloc (.cells #[.int .i64 mh, .int .i64 mv] 73) = W2 := ⟨_, rfl⟩
  have g2 : wx.grownBy W2 none := by rw [← hW2]; exact grown_alloc g1 _
  have hb6 : W2.heap[w1.heap.size]? = some (.cells #[.int .i64 mh, .int .i64 mv] 73 (0, 0)) := by rw [← hW2]; exact heap_alloc_new _ _
  have hs1 := g1.size
  have hB := (g2.block w.heap.size (by omega) (by simp)).trans (unhide B0)
  have hR := (g2.block (w.heap.size + 1) (by omega) (by simp)).trans (unhide B1)
  have cx1 : W2.cell? ⟨w.heap.size, 1, none⟩ = some (.int .i64 wd) := by rw [cell_of_row W2 _ 1 _ _ (0, 0) hB]; exact HX1
  have cx2 : W2.cell? ⟨w.heap.size, 2, none⟩ = some (.int .i64 ht) := by rw [cell_of_row W2 _ 2 _ _ (0, 0) hB]; exact HX2
  obtain ⟨c60, c61, _, _⟩ := areaCells hb6
  obtain ⟨cr0, cr1, f0, f1⟩ := areaCells hR
  have KEEP : Hid (∀ u v, (putA W2 (w.heap.size + 1) u v).cell? ⟨w.heap.size, 1, none⟩ = some (.int .i64 wd) ∧ (putA W2 (w.heap.size + 1) u v).cell? ⟨w.heap.size, 2, none⟩ = some (.int .i64 ht) ∧ (putA W2 (w.heap.size + 1) u v).cell? ⟨w1.heap.size, 0, none⟩ = some (.int .i64 mh) ∧ (putA W2 (w.heap.size + 1) u v).cell? ⟨w1.heap.size, 1, none⟩ = some (.int .i64 mv)) := fun u v => ⟨(putA_grown _ _ _ _).cell cx1 (by simp), (putA_grown _ _ _ _).cell cx2 (by simp), (putA_grown _ _ _ _).cell c60 (by simp; omega), (putA_grown _ _ _ _).cell c61 (by simp; omega)⟩
  have HW2 := hide hW2
  clear hW2 hb6 hB F2 hR
  go_wp2
  rw [unhide HW2]
  clear HW2
  go_region_held3 (fun w' => w'.cell? ⟨w.heap.size, 1, none⟩ = some (.int .i64 wd) ∧ w'.cell? ⟨w.heap.size, 2, none⟩ = some (.int .i64 ht) ∧ w'.cell? ⟨w1.heap.size, 0, none⟩ = some (.int .i64 mh) ∧ w'.cell? ⟨w1.heap.size, 1, none⟩ = some (.int .i64 mv)) (first | exact ⟨cx1, cx2, c60, c61⟩ | exact unhide KEEP _ _) (first | (go_at_call_of 50 (Value.int .i64 wd); refine (divUp _ _ u (by omega) (by omega) HU _).mono ?_; rintro e w2 ⟨rfl, rfl⟩) | (go_at_call_of 50 (Value.int .i64 ht); refine (divUp _ _ v (by omega) (by omega) HV _).mono ?_; rintro e w2 ⟨rfl, rfl⟩))
  go_wp2
  refine bodyPost_ret (v := .agg #[.int .i64 u, .int .i64 v]) (by simp [results, Try.results43, go_sem, cr0, cr1]) rfl ⟨rfl, ?_⟩
  exact grown_drew (grown_setNew (grown_setNew (grown_trans (unhide HG0) g2) _ _ _ (by omega)) _ _ _ (by omega))

end Go.Proofs.Ytdhgfbdanijgaaa

namespace Go.Proofs.Ytdhgfbdanijgaaa
open Go.RowKit

theorem hasComp (X : Array Value) (p wd ht rs : Int) (n : Nat) (C : Nat → Nat → Int) (hX : Fx X p wd ht rs n C) (hn : n ≤ 4) (c : Int) (t : Bool) (HT : Hid (decide (0 ≤ c ∧ c ≤ (n : Int) - 1) = t)) (w : World) :
    Calls Try.prog 46 #[.agg X, .int .i64 c] w fun e w' => e = .returned (.bool t) ∧ w.grownBy w' none := by
  have hs := hX.size
  have h4 := hX.c4
  have h4' : X[4] = .int .i64 n := by rw [Array.getElem?_eq_getElem (by omega)] at h4; simpa using h4
  have hw := i64_in ((n : Int) - 1) (by omega)
  clear h4 hX
  go_enter Try.func46, Try.ntmps46
  go_wp2_with fail
  refine (inRange c 0 ((n : Int) - 1) t HT _).mono ?_
  rintro e w1 ⟨rfl, rfl⟩
  go_wp2
  go_ret
  exact ⟨rfl, grown_alloc (World.grownBy.refl _ _) _⟩

theorem hasComp_none (c : Int) (w : World) :
    Calls Try.prog 46 #[.agg #[.int .i64 0, .int .i64 0, .int .i64 0, .int .i64 0, .int .i64 0, .int .i64 0, .int .i64 0, .int .i64 0, .int .i64 0, .int .i64 0, .int .i64 0, .int .i64 0, .int .i64 0, .int .i64 0, .int .i64 0, .int .i64 0, .int .i64 0, .int .i64 0, .int .i64 0, .int .i64 0, .int .i64 0], .int .i64 c] w fun e w' => e = .returned (.bool false) ∧ w.grownBy w' none := by
  have HT : Hid (decide (0 ≤ c ∧ c ≤ (-1 : Int)) = false) := decide_eq_false (by omega)
  go_enter Try.func46, Try.ntmps46
  go_wp2_with fail
  refine (inRange c 0 (-1) false HT _).mono ?_
  rintro e w1 ⟨rfl, rfl⟩
  go_wp2
  go_ret
  exact ⟨rfl, grown_alloc (World.grownBy.refl _ _) _⟩

end Go.Proofs.Ytdhgfbdanijgaaa

namespace Go.Proofs.Ytdhgfbdanijgaaa
open Go.RowKit

def actB (X : Array Value) (c : Int) (rx : Nat) (v : Nat → Value) : Act := { tmps := #[.agg X, .int .i64 c, .pointer (some ⟨rx, 0, none⟩), undef, .pointer (some ⟨rx + 1, 0, none⟩), v 5, v 6, v 7, v 8, v 9, v 10, v 11, undef, undef, undef, undef, undef, undef, undef, undef, undef, undef, undef], defers := [] }

set_option maxRecDepth 20000 in
set_option maxHeartbeats 3200000 in
theorem needed (X : Array Value) (p wd ht rs : Int) (n : Nat) (C : Nat → Nat → Int) (hX : Fx X p wd ht rs n C) (mh mv : Int) (hg : Geo wd ht n C mh mv) (c : Nat) (hc : c < n) (a b u v : Int) (HA : Hid (upI (wd * C c 1) mh = a)) (HB : Hid (upI (ht * C c 2) mv = b)) (HU : Hid (upI a 8 = u)) (HV : Hid (upI b 8 = v)) (w : World) :
    Calls Try.prog 47 #[.agg X, .int .i64 c] w fun e w' => e = .returned (.agg #[.int .i64 u, .int .i64 v]) ∧ w.grownBy w' none := by
  have hs := hX.size
  have F2 := hide (fun w => plane X p wd ht rs n C hX mh mv hg c hc a b HA HB w)
  have ha : 1 ≤ a ∧ a ≤ 4096 := by
    have P1 := mul_share (a := wd) ⟨hg.wd.1, by have := hg.wd; omega⟩ (hg.ch c hc)
    have := upI_pos P1.1 hg.hb.1
    rw [unhide HA] at this; omega
  have hb : 1 ≤ b ∧ b ≤ 4096 := by
    have P1 := mul_share (a := ht) ⟨hg.ht.1, by have := hg.ht; omega⟩ (hg.cv c hc)
    have := upI_pos P1.1 hg.vb.1
    rw [unhide HB] at this; omega
  obtain ⟨wx, hW0⟩ : ∃ wx, ((w.alloc (.cells X 51)).alloc (.cells #[.int .i64 0, .int .i64 0] 73)) = wx := ⟨_, rfl⟩
  have G0 : w.grownBy wx none := by rw [← hW0]; exact grown_alloc (grown_alloc (World.grownBy.refl _ _) _) _
  have b0 : wx.heap[w.heap.size]? = some (.cells X 51 (0, 0)) := by
    rw [← hW0, Below.heap_alloc _ _ _ (by simp)]
    exact heap_alloc_new w _
  have b1 : wx.heap[w.heap.size + 1]? = some (.cells #[.int .i64 0, .int .i64 0] 73 (0, 0)) := by
    rw [← hW0]
    have := heap_alloc_new (w.alloc (.cells X 51)) (.cells #[.int .i64 0, .int .i64 0] 73)
    simpa using this
  have hsz : wx.heap.size = w.heap.size + 2 := by rw [← hW0]; simp
  have HW := hide hW0
  have B0 := hide b0
  have B1 := hide b1
  have HG0 := hide G0
  clear hW0 b0 b1 G0
  clear hX hg
  have bB := unhide B0
  go_enter Try.func47, Try.ntmps47
  go_wp2_with (first | (rw [unhide HW]; refine wpList_load_row rfl 51 _ rfl w.heap.size rfl X 51 bB _ Try.underlying51 rfl (by rw [hs]; kernel_rfl) ?_))
  refine (unhide F2 wx).mono ?_
  rintro e w1 ⟨rfl, g1⟩
  obtain ⟨W2, hW2⟩ : ∃ W2, w1.alloc (.cells #[.int .i64 a, .int .i64 b] 73) = W2 := ⟨_, rfl⟩
  have g2 : wx.grownBy W2 none := by rw [← hW2]; exact grown_alloc g1 _
  have hb6 : W2.heap[w1.heap.size]? = some (.cells #[.int .i64 a, .int .i64 b] 73 (0, 0)) := by rw [← hW2]; exact heap_alloc_new _ _
  have hs1 := g1.size
  have hR := (g2.block (w.heap.size + 1) (by omega) (by simp)).trans (unhide B1)
  obtain ⟨c60, c61, _, _⟩ := areaCells hb6
  obtain ⟨cr0, cr1, f0, f1⟩ := areaCells hR
  have KEEP : Hid (∀ u v, (putA W2 (w.heap.size + 1) u v).cell? ⟨w1.heap.size, 0, none⟩ = some (.int .i64 a) ∧ (putA W2 (w.heap.size + 1) u v).cell? ⟨w1.heap.size, 1, none⟩ = some (.int .i64 b)) := fun u v => ⟨(putA_grown _ _ _ _).cell c60 (by simp; omega), (putA_grown _ _ _ _).cell c61 (by simp; omega)⟩
  have HW2 := hide hW2
  clear hW2 hb6 F2 hR
  go_wp2
  rw [unhide HW2]
  clear HW2
  go_region_held3 (fun w' => w'.cell? ⟨w1.heap.size, 0, none⟩ = some (.int .i64 a) ∧ w'.cell? ⟨w1.heap.size, 1, none⟩ = some (.int .i64 b)) (first | exact ⟨c60, c61⟩ | exact unhide KEEP _ _) (first | (go_at_call_of 50 (Value.int .i64 a); refine (divUp _ _ u (by omega) (by omega) HU _).mono ?_; rintro e w2 ⟨rfl, rfl⟩) | (go_at_call_of 50 (Value.int .i64 b); refine (divUp _ _ v (by omega) (by omega) HV _).mono ?_; rintro e w2 ⟨rfl, rfl⟩))
  go_wp2
  refine bodyPost_ret (v := .agg #[.int .i64 u, .int .i64 v]) (by simp [results, Try.results47, go_sem, cr0, cr1]) rfl ⟨rfl, ?_⟩
  exact grown_drew (grown_setNew (grown_setNew (grown_trans (unhide HG0) g2) _ _ _ (by omega)) _ _ _ (by omega))

set_option maxRecDepth 20000 in
set_option maxHeartbeats 3200000 in
theorem blocks (X : Array Value) (p wd ht rs : Int) (n : Nat) (C : Nat → Nat → Int) (hX : Fx X p wd ht rs n C) (mh mv : Int) (hg : Geo wd ht n C mh mv) (c : Nat) (hc : c < n) (a b : Int) (HA : Hid (upI wd (8 * mh) = a)) (HB : Hid (upI ht (8 * mv) = b)) (w : World) :
    Calls Try.prog 32 #[.agg X, .int .i64 c] w fun e w' => e = .returned (.agg #[.int .i64 (C c 1 * a), .int .i64 (C c 2 * b)]) ∧ w.grownBy w' none := by
  have hs := hX.size
  have hn4 := hg.n4
  have F1 := hide (fun w => shares X p wd ht rs n C hX c (by omega) w)
  have F2 := hide (fun w => units X p wd ht rs n C hX mh mv hg a b HA HB w)
  obtain ⟨h1, h2⟩ : (1 ≤ C c 1 ∧ C c 1 ≤ 4) ∧ (1 ≤ C c 2 ∧ C c 2 ≤ 4) := ⟨hg.ch c hc, hg.cv c hc⟩
  have ha : 1 ≤ a ∧ a ≤ 256 := by
    have := upI_pos (d := 8 * mh) hg.wd.1 (by have := hg.hb; omega)
    have := hg.wd
    rw [unhide HA] at *; omega
  have hb : 1 ≤ b ∧ b ≤ 256 := by
    have := upI_pos (d := 8 * mv) hg.ht.1 (by have := hg.vb; omega)
    have := hg.ht
    rw [unhide HB] at *; omega
  have P1 := mul_share (a := a) ⟨ha.1, by omega⟩ h1
  have P2 := mul_share (a := b) ⟨hb.1, by omega⟩ h2
  obtain ⟨wx, hW0⟩ : ∃ wx, ((w.alloc (.cells X 51)).alloc (.cells #[.int .i64 0, .int .i64 0] 73)) = wx := ⟨_, rfl⟩
  have G0 : w.grownBy wx none := by rw [← hW0]; exact grown_alloc (grown_alloc (World.grownBy.refl _ _) _) _
  have b0 : wx.heap[w.heap.size]? = some (.cells X 51 (0, 0)) := by
    rw [← hW0, Below.heap_alloc _ _ _ (by simp)]
    exact heap_alloc_new w _
  have b1 : wx.heap[w.heap.size + 1]? = some (.cells #[.int .i64 0, .int .i64 0] 73 (0, 0)) := by
    rw [← hW0]
    have := heap_alloc_new (w.alloc (.cells X 51)) (.cells #[.int .i64 0, .int .i64 0] 73)
    simpa using this
  have hsz : wx.heap.size = w.heap.size + 2 := by rw [← hW0]; simp
  have HW := hide hW0
  have B0 := hide b0
  have B1 := hide b1
  have HG0 := hide G0
  clear hW0 b0 b1 G0
  clear hX hg
  go_enter Try.func32, Try.ntmps32
  go_wp2
  rw [unhide HW]
  clear HW
  generalize hE1 : C c 1 = c1 at *
  generalize hE2 : C c 2 = c2 at *
  have E1 := hide hE1
  have E2 := hide hE2
  clear hE1 hE2
  rw [Int.mul_comm a c1] at P1
  rw [Int.mul_comm b c2] at P2
  have hw1 := i64_in (c1 * a) (by omega)
  have hw2 := i64_in (c2 * b) (by omega)
  refine wp_region_steps (fun listed a' w' => ∃ v, a' = actB X c w.heap.size v ∧ InvA wx X c c1 c2 a b v listed w') (by kernel_rfl) (by kernel_rfl) ?start ?steps ?done

  case start =>
    exact ⟨fun _ => undef, rfl, grown_drew (World.grownBy.refl _ _), fun h => absurd h (not_done_start _ _), fun h => absurd h (not_done_start _ _), fun h => absurd h (not_done_start _ _), fun h => absurd h (not_done_start _ _), fun h => absurd h (not_done_start _ _), fun h => absurd h (not_done_start _ _), fun h => absurd h (not_done_start _ _), fun h => absurd h (not_done_start _ _), fun h => absurd h (not_done_start _ _), fun h => absurd h (not_done_start _ _)⟩
  case steps =>
    have xB : ∀ w1, wx.grownBy w1 none → w1.heap[w.heap.size]? = some (.cells X 51 (0, 0)) := fun w1 g => (g.block w.heap.size (by omega) (by simp)).trans (unhide B0)
    refine ⟨?_, ?_⟩
    · rintro listed a w1 hi hnd hd ⟨v, rfl, hJ⟩ K hK
      unfold actB
      rw [if_pos (by rfl)]
      refine wp_load_mid 51 _ rfl w.heap.size 0 rfl X.toList _ (fun j u hu => by rw [cell_of_row w1 w.heap.size (0 + j) X _ (0, 0) (xB w1 hJ.grown)]; simpa using hu) Try.underlying51 rfl (by simp only [Array.length_toList]; rw [hs]; kernel_rfl) ?_
      exact hK.out _ _ ⟨_, rfl, hJ.step hi (World.grownBy.refl _ none) (x := .agg X) rfl⟩
    refine ⟨?_, ?_⟩
    · rintro listed a w1 hi hnd hd ⟨v, rfl, hJ⟩ K hK
      unfold actB
      go_simp
      exact hK.out _ _ ⟨_, rfl, hJ.step hi (World.grownBy.refl _ none) (x := .int .i64 c) rfl⟩
    refine ⟨?_, ?_⟩
    · rintro listed a w1 hi hnd hd ⟨v, rfl, hJ⟩ K hK
      have hd' : depsF listed [{ on := 0, ground := .data }, { on := 1, ground := .data }] := hd
      simp only [depsF, and_true] at hd'
      have e7 := hJ.d0 (hd'.1 (by rfl))
      have e8 := hJ.d1 (hd'.2 (by rfl))
      unfold actB
      rw [e7, e8]
      go_simp
      refine (unhide F1 w1).mono ?_
      rintro e w2 ⟨rfl, g2⟩
      exact hK.out _ _ ⟨updA v 9 _, (by simp [actB, updA, e7, e8]), hJ.step hi g2 rfl⟩
    refine ⟨?_, ?_⟩
    · rintro listed a w1 hi hnd hd ⟨v, rfl, hJ⟩ K hK
      unfold actB
      rw [if_pos (by rfl)]
      refine wp_load_mid 51 _ rfl w.heap.size 0 rfl X.toList _ (fun j u hu => by rw [cell_of_row w1 w.heap.size (0 + j) X _ (0, 0) (xB w1 hJ.grown)]; simpa using hu) Try.underlying51 rfl (by simp only [Array.length_toList]; rw [hs]; kernel_rfl) ?_
      exact hK.out _ _ ⟨_, rfl, hJ.step hi (World.grownBy.refl _ none) (x := .agg X) rfl⟩
    refine ⟨?_, ?_⟩
    · rintro listed a w1 hi hnd hd ⟨v, rfl, hJ⟩ K hK
      have hd' : depsF listed [{ on := 3, ground := .data }, { on := 2, ground := .chain }] := hd
      simp only [depsF, and_true] at hd'
      have e10 := hJ.d3 (hd'.1 (by rfl))
      unfold actB
      rw [e10]
      go_simp
      refine (unhide F2 w1).mono ?_
      rintro e w2 ⟨rfl, g2⟩
      exact hK.out _ _ ⟨updA v 11 _, (by simp [actB, updA, e10]), hJ.step hi g2 rfl⟩
    refine ⟨?_, ?_⟩
    · rintro listed a w1 hi hnd hd ⟨v, rfl, hJ⟩ K hK
      unfold actB
      go_simp
      exact hK.out _ _ ⟨_, rfl, hJ.alloc hi (.inl rfl) hnd⟩
    refine ⟨?_, ?_⟩
    · rintro listed a w1 hi hnd hd ⟨v, rfl, hJ⟩ K hK
      unfold actB
      go_simp
      exact hK.out _ _ ⟨_, rfl, hJ.alloc hi (.inr rfl) hnd⟩
    refine ⟨?_, ?_⟩
    · rintro listed a w1 hi hnd hd ⟨v, rfl, hJ⟩ K hK
      have d5 := depsF_mem hd { on := 5, ground := .data } (by simp) rfl
      have e9 := hJ.d2 (depsF_mem hd { on := 2, ground := .data } (by simp) rfl)
      obtain ⟨g, e5, hge, x, y, hb, _⟩ := hJ.d5 d5
      have cf := areaCells hb
      unfold actB
      rw [e5, e9]
      go_simp
      exact hK.out _ _ ⟨v, (by simp [actB, e5, e9]), hJ.store5 hi e5 d5⟩
    refine ⟨?_, trivial⟩
    · rintro listed a w1 hi hnd hd ⟨v, rfl, hJ⟩ K hK
      have d6 := depsF_mem hd { on := 6, ground := .data } (by simp) rfl
      have e11 := hJ.d4 (depsF_mem hd { on := 4, ground := .data } (by simp) rfl)
      obtain ⟨g, e6, hge, x, y, hb, _⟩ := hJ.d6 d6
      have cf := areaCells hb
      unfold actB
      rw [e6, e11]
      go_simp
      exact hK.out _ _ ⟨v, (by simp [actB, e6, e11]), hJ.store6 hi e6 d6⟩
  case done =>
    rintro listed a w1 hall ⟨v, rfl, hJ⟩
    obtain ⟨g5, e5, hge5, x5, y5, hb5, l5⟩ := hJ.d5 (hall 5 (by decide))
    obtain ⟨g6, e6, hge6, x6, y6, hb6, l6⟩ := hJ.d6 (hall 6 (by decide))
    obtain ⟨rfl, rfl⟩ := l5 (hall 7 (by decide))
    obtain ⟨rfl, rfl⟩ := l6 (hall 8 (by decide))
    have hB := (hJ.grown.block w.heap.size (by omega) (by simp)).trans (unhide B0)
    have hR := (hJ.grown.block (w.heap.size + 1) (by omega) (by simp)).trans (unhide B1)
    have gJ := hJ.grown
    have hne : g5 ≠ g6 := fun e => hJ.ne (hall 5 (by decide)) (hall 6 (by decide)) (by rw [e5, e6, e])
    unfold actB
    rw [e5, e6]
    clear hall hJ l5 l6 e5 e6
    generalize v 7 = v7
    generalize v 8 = v8
    generalize v 9 = v9
    generalize v 10 = v10
    generalize v 11 = v11
    clear v

    obtain ⟨c50, c51, _, _⟩ := areaCells hb5
    obtain ⟨c60, c61, _, _⟩ := areaCells hb6
    obtain ⟨cr0, cr1, f0, f1⟩ := areaCells hR
    clear hb5 hb6 hB F1 F2
    go_wp2
    refine bodyPost_ret (v := .agg #[.int .i64 (x5 * x6), .int .i64 (y5 * y6)]) (by simp [results, Try.results32, go_sem, cr0, cr1]) rfl ⟨by rw [unhide E1, unhide E2], ?_⟩
    exact grown_setNew (grown_setNew (grown_trans (unhide HG0) gJ) _ _ _ (by omega)) _ _ _ (by omega)

end Go.Proofs.Ytdhgfbdanijgaaa

namespace Go.Proofs.Ytdhgfbdanijgaaa
open Go.RowKit

theorem fzOne : (#[.int .i64 0, .int .i64 0, .int .i64 0, .int .i64 0, .int .i64 0, .int .i64 0, .int .i64 0, .int .i64 0, .int .i64 0, .int .i64 0, .int .i64 0, .int .i64 0, .int .i64 0, .int .i64 0, .int .i64 0, .int .i64 0, .int .i64 0, .int .i64 0, .int .i64 0, .int .i64 0, .int .i64 0] : Array Value).all (·.oneCell') = true := by simp [Value.oneCell']

/-- The size of a component's plane, as both sides tell it. -/
def sizeG (b : Bool) (wd ht : Int) (n : Nat) (C : Nat → Nat → Int) (c : Int) : Int × Int :=
  if b && decide (0 ≤ c ∧ c ≤ (n : Int) - 1) then (upI (wd * C c.toNat 1) (mostA 1 C 1 n), upI (ht * C c.toNat 2) (mostA 1 C 2 n)) else (0, 0)
def blocksG (b : Bool) (wd ht : Int) (n : Nat) (C : Nat → Nat → Int) (c : Int) : Int × Int :=
  if b && decide (0 ≤ c ∧ c ≤ (n : Int) - 1) then (upI wd (8 * mostA 1 C 1 n) * C c.toNat 1, upI ht (8 * mostA 1 C 2 n) * C c.toNat 2) else (0, 0)

end Go.Proofs.Ytdhgfbdanijgaaa

namespace Go.Proofs.Ytdhgfbdanijgaaa
open Go.RowKit

end Go.Proofs.Ytdhgfbdanijgaaa

namespace Go.Proofs.Ytdhgfbdanijgaaa
open Go.RowKit

end Go.Proofs.Ytdhgfbdanijgaaa

namespace Go.Proofs.Ytdhgfbdanijgaaa
open Go.RowKit

def ToC {α : Type} (f : Nat) (Q : World → Value → α → Prop) (P : World → Value → α → List Nat → Prop) (sz : α → Nat) : Prop :=
  ∀ (w : World) (u : Value) (a : α), Q w u a → sz a ≤ 1048576 → Calls Try.prog f #[u] w fun e w' => ∃ u' F, e = .returned u' ∧ P w' u' a F ∧ F.Nodup ∧ (∀ g ∈ F, w.heap.size ≤ g) ∧ w.grownBy w' none
def EqC {α : Type} (f : Nat) (Q : World → Value → α → Prop) (sz : α → Nat) : Prop :=
  ∀ (w : World) (u u' : Value) (a : α), Q w u a → Q w u' a → sz a ≤ 1048576 → Calls Try.prog f #[u, u'] w fun e w' => e = .returned (.bool true) ∧ w.grownBy w' none
def MarkC {α : Type} (f : Nat) (P : World → Value → α → List Nat → Prop) (mk : α → Int → α) (cnt sz : α → Nat) : Prop :=
  ∀ (w : World) (u : Value) (a : α) (F : List Nat) (k : Int), P w u a F → F.Nodup → sz a ≤ 1048576 → 0 ≤ k → k + cnt a ≤ 16777216 → Calls Try.prog f #[u, .int .i64 k] w fun e w' => e = .returned (.int .i64 (k + cnt a)) ∧ P w' u (mk a k) F ∧ Wr F w w'
def HeldC {α : Type} (f : Nat) (Q : World → Value → α → Prop) (mk : α → Int → α) (cnt sz : α → Nat) : Prop :=
  ∀ (w : World) (u : Value) (a : α) (k : Int), Q w u (mk a k) → sz a ≤ 1048576 → 0 ≤ k → k + cnt a ≤ 16777216 → Calls Try.prog f #[u, .int .i64 k] w fun e w' => e = .returned (.int .i64 (k + cnt a)) ∧ w.grownBy w' none
/-- How much there is, as the laws count it: within what is left, or not. -/
def SzC {α : Type} (f : Nat) (Q : World → Value → α → Prop) (sz : α → Nat) : Prop :=
  ∀ (w : World) (u : Value) (a : α) (left : Nat), Q w u a → left ≤ 1048576 → Calls Try.prog f #[u, .int .i64 left] w fun e w' => e = .returned (.int .i64 (if sz a ≤ left then (left : Int) - sz a else -1)) ∧ w' = w

/-- What came in is no longer than a slice can be. -/
def RdZ {β : Type} (Q : World → Value → List β → Prop) (w : World) (v : Value) (L : List β) : Prop := Q w v L ∧ L.length ≤ maxLen

def sumN : List Nat → Nat
  | [] => 0
  | x :: r => x + sumN r
theorem sumN_append : ∀ a b : List Nat, sumN (a ++ b) = sumN a + sumN b
  | [], b => by simp [sumN]
  | x :: r, b => by simp [sumN, sumN_append r b]; omega
def cntR {α : Type} (cnt : α → Nat) (L : List α) : Nat := sumN (L.map cnt)
def szR {α : Type} (sz : α → Nat) (L : List α) : Nat := L.length + sumN (L.map sz)
def mkR {α : Type} (mk : α → Int → α) (cnt : α → Nat) : List α → Int → List α
  | [], _ => []
  | a :: r, k => mk a k :: mkR mk cnt r (k + cnt a)
theorem mkR_len {α : Type} (mk : α → Int → α) (cnt : α → Nat) : ∀ (L : List α) (k : Int), (mkR mk cnt L k).length = L.length
  | [], _ => rfl
  | a :: r, k => by rw [mkR, List.length_cons, List.length_cons, mkR_len mk cnt r]
theorem take_next {α β : Type} (f : α → β) (L : List α) (i : Nat) (h : i < L.length) : (L.take (i + 1)).map f = (L.take i).map f ++ [f L[i]] := by
  rw [List.take_succ_eq_append_getElem h, List.map_append]; rfl
theorem cntR_next {α : Type} (cnt : α → Nat) (L : List α) (i : Nat) (h : i < L.length) : cntR cnt (L.take (i + 1)) = cntR cnt (L.take i) + cnt L[i] := by
  unfold cntR; rw [take_next cnt L i h, sumN_append]; simp [sumN]
theorem cntR_le {α : Type} (cnt : α → Nat) (L : List α) (i : Nat) : cntR cnt (L.take i) ≤ cntR cnt L := by
  have e : L.map cnt = (L.take i).map cnt ++ (L.drop i).map cnt := by rw [← List.map_append, List.take_append_drop]
  unfold cntR; rw [e, sumN_append]; omega
theorem cntR_all {α : Type} (cnt : α → Nat) (L : List α) : cntR cnt (L.take L.length) = cntR cnt L := by rw [List.take_length]
theorem szR_el {α : Type} (sz : α → Nat) (L : List α) (i : Nat) (h : i < L.length) : L.length ≤ szR sz L ∧ sz L[i] ≤ szR sz L := by
  have h1 := cntR_next sz L i h
  have h2 := cntR_le sz L (i + 1)
  have h3 : cntR sz L = sumN (L.map sz) := rfl
  unfold szR
  omega
theorem szR_len {α : Type} (sz : α → Nat) (L : List α) : L.length ≤ szR sz L := by unfold szR; omega
theorem mkR_at {α : Type} (mk : α → Int → α) (cnt : α → Nat) : ∀ (L : List α) (k : Int) (i : Nat) (h : i < L.length), (mkR mk cnt L k)[i]'(by rw [mkR_len]; exact h) = mk L[i] (k + cntR cnt (L.take i))
  | a :: r, k, 0, _ => by simp [mkR, cntR, sumN]
  | a :: r, k, i + 1, h => by
    have hi : i < r.length := by simpa using h
    have ih := mkR_at mk cnt r (k + cnt a) i hi
    have e : cntR cnt ((a :: r).take (i + 1)) = cnt a + cntR cnt (r.take i) := by simp [cntR, sumN]
    simp only [mkR, List.getElem_cons_succ, ih, e]
    congr 1
    omega
/-- So far marked. -/
def overR {α : Type} (mk : α → Int → α) (cnt : α → Nat) (L : List α) (k : Int) (i : Nat) : List α := mkR mk cnt (L.take i) k ++ L.drop i
theorem overR_len {α : Type} (mk : α → Int → α) (cnt : α → Nat) (L : List α) (k : Int) (i : Nat) (h : i ≤ L.length) : (overR mk cnt L k i).length = L.length := by
  unfold overR; rw [List.length_append, mkR_len, List.length_take, List.length_drop]; omega
theorem overR_at {α : Type} (mk : α → Int → α) (cnt : α → Nat) (L : List α) (k : Int) (i : Nat) (h : i < L.length) : (overR mk cnt L k i)[i]'(by rw [overR_len _ _ _ _ _ (by omega)]; exact h) = L[i] := by
  unfold overR
  rw [List.getElem_append_right (by rw [mkR_len, List.length_take]; omega)]
  simp only [mkR_len, List.length_take, List.getElem_drop]
  congr 1
  omega
theorem mkR_snoc {α : Type} (mk : α → Int → α) (cnt : α → Nat) : ∀ (A : List α) (b : α) (k : Int), mkR mk cnt (A ++ [b]) k = mkR mk cnt A k ++ [mk b (k + cntR cnt A)]
  | [], b, k => by simp [mkR, cntR, sumN]
  | a :: r, b, k => by
    rw [List.cons_append, mkR, mkR_snoc mk cnt r b, mkR, List.cons_append]
    have e : cntR cnt (a :: r) = cnt a + cntR cnt r := by simp [cntR, sumN]
    rw [e]
    congr 4
    omega
theorem overR_set {α : Type} (mk : α → Int → α) (cnt : α → Nat) (L : List α) (k : Int) (i : Nat) (h : i < L.length) : (overR mk cnt L k i).set i (mk L[i] (k + cntR cnt (L.take i))) = overR mk cnt L k (i + 1) := by
  unfold overR
  have hl : (mkR mk cnt (L.take i) k).length = i := by rw [mkR_len, List.length_take]; omega
  rw [List.set_append_right _ _ (by omega), hl, Nat.sub_self, List.drop_eq_getElem_cons h, List.set_cons_zero, List.take_succ_eq_append_getElem h, mkR_snoc, List.append_assoc]
  rfl
theorem overR_all {α : Type} (mk : α → Int → α) (cnt : α → Nat) (L : List α) (k : Int) : overR mk cnt L k L.length = mkR mk cnt L k := by unfold overR; rw [List.take_length, List.drop_length, List.append_nil]

/-- The numbers of a row. -/
def lenI (xs : List Int) : Nat := xs.length
def mkI (xs : List Int) (k : Int) : List Int := marks .i64 k xs.length

end Go.Proofs.Ytdhgfbdanijgaaa

namespace Go.Proofs.Ytdhgfbdanijgaaa
open Go.RowKit

end Go.Proofs.Ytdhgfbdanijgaaa

namespace Go.Proofs.Ytdhgfbdanijgaaa
open Go.RowKit

theorem ok1 : OwOk (OwI .i64 3) := OwI.ok .i64 3

end Go.Proofs.Ytdhgfbdanijgaaa

namespace Go.Proofs.Ytdhgfbdanijgaaa
open Go.RowKit

theorem infoIntSS : (Try.prog.info? 39).map (fun i => (i.zero, i.size, i.bytes)) = some (some (.slice none 0 0), 1, 24) := by kernel_rfl

abbrev Rd2 := RdR (RdI .i64)

abbrev Ow2 := OwR 39 (OwI .i64 3)

theorem st2 : StR Rd2 := RdR.st (RdI.st .i64)

theorem ok2 : OwOk Ow2 := OwR.ok ok1

theorem Ow2.rd {w : World} {v : Value} {L : List (List Int)} {F : List Nat} (h : Ow2 w v L F) : Rd2 w v L := OwR.rd (fun _ _ _ _ h => OwI.rd h) h

end Go.Proofs.Ytdhgfbdanijgaaa

namespace Go.Proofs.Ytdhgfbdanijgaaa
open Go.RowKit

end Go.Proofs.Ytdhgfbdanijgaaa

namespace Go.Proofs.Ytdhgfbdanijgaaa
open Go.RowKit

abbrev Rd3 := RdR Rd2

abbrev Ow3 := OwR 41 Ow2

theorem st3 : StR Rd3 := RdR.st st2

theorem ok3 : OwOk Ow3 := OwR.ok ok2

theorem Ow3.rd {w : World} {v : Value} {L : List (List (List Int))} {F : List Nat} (h : Ow3 w v L F) : Rd3 w v L := OwR.rd (fun _ _ _ _ h => Ow2.rd h) h

end Go.Proofs.Ytdhgfbdanijgaaa

namespace Go.Proofs.Ytdhgfbdanijgaaa
open Go.RowKit

def RdCo (w : World) (u : Value) (X : List (List (List Int))) : Prop := ∃ v, u = .agg #[v] ∧ Rd3 w v X
theorem RdCo.st : StR RdCo := fun _ _ _ _ ⟨v, e, h⟩ g => ⟨v, e, st3 _ _ _ _ h g⟩
def szCo (X : List (List (List Int))) : Nat := szR (szR lenI) X
def cntCo (X : List (List (List Int))) : Nat := cntR (cntR lenI) X
def mkCo (X : List (List (List Int))) (k : Int) : List (List (List Int)) := mkR (mkR mkI lenI) (cntR lenI) X k

def OwCo (w : World) (u : Value) (X : List (List (List Int))) (F : List Nat) : Prop := ∃ v, u = .agg #[v] ∧ Ow3 w v X F
theorem OwCo.rd {w : World} {u : Value} {X : List (List (List Int))} {F : List Nat} (h : OwCo w u X F) : RdCo w u X := by obtain ⟨v, e, h⟩ := h; exact ⟨v, e, Ow3.rd h⟩
theorem OwCo.same {w w' : World} {u : Value} {X : List (List (List Int))} {F : List Nat} (h : OwCo w u X F) (hs : ∀ g ∈ F, w'.heap[g]? = w.heap[g]?) : OwCo w' u X F := by obtain ⟨v, e, h⟩ := h; exact ⟨v, e, ok3.same _ _ _ _ _ h hs⟩
theorem OwCo.lt {w : World} {u : Value} {X : List (List (List Int))} {F : List Nat} (h : OwCo w u X F) : ∀ g ∈ F, g < w.heap.size := by obtain ⟨v, _, h⟩ := h; exact ok3.lt _ _ _ _ h
theorem OwCo.wr {w w' : World} {u : Value} {X : List (List (List Int))} {F G : List Nat} (h : OwCo w u X F) (g : Wr G w w') (hd : ∀ x ∈ F, x ∉ G) : OwCo w' u X F := h.same (fun x hx => g.block x (h.lt x hx) (hd x hx))
theorem OwCo.keep {w w' : World} {u : Value} {X : List (List (List Int))} {F : List Nat} (h : OwCo w u X F) (g : w.grownBy w' none) : OwCo w' u X F := h.wr (Wr.ofNone (F := []) g) (fun x _ => by simp)

def RdCz (w : World) (u : Value) (X : List (List (List Int))) : Prop := ∃ v, u = .agg #[v] ∧ RdZ (RdR (RdZ (RdR (RdZ (RdI .i64))))) w v X
theorem RdR.imp {α : Type} {P Q : World → Value → α → Prop} (h : ∀ w u a, P w u a → Q w u a) {w : World} {v : Value} {L : List α} (hp : RdR P w v L) : RdR Q w v L := by
  obtain ⟨ao, cap, e, hel⟩ := hp
  exact ⟨ao, cap, e, fun i hi => by obtain ⟨b, off, u, e1, c, p⟩ := hel i hi; exact ⟨b, off, u, e1, c, h _ _ _ p⟩⟩
theorem RdCz.rd {w : World} {u : Value} {X : List (List (List Int))} (h : RdCz w u X) : RdCo w u X := by
  obtain ⟨v, e, h⟩ := h
  exact ⟨v, e, RdR.imp (fun _ _ _ h => RdR.imp (fun _ _ _ h => h.1) h.1) h.1⟩

end Go.Proofs.Ytdhgfbdanijgaaa

namespace Go.Proofs.Ytdhgfbdanijgaaa
open Go.RowKit

theorem hid_at {wd ht : Int} {n : Nat} {C : Nat → Nat → Int} {c k bw : Nat} : hiddenI wd ht n C c ((k / bw : Nat) : Int) ((k % bw : Nat) : Int) = hidB bw (nwG wd n C c) (nhG ht n C c) k := by
  unfold hiddenI hidB
  congr 1
  · apply decide_eq_decide.2; omega
  · apply decide_eq_decide.2; omega
theorem all_range {f : Nat → Bool} (k : Nat) : (List.range (k + 1)).all f = ((List.range k).all f && f k) := by rw [List.range_succ, List.all_append]; simp
theorem all_range_no {f : Nat → Bool} {k n : Nat} (hk : k < n) (h : f k = false) : (List.range n).all f = false := by
  cases hx : (List.range n).all f with
  | false => rfl
  | true => rw [List.all_eq_true.1 hx k (List.mem_range.2 hk)] at h; exact h

end Go.Proofs.Ytdhgfbdanijgaaa

namespace Go.Proofs.Ytdhgfbdanijgaaa
open Go.RowKit

theorem info_i9 : (Try.prog.info? 3).map (fun i => (i.zero, i.size, i.bytes)) = some (some (.int .i64 0), 1, 8) := by kernel_rfl

theorem append_rdI {w : World} {ops : Array Oper} {rest : List Oper} {o : Oper} {a : Act} {Q : Exit → Act → World → Prop} (hgd : o.guard = none) (s x : Operand)
    (ho : o.op = .call { callee := .builtin .append, args := #[s, x], argTypes := #[39, 39] })
    (base : Nat) (v : Value) (xs : List Int) (hs : a.eval s = v) (hown : w.ownsRow base 3 1 v xs.length (xs.map (Value.int .i64)))
    (ad : Addr) (m c : Nat) (zs : List Int) (hx : a.eval x = .slice (some ad) m c) (hr : Rd .i64 w (some ad) m zs)
    (hb : xs.length + m ≤ 1000000) (hbase : base ≤ w.heap.size) (R : List Int) (hR : xs ++ zs = R)
    (h : ∀ v' w', w'.ownsRow base 3 1 v' R.length (R.map (Value.int .i64)) → w.grownBy w' v.ownBlock → wpList Try.prog ops Q rest (a.put o.dst v') w') :
    wpList Try.prog ops Q (o :: rest) a w := by
  subst hR
  obtain ⟨i0, hi, hz0, hz1, hz2⟩ := info_parts info_i9
  refine wpList_append_own _ hgd s x 39 ho base 3 i0 (.int .i64 0) 1 8 Try.underlying39 hi hz0 hz1 hz2 rfl (by decide) v xs.length _ hs hown ad m c (zs.map (Value.int .i64)) hx (by simp [hr.1]) (rd_newsI hr) ?_ (by unfold maxLen; omega) (by omega) hbase (fun v' w' h1 h2 _ => h v' w' (by rw [List.map_append, List.length_append, hr.1]; exact h1) h2)
  intro u hu
  obtain ⟨y, _, rfl⟩ := List.mem_map.1 hu
  rfl

end Go.Proofs.Ytdhgfbdanijgaaa

namespace Go.Proofs.Ytdhgfbdanijgaaa
open Go.RowKit

theorem ok_plane {wd ht : Int} {n : Nat} {C : Nat → Nat → Int} {X : List (List (List Int))} (h : coefsOkB wd ht n C X = true) (c : Nat) (hc : c < n) : ∃ hX : c < X.length, X[c].length = bwG wd n C c * bhG ht n C c ∧ ∀ k (hk : k < X[c].length), blockB (hidB (bwG wd n C c) (nwG wd n C c) (nhG ht n C c) k) X[c][k] = true := by
  unfold coefsOkB at h
  rw [Bool.and_eq_true] at h
  have hl : X.length = n := of_decide_eq_true h.1
  have hX : c < X.length := by omega
  have hp := List.all_eq_true.1 h.2 c (List.mem_range.2 hX)
  have e : X.getD c [] = X[c] := by simp [hX]
  rw [e] at hp
  unfold planeB at hp
  rw [Bool.and_eq_true] at hp
  refine ⟨hX, of_decide_eq_true hp.1, fun k hk => ?_⟩
  have hb := List.all_eq_true.1 hp.2 k (List.mem_range.2 hk)
  have e2 : X[c].getD k [] = X[c][k] := by simp [hk]
  rw [e2] at hb
  exact hb
theorem lev_len {lo hi : Int} {zs : List Int} (h : levB lo hi zs = true) : zs.length = 64 := by
  unfold levB at h
  rw [Bool.and_eq_true] at h
  exact of_decide_eq_true h.1
theorem block_len {hid : Bool} {zs : List Int} (h : blockB hid zs = true) : zs.length = 64 := by
  unfold blockB at h
  rw [Bool.and_eq_true] at h
  exact lev_len h.1
theorem place_in {wd ht : Int} {n : Nat} {C : Nat → Nat → Int} {co ro cl : Int} {k : Nat} (h : placeO wd ht n C co ro cl = some k) : ∃ c r l : Nat, co = (c : Int) ∧ ro = (r : Int) ∧ cl = (l : Int) ∧ c < n ∧ r < bhG ht n C c ∧ l < bwG wd n C c ∧ k = r * bwG wd n C c + l ∧ k < bwG wd n C c * bhG ht n C c := by
  unfold placeO at h
  split at h
  · rename_i h1
    obtain ⟨c, rfl⟩ := Int.eq_ofNat_of_zero_le h1.1
    rw [Int.toNat_natCast] at h
    split at h
    · rename_i h2
      obtain ⟨r, rfl⟩ := Int.eq_ofNat_of_zero_le h2.1.1
      obtain ⟨l, rfl⟩ := Int.eq_ofNat_of_zero_le h2.2.1
      rw [Int.toNat_natCast, Int.toNat_natCast] at h
      have hk : r * bwG wd n C c + l = k := Option.some.inj h
      have hr : r < bhG ht n C c := by omega
      have hl : l < bwG wd n C c := by omega
      refine ⟨c, r, l, rfl, rfl, rfl, by omega, hr, hl, hk.symm, ?_⟩
      have hm : (r + 1) * bwG wd n C c ≤ bhG ht n C c * bwG wd n C c := Nat.mul_le_mul_right _ hr
      rw [Nat.add_mul, Nat.one_mul] at hm
      rw [Nat.mul_comm (bwG wd n C c)]
      omega
    · cases h
  · cases h

end Go.Proofs.Ytdhgfbdanijgaaa

namespace Go.Proofs.Ytdhgfbdanijgaaa
open Go.RowKit

theorem sumN_le_coefgive {α : Type} (f : α → Nat) (b : Nat) : ∀ L : List α, (∀ a ∈ L, f a ≤ b) → sumN (L.map f) ≤ L.length * b
  | [], _ => by simp [sumN]
  | a :: r, h => by
    have h1 := h a (by simp)
    have h2 := sumN_le_coefgive f b r (fun x hx => h x (by simp [hx]))
    simp only [List.map_cons, sumN, List.length_cons, Nat.add_mul, Nat.one_mul]
    omega
theorem szR_le {α : Type} (sz : α → Nat) (b : Nat) (L : List α) (h : ∀ a ∈ L, sz a ≤ b) : szR sz L ≤ L.length * (b + 1) := by
  have := sumN_le_coefgive sz b L h
  unfold szR
  rw [Nat.mul_add, Nat.mul_one]
  omega
theorem sumN_mono {α : Type} {f g : α → Nat} (h : ∀ a, f a ≤ g a) : ∀ L : List α, sumN (L.map f) ≤ sumN (L.map g)
  | [] => Nat.le_refl _
  | a :: r => by simp only [List.map_cons, sumN]; have := h a; have := sumN_mono h r; omega
theorem cnt_sz (X : List (List (List Int))) : cntCo X ≤ szCo X := by
  have h1 : ∀ P : List (List Int), cntR lenI P ≤ szR lenI P := fun P => by unfold cntR szR; omega
  have h2 := sumN_mono h1 X
  unfold cntCo szCo
  unfold cntR at h2 ⊢
  unfold szR at h2 ⊢
  omega
/-- Few planes of few blocks of 64. -/
def Shape (X : List (List (List Int))) : Prop := X.length ≤ 4 ∧ ∀ P ∈ X, P.length ≤ 1089 ∧ ∀ B ∈ P, B.length ≤ 64
theorem shape_sz {X : List (List (List Int))} (h : Shape X) : szCo X ≤ 283144 := by
  have h1 : ∀ P ∈ X, szR lenI P ≤ 70785 := fun P hP => by
    have h2 := szR_le lenI 64 P (fun B hB => (h.2 P hP).2 B hB)
    have h3 := (h.2 P hP).1
    omega
  have h4 := szR_le (szR lenI) 70785 X h1
  have h5 := h.1
  unfold szCo
  omega
theorem up_33 {n d c : Int} (hn : 1 ≤ n ∧ n ≤ 256) (hd : 1 ≤ d ∧ d ≤ 4) (hc : 1 ≤ c ∧ c ≤ d) : upI n (8 * d) * c ≤ 33 := by
  have h0 := up_le32 hn hd
  have h1 : upI n (8 * d) * c ≤ upI n (8 * d) * d := Int.mul_le_mul_of_nonneg_left hc.2 (by omega)
  have h2 : upI n (8 * d) * d ≤ 33 := by
    unfold upI
    rw [Int.tdiv_eq_ediv_of_nonneg (by omega)]
    have : d = 1 ∨ d = 2 ∨ d = 3 ∨ d = 4 := by omega
    rcases this with rfl | rfl | rfl | rfl <;> omega
  omega
theorem dims33 {wd ht : Int} {n : Nat} {C : Nat → Nat → Int} (hg : Geo wd ht n C (mostA 1 C 1 n) (mostA 1 C 2 n)) (c : Nat) (hc : c < n) : bwG wd n C c * bhG ht n C c ≤ 1089 := by
  have h1 := up_33 hg.wd hg.hb ⟨(hg.ch c hc).1, mostA_at n c hc⟩
  have h2 := up_33 hg.ht hg.vb ⟨(hg.cv c hc).1, mostA_at n c hc⟩
  have d := dims_of hg c hc
  have e1 := d.bw
  have e2 := d.bh
  have h3 : bwG wd n C c ≤ 33 := by omega
  have h4 : bhG ht n C c ≤ 33 := by omega
  exact Nat.le_trans (Nat.mul_le_mul h3 h4) (by omega)
theorem shape_empty {p wd ht rs : Int} {n : Nat} {C : Nat → Nat → Int} {b : Bool} (hb : frameB p wd ht rs n C = b) : Shape (emptyF b wd ht n C) := by
  cases b with
  | false => exact ⟨by simp [emptyF], fun P hP => by simp [emptyF] at hP⟩
  | true =>
    have hg := geo_of hb
    have e : emptyF true wd ht n C = emptyG n (fun c => bwG wd n C c * bhG ht n C c) := rfl
    rw [e]
    refine ⟨by unfold emptyG; simp; exact hg.n4, fun P hP => ?_⟩
    unfold emptyG at hP
    obtain ⟨c, hc, rfl⟩ := List.mem_map.1 hP
    have hc' : c < n := by simpa using hc
    refine ⟨by simp; exact dims33 hg c hc', fun B hB => ?_⟩
    have := (List.mem_replicate.1 hB).2
    subst this
    unfold noughts
    simp
theorem shape_ok {p wd ht rs : Int} {n : Nat} {C : Nat → Nat → Int} {X : List (List (List Int))} (hb : frameB p wd ht rs n C = true) (h : coefsOkB wd ht n C X = true) : Shape X := by
  have hg := geo_of hb
  have h1 := h
  unfold coefsOkB at h1
  rw [Bool.and_eq_true] at h1
  have h2 : X.length = n := of_decide_eq_true h1.1
  have hn4 := hg.n4
  refine ⟨by omega, fun P hP => ?_⟩
  obtain ⟨c, hc, rfl⟩ := List.mem_iff_getElem.1 hP
  obtain ⟨_, h3, h4⟩ := ok_plane h c (by omega)
  refine ⟨by rw [h3]; exact dims33 hg c (by omega), fun B hB => ?_⟩
  obtain ⟨k, hk, rfl⟩ := List.mem_iff_getElem.1 hB
  rw [block_len (h4 k hk)]
  exact Nat.le_refl _
theorem shape_with {p wd ht rs : Int} {n : Nat} {C : Nat → Nat → Int} {b : Bool} (hb : frameB p wd ht rs n C = b) (X : List (List (List Int))) (co ro cl : Int) (bl : List Int) : Shape (withBlockF b wd ht n C X co ro cl bl) := by
  have hnil : Shape [] := ⟨by simp, fun P hP => by simp at hP⟩
  unfold withBlockF
  split
  · rename_i h
    rw [Bool.and_eq_true] at h
    obtain ⟨h1, h2⟩ := h
    unfold coefsOkF at h1
    rw [Bool.and_eq_true] at h1
    obtain ⟨hb1, h1⟩ := h1
    subst hb1
    have hs := shape_ok hb h1
    have hl := lev_len h2
    split
    · rename_i k hpl
      split
      · exact hnil
      · obtain ⟨c, r, l, rfl, rfl, rfl, hcn, -, -, -, -⟩ := place_in hpl
        obtain ⟨hX, _, _⟩ := ok_plane h1 c hcn
        have e : X.getD (c : Int).toNat [] = X[c] := by simp [hX]
        rw [e]
        refine ⟨by simpa using hs.1, fun P hP => ?_⟩
        rcases List.mem_or_eq_of_mem_set hP with hP | rfl
        · exact hs.2 P hP
        · have hc := hs.2 X[c] (List.getElem_mem hX)
          refine ⟨by simpa using hc.1, fun B hB => ?_⟩
          rcases List.mem_or_eq_of_mem_set hB with hB | rfl
          · exact hc.2 B hB
          · omega
    · exact hnil
  · exact hnil

def ImplCoefsOk : Prop := ∀ (p wd ht rs : Int) (ao : Option Addr) (n cap : Nat) (C : Nat → Nat → Int) (v : Value) (X : List (List (List Int))) (w : World), RdC w ao n C → n ≤ 4194304 → Rd3 w v X → szCo X ≤ 1048576 → ∀ (fb b : Bool), Hid (frameB p wd ht rs n C = fb) → Hid (coefsOkF fb wd ht n C X = b) →
    Calls Try.prog 9 #[.agg #[.int .i64 p, .int .i64 wd, .int .i64 ht, .int .i64 rs, .slice ao n cap], .agg #[v]] w fun e w' => e = .returned (.bool b) ∧ w.grownBy w' none

end Go.Proofs.Ytdhgfbdanijgaaa

namespace Go.Proofs.Ytdhgfbdanijgaaa
open Go.RowKit Go.Shelf

theorem grown_cells (g : Nat) : ∀ (vs : List Value) (o : Nat) (w : World), w.grownBy (w.setCells g o vs) (some g)
  | [], _, _ => World.grownBy.refl _ _
  | v :: r, o, w => by
    rw [World.setCells]
    exact grown_trans (grown_set w g o v) (grown_cells g r (o + 1) _)

/-- Blocks in a row of squares. -/
structure Th_gridrows (w : World) (g : Nat) (L : List (List Int)) : Prop where
  len : ∀ k, k < L.length → (L.getD k []).length = 64
  rd : ∀ k, k < L.length → w.rangeAt g (k * 64) ((L.getD k []).map (Value.int .i64))
  th : ∀ k, k < L.length → w.there g (k * 64) 64
  lies : ∃ o, w.heap[g]? = some o
theorem Th_gridrows.lt {w : World} {g : Nat} {L : List (List Int)} (h : Th_gridrows w g L) : g < w.heap.size := by
  obtain ⟨o, ho⟩ := h.lies
  exact (Array.getElem?_eq_some_iff.1 ho).1
theorem Th_gridrows.same {w w' : World} {g : Nat} {L : List (List Int)} (h : Th_gridrows w g L) (e : w'.heap[g]? = w.heap[g]?) : Th_gridrows w' g L := by
  refine ⟨h.len, fun k hk j v hv => ?_, fun k hk j hj => ?_, by rw [e]; exact h.lies⟩
  · have := h.rd k hk j v hv
    unfold World.cell? at this ⊢
    rw [e]
    exact this
  · have := h.th k hk j hj
    unfold World.cell? World.frozen? at this ⊢
    rw [e]
    exact this
theorem Th_gridrows.grown {w w' : World} {g : Nat} {L : List (List Int)} (h : Th_gridrows w g L) (hg : w.grownBy w' none) : Th_gridrows w' g L := h.same (hg.block g h.lt (by simp))
theorem Th_gridrows.put {w : World} {g : Nat} {L : List (List Int)} (h : Th_gridrows w g L) (k : Nat) (hk : k < L.length) (B : List Int) (hB : B.length = 64) : Th_gridrows (w.setCells g (k * 64) (B.map (Value.int .i64))) g (L.set k B) := by
  have hl : ∀ j, j < (L.set k B).length → ((L.set k B).getD j []).length = 64 := fun j hj => by
    rw [List.length_set] at hj
    by_cases e : k = j
    · subst e; simp [hk, hB]
    · have : (L.set k B).getD j [] = L.getD j [] := by simp [e]
      rw [this]; exact h.len j hj
  refine ⟨hl, fun j hj => ?_, fun j hj => ?_, ?_⟩
  · rw [List.length_set] at hj
    by_cases e : k = j
    · subst e
      have : (L.set k B).getD k [] = B := by simp [hk]
      rw [this]
      exact World.rangeAt_setCells_same w g (k * 64) _ (by rw [List.length_map, hB]; exact h.th k hk)
    · have : (L.set k B).getD j [] = L.getD j [] := by simp [e]
      rw [this]
      refine World.rangeAt_setCells_apart (h.rd j hj) g (k * 64) _ (.inr ?_)
      rw [List.length_map, List.length_map, h.len j hj, hB]
      omega
  · rw [List.length_set] at hj
    exact World.there_setCells (h.th j hj) g _ _
  · have hs : g < (w.setCells g (k * 64) (B.map (Value.int .i64))).heap.size := Nat.lt_of_lt_of_le h.lt (grown_cells g _ _ w).size
    exact ⟨_, Array.getElem?_eq_getElem hs⟩
/-- New blocks. -/
theorem Th_gridrows.made {w : World} {g cap n base : Nat} {xs : List Value} (h : w.ownsRow base 62 64 (.slice (some ⟨g, 0, none⟩) n cap) n xs) (hx : ∀ j, j < n * 64 → xs[j]? = some (.int .i64 0)) : Th_gridrows w g (List.replicate n noughts) := by
  have hc : ∀ j, j < n * 64 → w.cell? ⟨g, j, none⟩ = some (.int .i64 0) := fun j hj => by rw [h.cellAt j hj]; exact hx j hj
  have hr : ∀ k, k < (List.replicate n noughts).length → (List.replicate n noughts).getD k [] = noughts := fun k hk => by
    rw [List.length_replicate] at hk
    simp [hk]
  refine ⟨fun k hk => by rw [hr k hk]; simp [noughts], fun k hk j v hv => ?_, fun k hk j hj => ?_, ?_⟩
  · rw [hr k hk] at hv
    rw [List.length_replicate] at hk
    have hj : j < 64 := by
      have := (List.getElem?_eq_some_iff.1 hv).1
      simpa [noughts] using this
    obtain ⟨y, hy, rfl⟩ := List.mem_map.1 (List.mem_of_getElem? hv)
    have e : y = 0 := List.eq_of_mem_replicate hy
    subst e
    exact hc _ (by omega)
  · rw [List.length_replicate] at hk
    rw [hc _ (by omega)]
    exact ⟨rfl, h.frozenAt _⟩
  · have := (h.lt g rfl).2
    exact ⟨_, Array.getElem?_eq_getElem this⟩

/-- A grid: its sides, its blocks, and the block of memory that they lie in. -/
abbrev Gd := Nat × Nat × List (List Int)
def GrP (w : World) (c : Nat → Value) (x : Gd) (F : List Nat) : Prop := ∃ g cap, c 0 = .int .i64 (x.1 : Int) ∧ c 1 = .int .i64 (x.2.1 : Int) ∧ c 2 = .slice (some ⟨g, 0, none⟩) x.2.2.length cap ∧ Th_gridrows w g x.2.2 ∧ F = [g]
theorem GrP.ok : OkG GrP := by
  refine ⟨?_, ?_⟩
  · rintro w w' c x F ⟨g, cap, h0, h1, h2, ht, rfl⟩ hs
    exact ⟨g, cap, h0, h1, h2, ht.same (hs g (by simp)), rfl⟩
  · rintro w c x F ⟨g, cap, h0, h1, h2, ht, rfl⟩ k hk
    simp at hk
    subst hk
    exact ht.lt

end Go.Proofs.Ytdhgfbdanijgaaa
