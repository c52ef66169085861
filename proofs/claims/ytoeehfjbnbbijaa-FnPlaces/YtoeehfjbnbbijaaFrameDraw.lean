/-
  The walk of what draws a frame from a code.
-/
import Derived.Test.YtoeehfjbnbbijaaSpoil
import Derived.Test.YtoeehfjbnbbijaaFrameRows
import Derived.Test.YtoeehfjbnbbijaaFrameRead
import Derived.Test.YtoeehfjbnbbijaaRegionInv
namespace Go.Proofs.Ytoeehfjbnbbijaa
open Go.RowKit

/-- Where an operation of the first region leaves what it yields. -/
def slotD (j : Nat) : Nat := if j = 17 then 3 else j + 7
def updD (v : Nat → Value) (d : Nat) (x : Value) : Nat → Value := fun i => if i = d then x else v i
def LitD (base : Nat) (w : World) (v : Value) (k : Nat) : Prop := ∃ (g : Nat) (cs : List Int), v = .slice (some ⟨g, 0, none⟩) k k ∧ cs.length = k ∧ w.heap[g]? = some (.cells (cs.map (Value.int .i64)).toArray 3 (0, 0)) ∧ base ≤ g
def PtrD (base : Nat) (w : World) (v : Value) : Prop := ∃ (g i : Nat) (y : Int), v = .pointer (some ⟨g, i, none⟩) ∧ w.cell? ⟨g, i, none⟩ = some (.int .i64 y) ∧ base ≤ g
def IntD (v : Value) : Prop := ∃ y : Int, v = .int .i64 y
def LowD (v : Value) (k : Nat) : Prop := ∃ i : Nat, v = .int .i64 i ∧ i < k
def FraD (base : Nat) (w : World) (v : Value) : Prop := ∃ (g : Nat) (p wd ht rs : Int), v = .pointer (some ⟨g, 0, none⟩) ∧ w.heap[g]? = some (.cells #[.int .i64 p, .int .i64 wd, .int .i64 ht, .int .i64 rs, .slice none 0 0] 40 (0, 0)) ∧ base ≤ g
/-- What an operation of the first region yields. -/
def yieldD (tb base : Nat) (w : World) (v : Value) : Nat → Prop
  | 0 => LitD base w v 3
  | 2 => LowD v 3
  | 3 => PtrD base w v
  | 11 => LitD base w v 5
  | 13 => LowD v 5
  | 14 => PtrD base w v
  | 1 => v = .pointer (some ⟨tb, 0, none⟩)
  | 5 => v = .pointer (some ⟨tb, 0, none⟩)
  | 8 => v = .pointer (some ⟨tb, 0, none⟩)
  | 12 => v = .pointer (some ⟨tb, 0, none⟩)
  | 16 => ∃ p wd ht rs : Int, v = .agg #[.int .i64 p, .int .i64 wd, .int .i64 ht, .int .i64 rs, .slice none 0 0]
  | 17 => FraD base w v
  | _ => IntD v

theorem yieldD_mono {tb base : Nat} {w w' : World} {v : Value} {j : Nat} (htb : tb < base) (hg : w.grownBy w' (some tb)) (h : yieldD tb base w v j) : yieldD tb base w' v j := by
  have lit : ∀ k, LitD base w v k → LitD base w' v k := fun k ⟨g, cs, e, hl, hb, hge⟩ => ⟨g, cs, e, hl, (hg.block g (Array.getElem?_eq_some_iff.1 hb).1 (by simp; omega)).trans hb, hge⟩
  have ptr : PtrD base w v → PtrD base w' v := fun ⟨g, i, y, e, hc, hge⟩ => ⟨g, i, y, e, hg.cell hc (by simp; omega), hge⟩
  have fra : FraD base w v → FraD base w' v := fun ⟨g, p, wd, ht, rs, e, hb, hge⟩ => ⟨g, p, wd, ht, rs, e, (hg.block g (Array.getElem?_eq_some_iff.1 hb).1 (by simp; omega)).trans hb, hge⟩
  unfold yieldD at h ⊢
  split at h <;> first | exact lit _ h | exact ptr h | exact fra h | exact h

def actD (tb rb : Nat) (v : Nat → Value) : Act := { tmps := #[.pointer (some ⟨tb, 0, none⟩), undef, .pointer (some ⟨rb, 0, none⟩), v 3, undef, undef, undef, v 7, v 8, v 9, v 10, v 11, v 12, v 13, v 14, v 15, v 16, v 17, v 18, v 19, v 20, v 21, v 22, v 23, undef, undef, undef, undef, undef, undef, undef, undef, undef, undef, undef, undef, undef, undef, undef, undef, undef, undef, undef, undef, undef, undef, undef, undef, undef, undef, undef, undef, undef, undef, undef, undef, undef, undef, undef, undef, undef, undef, undef, undef, undef, undef, undef, undef, undef, undef, undef, undef], defers := [] }

theorem grown_weak {w w' : World} {row : Option Nat} (h : w.grownBy w' none) : w.grownBy w' row :=
  ⟨h.os, h.tape, h.output, h.size, fun k hk _ => h.block k hk (by simp)⟩

theorem getD_set {listed : Array Bool} {i k : Nat} (hi : i < listed.size) : (listed.setIfInBounds i true).getD k false = if k = i then true else listed.getD k false := by
  rw [Array.getD_eq_getD_getElem?, Array.getElem?_setIfInBounds, Array.getD_eq_getD_getElem?]
  by_cases e : i = k
  · subst e; simp [hi]
  · rw [if_neg e, if_neg (fun h => e h.symm)]
/-- Twice how many picks are done. -/
def cntD (listed : Array Bool) : Nat := 2 * ((listed.getD 2 false).toNat + (listed.getD 6 false).toNat + (listed.getD 9 false).toNat + (listed.getD 13 false).toNat)
theorem cntD_le (listed : Array Bool) : cntD listed ≤ 8 := by
  unfold cntD
  cases listed.getD 2 false <;> cases listed.getD 6 false <;> cases listed.getD 9 false <;> cases listed.getD 13 false <;> simp
theorem cntD_mono {listed : Array Bool} {k : Nat} (hi : k < listed.size) : cntD listed ≤ cntD (listed.setIfInBounds k true) := by
  unfold cntD
  have : ∀ m, (listed.getD m false).toNat ≤ ((listed.setIfInBounds k true).getD m false).toNat := fun m => by
    rw [getD_set hi]; split
    · cases listed.getD m false <;> simp
    · exact Nat.le_refl _
  have h1 := this 2
  have h2 := this 6
  have h3 := this 9
  have h4 := this 13
  omega
theorem cntD_pick {listed : Array Bool} {k : Nat} (hi : k < listed.size) (hnd : ¬ doneAt listed k) (hp : k = 2 ∨ k = 6 ∨ k = 9 ∨ k = 13) : cntD (listed.setIfInBounds k true) = cntD listed + 2 := by
  have hf : listed.getD k false = false := by simpa [doneAt] using hnd
  unfold cntD
  rcases hp with rfl | rfl | rfl | rfl <;> simp only [getD_set hi, hf] <;> simp <;> omega

/-- What holds while the first region goes. -/
def InvD (tb base : Nat) (ao : Option Addr) (n cap p : Nat) (zs : List Int) (wx : World) (v : Nat → Value) (listed : Array Bool) (w : World) : Prop :=
  wx.grownBy w (some tb) ∧ (∃ q, Cur w tb ao n cap zs q ∧ q ≤ p + cntD listed) ∧
    ((doneAt listed 18 ∧ FraD base w (v 3) ∧ ∀ j, j ≤ 17 → doneAt listed j) ∨ ∀ j, j ≤ 17 → doneAt listed j → yieldD tb base w (v (slotD j)) j)

theorem InvD.have {tb base : Nat} {ao : Option Addr} {n cap p : Nat} {zs : List Int} {wx : World} {v : Nat → Value} {listed : Array Bool} {w : World} (h : InvD tb base ao n cap p zs wx v listed w) {k : Nat} (hk : k ≤ 17) (hnd : ¬ doneAt listed k) : ∀ j, j ≤ 17 → doneAt listed j → yieldD tb base w (v (slotD j)) j := by
  rcases h.2.2 with ⟨_, _, h3⟩ | h3
  · exact absurd (h3 k hk) hnd
  · exact h3

theorem InvD.facts {tb base : Nat} {w w' : World} {v : Nat → Value} {listed : Array Bool} {k : Nat} (h3 : ∀ j, j ≤ 17 → doneAt listed j → yieldD tb base w (v (slotD j)) j) (hk : k ≤ 17) (hi : k < listed.size) (htb : tb < base) (hg : w.grownBy w' (some tb)) {x : Value} (hx : yieldD tb base w' x k) :
    ∀ j, j ≤ 17 → doneAt (listed.setIfInBounds k true) j → yieldD tb base w' (updD v (slotD k) x (slotD j)) j := by
  intro j hj hd
  by_cases e : j = k
  · subst e
    simp only [updD, if_pos]
    exact hx
  · have hd' : doneAt listed j := by rcases (doneAt_set hi).1 hd with h | h; exact absurd h e; exact h
    have hne : slotD j ≠ slotD k := by unfold slotD; split <;> split <;> omega
    simp only [updD, if_neg hne]
    exact yieldD_mono htb hg (h3 j hj hd')

/-- A step that leaves the cursor. -/
theorem InvD.step {tb base : Nat} {ao : Option Addr} {n cap p : Nat} {zs : List Int} {wx : World} {v : Nat → Value} {listed : Array Bool} {w w' : World} (h : InvD tb base ao n cap p zs wx v listed w) {k : Nat} (hk : k ≤ 17) (hi : k < listed.size) (hnd : ¬ doneAt listed k)
    (htb : tb < base) (hg : w.grownBy w' none) {x : Value} (hx : yieldD tb base w' x k) : InvD tb base ao n cap p zs wx (updD v (slotD k) x) (listed.setIfInBounds k true) w' := by
  have h3 := h.have hk hnd
  obtain ⟨h1, ⟨q, hc, q0⟩, _⟩ := h
  exact ⟨grown_tb h1 hg (fun g e => by simp at e), ⟨q, hc.grown hg, by have := cntD_mono hi; omega⟩, .inr (InvD.facts h3 hk hi htb (grown_weak hg) hx)⟩

/-- A step that picks. -/
theorem InvD.pick {tb base : Nat} {ao : Option Addr} {n cap p q q' : Nat} {zs : List Int} {wx : World} {v : Nat → Value} {listed : Array Bool} {w w' : World} (h : InvD tb base ao n cap p zs wx v listed w) {k : Nat} (hk : k = 2 ∨ k = 6 ∨ k = 9 ∨ k = 13) (hi : k < listed.size) (hnd : ¬ doneAt listed k)
    (htb : tb < base) (hg : w.grownBy w' (some tb)) {x : Value} (hx : yieldD tb base w' x k) (hc' : Cur w' tb ao n cap zs q') (hq : q ≤ p + cntD listed) (hq' : q' ≤ q + 2) :
    InvD tb base ao n cap p zs wx (updD v (slotD k) x) (listed.setIfInBounds k true) w' := by
  have h3 := h.have (k := k) (by omega) hnd
  exact ⟨grown_trans h.1 hg, ⟨q', hc', by rw [cntD_pick hi hnd hk]; omega⟩, .inr (InvD.facts h3 (by omega) hi htb hg hx)⟩

end Go.Proofs.Ytoeehfjbnbbijaa
