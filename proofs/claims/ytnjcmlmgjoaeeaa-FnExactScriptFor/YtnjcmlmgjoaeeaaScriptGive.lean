/-
  Scripts: what the program's own functions are to give, how much there is in a script, and what came into the laws.
-/
import Derived.Test.YtnjcmlmgjoaeeaaScriptPure
import Derived.Test.YtnjcmlmgjoaeeaaScriptMath
import Derived.Test.YtnjcmlmgjoaeeaaFrameBox
import Derived.Test.YtnjcmlmgjoaeeaaScanSz
import Derived.Test.YtnjcmlmgjoaeeaaScanHeld
import Derived.Test.YtnjcmlmgjoaeeaaScanTo
import Derived.Test.YtnjcmlmgjoaeeaaDeepI2
import Derived.Test.YtnjcmlmgjoaeeaaFrameLaws
namespace Go.Proofs.Ytnjcmlmgjoaeeaa
open Go.RowKit

theorem sumN_in {α : Type} (f : α → Nat) : ∀ (L : List α) (a : α), a ∈ L → f a ≤ sumN (L.map f)
  | [], a, h => by simp at h
  | b :: L, a, h => by
    simp only [List.map_cons, sumN]
    rcases List.mem_cons.1 h with rfl | h
    · omega
    · have := sumN_in f L a h
      omega
/-- Each scan of a script that is not too great. -/
theorem sz_scan {S : List Scn} {b : Nat} (h : szR szSc S ≤ b) : ∀ a ∈ S, a.cs.length ≤ b := fun a ha => by
  have h1 := sumN_in szSc S a ha
  unfold szR at h
  have h2 : szSc a = a.cs.length := rfl
  omega
theorem sumN_top {α : Type} (f : α → Nat) (b : Nat) : ∀ L : List α, (∀ a ∈ L, f a ≤ b) → sumN (L.map f) ≤ L.length * b
  | [], _ => by simp [sumN]
  | a :: r, h => by
    have h1 := h a (by simp)
    have h2 := sumN_top f b r (fun x hx => h x (by simp [hx]))
    simp only [List.map_cons, sumN, List.length_cons, Nat.add_mul, Nat.one_mul]
    omega
theorem sz_left {fb : Bool} {n : Nat} {S : List Scn} {C : Nat → Nat → Int} {p wd ht rs : Int} (HFB : frameB p wd ht rs n C = fb) : szR lenI (leftG fb n S) ≤ 1000 := by
  have h : (leftG fb n S).length ≤ 4 ∧ ∀ r ∈ leftG fb n S, lenI r ≤ 64 := by
    unfold leftG
    cases h : leftO fb n S with
    | none => exact ⟨by simp, fun r hr => by simp at hr⟩
    | some X =>
      have h64 := leftO_rows h
      have hfb : fb = true := by
        unfold leftO at h
        cases fb with
        | true => rfl
        | false => simp at h
      subst hfb
      refine ⟨by show X.length ≤ 4; rw [h64.1]; exact (geo_of HFB).n4, fun r hr => ?_⟩
      obtain ⟨c, hc, rfl⟩ := List.mem_iff_getElem.1 (show r ∈ X from hr)
      have e : X.getD c [] = X[c] := by simp [hc]
      have := h64.2 c (by rw [← h64.1]; exact hc)
      rw [e] at this
      show X[c].length ≤ 64
      omega
  have h1 := sumN_top lenI 64 (leftG fb n S) h.2
  have h2 := h.1
  unfold szR
  omega
theorem cnt_szR {α : Type} (f g : α → Nat) (h : ∀ a, f a ≤ g a) : ∀ L : List α, sumN (L.map f) ≤ sumN (L.map g)
  | [] => Nat.le_refl _
  | a :: r => by simp only [List.map_cons, sumN]; have := h a; have := cnt_szR f g h r; omega
theorem sz_script {fb : Bool} {n : Nat} {kind : Int} {C : Nat → Nat → Int} {p wd ht rs : Int} (HFB : frameB p wd ht rs n C = fb) : szR szSc (scriptG fb n kind) ≤ 1000 := by
  cases fb with
  | false => exact Nat.zero_le _
  | true =>
    have h4 := (geo_of HFB).n4
    have hn : n = 0 ∨ n = 1 ∨ n = 2 ∨ n = 3 ∨ n = 4 := by omega
    by_cases h0 : kind = 0
    · subst h0; rcases hn with rfl | rfl | rfl | rfl | rfl <;> decide
    · by_cases h1 : kind = 1
      · subst h1; rcases hn with rfl | rfl | rfl | rfl | rfl <;> decide
      · by_cases h2 : kind = 2
        · subst h2; rcases hn with rfl | rfl | rfl | rfl | rfl <;> decide
        · have e : scriptG true n kind = [] := by unfold scriptG; rw [if_pos rfl, if_neg h0, if_neg h1, if_neg h2]
          rw [e]
          exact Nat.zero_le _

theorem cnt_scans (S : List Scn) : cntR cntSc S ≤ 4 * szR szSc S := by
  have h : ∀ L : List Scn, sumN (L.map cntSc) ≤ 4 * (sumN (L.map szSc) + L.length) := fun L => by
    induction L with
    | nil => simp [sumN]
    | cons a r ih =>
      simp only [List.map_cons, sumN, List.length_cons]
      have e : cntSc a = szSc a + 4 := rfl
      omega
  have := h S
  unfold cntR szR
  omega
theorem RdSsZ.st {w w' : World} {v : Value} {L : List Scn} (h : RdSsZ w v L) (g : w.grownBy w' none) : RdSsZ w' v L :=
  ⟨RdG.st (fun _ _ _ _ h g => ⟨h.1, RdI.st .i64 _ _ _ _ h.2.1 g, h.2.2⟩) _ _ _ _ h.1 g, h.2⟩

def ImplScanOk : Prop := ∀ (p wd ht rs : Int) (fo : Option Addr) (n fc : Nat) (C : Nat → Nat → Int) (vo : Option Addr) (vn vc : Nat) (a : Scn) (w : World), RdC w fo n C → n ≤ 4194304 → Rd .i64 w vo vn a.cs → vn ≤ 1048576 → ∀ (fb t : Bool), Hid (frameB p wd ht rs n C = fb) → Hid (scanB fb n a = t) →
    Calls Try.prog 23 #[.agg #[.int .i64 p, .int .i64 wd, .int .i64 ht, .int .i64 rs, .slice fo n fc], .agg #[.slice vo vn vc, .int .i64 a.fr, .int .i64 a.to, .int .i64 a.hi, .int .i64 a.lo]] w fun e w' => e = .returned (.bool t) ∧ w.grownBy w' none

def ImplLeft : Prop := ∀ (p wd ht rs : Int) (fo : Option Addr) (n fc : Nat) (C : Nat → Nat → Int) (v : Value) (S : List Scn) (w : World), RdC w fo n C → n ≤ 4194304 → RdSs w v S → szR szSc S ≤ 1048576 → ∀ (fb : Bool), Hid (frameB p wd ht rs n C = fb) → ∀ (L : List (List Int)), Hid (leftG fb n S = L) →
    Calls Try.prog 15 #[.agg #[.int .i64 p, .int .i64 wd, .int .i64 ht, .int .i64 rs, .slice fo n fc], v] w fun e w' => ∃ u F, e = .returned u ∧ Ow2 w' u L F ∧ F.Nodup ∧ (∀ g ∈ F, w.heap.size ≤ g) ∧ w.grownBy w' none

def ImplScriptOk : Prop := ∀ (p wd ht rs : Int) (fo : Option Addr) (n fc : Nat) (C : Nat → Nat → Int) (v : Value) (S : List Scn) (w : World), RdC w fo n C → n ≤ 4194304 → RdSs w v S → szR szSc S ≤ 1048576 → ∀ (fb t : Bool), Hid (frameB p wd ht rs n C = fb) → Hid (scriptB fb n S = t) →
    Calls Try.prog 14 #[.agg #[.int .i64 p, .int .i64 wd, .int .i64 ht, .int .i64 rs, .slice fo n fc], v] w fun e w' => e = .returned (.bool t) ∧ w.grownBy w' none

def ImplScript : Prop := ∀ (p wd ht rs : Int) (fo : Option Addr) (n fc : Nat) (C : Nat → Nat → Int) (kind : Int) (w : World), RdC w fo n C → n ≤ 4194304 → ∀ (fb : Bool), Hid (frameB p wd ht rs n C = fb) → ∀ (L : List Scn), Hid (scriptG fb n kind = L) →
    Calls Try.prog 10 #[.agg #[.int .i64 p, .int .i64 wd, .int .i64 ht, .int .i64 rs, .slice fo n fc], .int .i64 kind] w fun e w' => ∃ u F, e = .returned u ∧ OwSs w' u L F ∧ F.Nodup ∧ (∀ g ∈ F, w.heap.size ≤ g) ∧ w.grownBy w' none

/-- A frame that came in, in its box. -/
structure In1 (w W : World) (bs : Array Value) : Prop where
  fb : W.heap[w.heap.size]? = some (.cells bs 42 (0, 0))
  grown : w.grownBy W none
theorem In1.new {w W W' : World} {bs : Array Value} (h : In1 w W bs) (g : W.grownBy W' none) : In1 w W' bs := ⟨grown_atT g h.fb (by simp), grown_trans h.grown g⟩
theorem In1.size {w W : World} {bs : Array Value} (h : In1 w W bs) : w.heap.size + 1 ≤ W.heap.size := (Array.getElem?_eq_some_iff.1 h.fb).1
theorem In1.wr {w W W' : World} {bs : Array Value} {F : List Nat} (h : In1 w W bs) (g : Wr F W W') (hF : ∀ x ∈ F, w.heap.size + 1 ≤ x) : In1 w W' bs :=
  ⟨(g.block _ h.size (fun e => by have := hF _ e; omega)).trans h.fb, Wr.new h.grown g (fun x hx => by have := hF x hx; omega)⟩
theorem In1.start (w : World) (bs : Array Value) : In1 w (w.alloc (.cells bs 42)) bs := ⟨heap_alloc_new w _, World.grownBy_alloc _ _ _⟩

end Go.Proofs.Ytnjcmlmgjoaeeaa
