/-
  ScanOk, in the specification.
-/
import Derived.Test.YtnjcmlmgjoaeeaaScanRows
import Derived.Test.YtnjcmlmgjoaeeaaGeoCompsS
import Derived.Test.YtnjcmlmgjoaeeaaFrameSpec
import Derived.Test.YtnjcmlmgjoaeeaaBetween
namespace Go.Proofs.Ytnjcmlmgjoaeeaa
open Go.RowKit

def passB (a : Scn) : Bool := decide (0 ≤ a.fr ∧ a.fr ≤ a.to) && decide (a.to ≤ 63) && decide (0 ≤ a.lo ∧ a.lo ≤ 13) && (decide (a.hi = 0) || decide (a.hi = a.lo + 1))
def scanB (fb : Bool) (n : Nat) (a : Scn) : Bool := fb && okComps n a.cs && passB a

set_option maxHeartbeats 1600000 in
theorem specBits (w : World) (vo : Option Addr) (vn vc : Nat) (a : Scn) (t : Bool) (HT : Hid (passB a = t)) :
    Calls Try.prog 55 #[.agg #[.slice vo vn vc, .int .i64 a.fr, .int .i64 a.to, .int .i64 a.hi, .int .i64 a.lo]] w fun e w' => e = .returned (.bool t) ∧ w.grownBy w' none := by
  obtain ⟨cs, fr, to, hi, lo⟩ := a
  dsimp only
  have hp := unhide HT
  unfold passB at hp
  dsimp only at hp
  have HG0 : Hid (w.grownBy (w.alloc (.cells #[.slice vo vn vc, .int .i64 fr, .int .i64 to, .int .i64 hi, .int .i64 lo] 38)) none) := World.grownBy_alloc _ _ _
  obtain ⟨c0, c1, c2, c3, c4⟩ := scanCells (heap_alloc_new w (.cells #[.slice vo vn vc, .int .i64 fr, .int .i64 to, .int .i64 hi, .int .i64 lo] 38))
  obtain ⟨b1, HB1⟩ : ∃ b, Hid (decide (0 ≤ fr ∧ fr ≤ to) = b) := ⟨_, rfl⟩
  obtain ⟨b2, HB2⟩ : ∃ b, Hid (decide (to ≤ 63) = b) := ⟨_, rfl⟩
  obtain ⟨b3, HB3⟩ : ∃ b, Hid (decide (0 ≤ lo ∧ lo ≤ 13) = b) := ⟨_, rfl⟩
  rw [unhide HB1, unhide HB2, unhide HB3] at hp
  have h2 := unhide HB2
  clear HT
  go_enter Try.func55, Try.ntmps55
  go_wp2_with fail
  refine (between fr 0 to b1 HB1 _).mono ?_
  rintro e w1 ⟨rfl, rfl⟩
  cases b1 with
  | false =>
    have e : t = false := by rw [← hp]; rfl
    subst e
    go_wp2
    go_ret
    exact ⟨rfl, unhide HG0⟩
  | true =>
    cases b2 with
    | false =>
      have e : t = false := by rw [← hp]; rfl
      subst e
      go_wp2
      go_ret
      exact ⟨rfl, unhide HG0⟩
    | true =>
      go_wp2_with fail
      refine (between lo 0 13 b3 HB3 _).mono ?_
      rintro e w1 ⟨rfl, rfl⟩
      cases b3 with
      | false =>
        have e : t = false := by rw [← hp]; rfl
        subst e
        go_wp2
        go_ret
        exact ⟨rfl, unhide HG0⟩
      | true =>
        have hlo := of_decide_eq_true (unhide HB3)
        have e1 := i64_in (lo + 1) (by omega)
        have hp2 : (decide (hi = 0) || decide (hi = lo + 1)) = t := hp
        by_cases h0 : hi = 0
        · have n0 : (hi == 0) = true := by simp [h0]
          have e : t = true := by rw [← hp2, decide_eq_true h0]; rfl
          subst e
          clear h0 hp hp2
          go_wp2
          go_ret
          exact ⟨rfl, unhide HG0⟩
        · have n0 : (hi == 0) = false := by simp [h0]
          obtain ⟨t2, ht2⟩ : ∃ t2, (hi == lo + 1) = t2 := ⟨_, rfl⟩
          have e : t = t2 := by
            rw [← hp2, decide_eq_false h0, ← ht2]
            by_cases h1 : hi = lo + 1
            · simp [h1]
            · simp [h1]
          subst e
          clear h0 hp hp2
          go_wp2
          go_ret
          exact ⟨rfl, unhide HG0⟩

set_option maxRecDepth 20000 in
set_option maxHeartbeats 1600000 in
theorem specScanOk (p wd ht rs : Int) (fo : Option Addr) (n fc : Nat) (C : Nat → Nat → Int) (w : World) (hr : RdC w fo n C) (hn : n ≤ 4194304) (vo : Option Addr) (vn vc : Nat) (a : Scn) (hv : Rd .i64 w vo vn a.cs) (hvn : vn ≤ 4194304) (fb t : Bool) (HFB : Hid (frameB p wd ht rs n C = fb)) (HT : Hid (scanB fb n a = t)) :
    Calls Try.prog 20 #[.agg #[.int .i64 p, .int .i64 wd, .int .i64 ht, .int .i64 rs, .slice fo n fc], .agg #[.slice vo vn vc, .int .i64 a.fr, .int .i64 a.to, .int .i64 a.hi, .int .i64 a.lo]] w fun e w' => e = .returned (.bool t) ∧ w.grownBy w' none := by
  have hp := unhide HT
  unfold scanB at hp
  obtain ⟨b2, HB2⟩ : ∃ b, Hid (okComps n a.cs = b) := ⟨_, rfl⟩
  obtain ⟨b3, HB3⟩ : ∃ b, Hid (passB a = b) := ⟨_, rfl⟩
  have HBITS := hide (fun W => specBits W vo vn vc a b3 HB3)
  have HCOMP := hide (fun W (g : w.grownBy W none) => specComps p wd ht rs fo n fc hn vo vn vc a.cs W (hv.grown g) hvn)
  rw [unhide HB2, unhide HB3] at hp
  rw [unhide HB2] at HCOMP
  obtain ⟨cs, fr, to, hi, lo⟩ := a
  dsimp only at hv HBITS ⊢
  obtain ⟨W2, HW2⟩ : ∃ W2, Hid ((w.alloc (.cells #[.int .i64 p, .int .i64 wd, .int .i64 ht, .int .i64 rs, .slice fo n fc] 26)).alloc (.cells #[.slice vo vn vc, .int .i64 fr, .int .i64 to, .int .i64 hi, .int .i64 lo] 38) = W2) := ⟨_, rfl⟩
  have G0 : w.grownBy W2 none := by rw [← unhide HW2]; exact grown_alloc (grown_alloc (World.grownBy.refl _ _) _) _
  have B0 : W2.heap[w.heap.size]? = some (.cells #[.int .i64 p, .int .i64 wd, .int .i64 ht, .int .i64 rs, .slice fo n fc] 26 (0, 0)) := by
    rw [← unhide HW2]
    exact at_rowS (World.grownBy_alloc _ _ none) (heap_alloc_new w _) (by simp)
  have B1 : W2.heap[w.heap.size + 1]? = some (.cells #[.slice vo vn vc, .int .i64 fr, .int .i64 to, .int .i64 hi, .int .i64 lo] 38 (0, 0)) := by
    rw [← unhide HW2]
    have := heap_alloc_new (w.alloc (.cells #[.int .i64 p, .int .i64 wd, .int .i64 ht, .int .i64 rs, .slice fo n fc] 26)) (.cells #[.slice vo vn vc, .int .i64 fr, .int .i64 to, .int .i64 hi, .int .i64 lo] 38)
    simpa using this
  have HFR := hide (specFrameOk p wd ht rs fo n fc C W2 (hr.grown G0) fb HFB)
  have HB0 := hide B0
  have HB1 := hide B1
  have HG0 := hide G0
  rw [← unhide HW2] at B0
  obtain ⟨f0, f1, f2, f3, f4⟩ := frameCells' B0
  clear hr hv G0 B0 B1 HT
  go_enter Try.func20, Try.ntmps20
  go_wp2_with fail
  rw [unhide HW2]
  clear HW2 f0 f1 f2 f3 f4
  refine (unhide HFR).mono ?_
  rintro e w3 ⟨rfl, g3⟩
  have HG3 := hide (grown_trans (unhide HG0) g3)
  have hA := at_rowS g3 (unhide HB0) (by simp)
  have hB := at_rowS g3 (unhide HB1) (by simp)
  cases fb with
  | false =>
    have e : t = false := by rw [← hp]; rfl
    subst e
    go_wp2
    go_ret
    exact ⟨rfl, unhide HG3⟩
  | true =>
    obtain ⟨f0, f1, f2, f3, f4⟩ := frameCells' hA
    obtain ⟨c0, c1, c2, c3, c4⟩ := scanCells hB
    have HHB := hide hB
    clear hA hB g3 HB0 HB1 HG0 HFR
    go_wp2_with fail
    refine (unhide HCOMP w3 (unhide HG3)).mono ?_
    rintro e w4 ⟨rfl, g4⟩
    have HG4 := hide (grown_trans (unhide HG3) g4)
    have hB4 := at_rowS g4 (unhide HHB) (by simp)
    clear f0 f1 f2 f3 f4 c0 c1 c2 c3 c4
    cases b2 with
    | false =>
      have e : t = false := by rw [← hp]; rfl
      subst e
      go_wp2
      go_ret
      exact ⟨rfl, unhide HG4⟩
    | true =>
      have e : t = b3 := by rw [← hp]; rfl
      subst e
      obtain ⟨c0, c1, c2, c3, c4⟩ := scanCells hB4
      clear hB4 g4 HHB HCOMP HG3
      go_wp2_with fail
      refine (unhide HBITS w4).mono ?_
      rintro e w5 ⟨rfl, g5⟩
      have HG5 := hide (grown_trans (unhide HG4) g5)
      clear g5 c0 c1 c2 c3 c4
      go_wp2
      go_ret
      exact ⟨rfl, unhide HG5⟩

end Go.Proofs.Ytnjcmlmgjoaeeaa
