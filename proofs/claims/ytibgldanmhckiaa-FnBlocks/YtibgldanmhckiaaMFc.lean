/-
  CoefSpec, DeepC, HeldTail, QuietLast, HeldLast, IntSSD, IntSSSD, IntRows, DeepI0, DeepI2, DeepI.
-/
import Derived.Test.YtibgldanmhckiaaRows
import Derived.OrdersHeld
import Derived.Deep.RegionHeld
import Derived.Deep.Quiet
import Derived.BigQuiet
import Derived.Deep.QuietTactic
import Derived.Deep.RegionHeld3
import Derived.Test.YtibgldanmhckiaaMFb

namespace Go.Proofs.Ytibgldanmhckiaa
open Go.RowKit

theorem specLevel (ao : Option Addr) (n cap : Nat) (zs : List Int) (w : World) (hr : Rd .i64 w ao n zs) (b : Bool) (hb : Hid (levB (-16383) 16383 zs = b)) :
    Calls Try.prog 45 #[.slice ao n cap] w fun e w' => e = .returned (.bool b) ∧ w.grownBy w' none := by
  have HR := hide hr
  clear hr
  go_enter Try.func45, Try.ntmps45
  go_wp2_with fail
  refine (specLev ao n cap zs _ _ _ (unhide HR) b hb).mono ?_
  rintro e w1 ⟨rfl, g1⟩
  have HG := hide g1
  clear g1
  go_wp2
  go_ret
  exact ⟨rfl, unhide HG⟩

theorem zero_take {xs : List Int} {k : Nat} (hk : k < xs.length) : zeroB (xs.take (k + 1)) = (zeroB (xs.take k) && (xs.getD k 0 == 0)) := by
  unfold zeroB
  rw [List.take_succ_eq_append_getElem hk, List.all_append]
  simp [hk]
theorem zero_no {xs : List Int} {k : Nat} (hk : k < xs.length) (h : (xs.getD k 0 == 0) = false) : zeroB xs = false := by
  cases hx : zeroB xs with
  | false => rfl
  | true =>
    have e : xs.getD k 0 = xs[k] := by simp [hk]
    rw [e, List.all_eq_true.1 hx _ (List.getElem_mem hk)] at h
    exact h

set_option maxHeartbeats 800000 in
theorem specZero (ao : Option Addr) (n cap : Nat) (zs : List Int) (w : World) (hr : Rd .i64 w ao n zs) (hn : n ≤ 1048576) (b : Bool) (hb : Hid (zeroB zs = b)) :
    Calls Try.prog 52 #[.slice ao n cap] w fun e w' => e = .returned (.bool b) ∧ w' = w := by
  have HL := hide hr.1
  have HR := hide hr
  clear hr
  go_enter Try.func52, Try.ntmps52
  go_wp2
  go_loopw [3] (fun iv wr => ∃ i : Nat, i ≤ n ∧ iv = .int .i64 i ∧ Hid (zeroB (zs.take i) = true) ∧ wr = w) (fun iv _ => n - (intOf iv).toNat)
  case atStart => exact ⟨0, Nat.zero_le _, rfl, rfl, rfl⟩
  case round =>
    obtain ⟨i, hi, rfl, ha, rfl⟩ := hrel
    by_cases hlt : i < n
    · obtain ⟨fb, fo, rfl, c0⟩ := (unhide HR).2 i hlt
      have his : i < zs.length := by rw [unhide HL]; exact hlt
      have hal := zero_take his
      have hno := zero_no his
      have hiI : (i : Int) < (n : Int) := by omega
      generalize zs.getD i 0 = x at *
      cases hx : (x == 0) with
      | false =>
        have e : b = false := by rw [← unhide hb]; exact hno hx
        subst e
        have hx2 : (x != 0) = true := by unfold bne; rw [hx]; rfl
        clear hal hno ha hx
        go_wp2
        go_ret
        exact ⟨rfl, rfl⟩
      | true =>
        have HA : Hid (zeroB (zs.take (i + 1)) = true) := by unfold Hid; rw [hal, unhide ha, hx]; rfl
        have hx2 : (x != 0) = false := by unfold bne; rw [hx]; rfl
        clear hal hno ha hx
        go_wp2
        go_roundw
        case rel => exact ⟨i + 1, by omega, by go_num, HA, trivial⟩
        case measure => simp [intOf]; omega
    · obtain rfl : i = n := by omega
      have e : b = true := by
        have h := unhide ha
        rw [← unhide HL, List.take_length] at h
        rw [← unhide hb]; exact h
      subst e
      clear ha
      go_wp2
      go_ret
      exact ⟨rfl, rfl⟩

set_option maxHeartbeats 1600000 in
theorem specNeed (p wd ht rs : Int) (ao : Option Addr) (n cap : Nat) (C : Nat → Nat → Int) (w : World) (hr : RdC w ao n C) (hg : Geo wd ht n C (mostA 1 C 1 n) (mostA 1 C 2 n)) (c : Nat) (hc : c < n) :
    Calls Try.prog 85 #[.agg #[.int .i64 p, .int .i64 wd, .int .i64 ht, .int .i64 rs, .slice ao n cap], .int .i64 c] w fun e w' => e = .returned (.tuple #[.int .i64 (nwG wd n C c : Int), .int .i64 (nhG ht n C c : Int)]) ∧ w.grownBy w' none := by
  have hd := dims_of hg c hc
  have G0 : w.grownBy (w.alloc (.cells #[.int .i64 p, .int .i64 wd, .int .i64 ht, .int .i64 rs, .slice ao n cap] 26)) none := grown_alloc (World.grownBy.refl _ _) _
  have HT := hide (specSize p wd ht rs ao n cap C _ (hr.grown G0) _ _ hg c hc _ _ rfl rfl)
  have hsw := hd.sw
  have hsh := hd.sh
  have HNW : Hid (upI (upI (wd * C c 1) (mostA 1 C 1 n)) 8 = (nwG wd n C c : Int)) := hd.nw
  have HNH : Hid (upI (upI (ht * C c 2) (mostA 1 C 2 n)) 8 = (nhG ht n C c : Int)) := hd.nh
  have HG0 := hide G0
  clear hr hg hd G0
  generalize upI (wd * C c 1) (mostA 1 C 1 n) = sw at *
  generalize upI (ht * C c 2) (mostA 1 C 2 n) = sh at *
  generalize (nwG wd n C c : Int) = nw at *
  generalize (nhG ht n C c : Int) = nh at *
  go_enter Try.func85, Try.ntmps85
  go_wp2_with fail
  refine (unhide HT).mono ?_
  rintro e w1 ⟨rfl, g1⟩
  have HG1 := hide (grown_trans (unhide HG0) g1)
  clear g1 HT
  go_wp2_with fail
  refine (specUp sw 8 nw (by omega) (by omega) HNW _).mono ?_
  rintro e w2 ⟨rfl, rfl⟩
  go_wp2_with fail
  refine (specUp sh 8 nh (by omega) (by omega) HNH _).mono ?_
  rintro e w3 ⟨rfl, rfl⟩
  go_wp2
  go_ret2
  exact ⟨rfl, unhide HG1⟩

set_option maxHeartbeats 1600000 in
theorem specHidden (p wd ht rs : Int) (ao : Option Addr) (n cap : Nat) (C : Nat → Nat → Int) (w : World) (hr : RdC w ao n C) (hg : Geo wd ht n C (mostA 1 C 1 n) (mostA 1 C 2 n)) (c : Nat) (hc : c < n) (ro cl : Int) (b : Bool) (HB : Hid (hiddenI wd ht n C c ro cl = b)) :
    Calls Try.prog 47 #[.agg #[.int .i64 p, .int .i64 wd, .int .i64 ht, .int .i64 rs, .slice ao n cap], .agg #[.int .i64 c, .int .i64 ro, .int .i64 cl]] w fun e w' => e = .returned (.bool b) ∧ w.grownBy w' none := by
  have G0 : w.grownBy ((w.alloc (.cells #[.int .i64 p, .int .i64 wd, .int .i64 ht, .int .i64 rs, .slice ao n cap] 26)).alloc (.cells #[.int .i64 c, .int .i64 ro, .int .i64 cl] 31)) none := grown_alloc (grown_alloc (World.grownBy.refl _ _) _) _
  have HT := hide (specNeed p wd ht rs ao n cap C _ (hr.grown G0) hg c hc)
  have HBX : Hid (((w.alloc (.cells #[.int .i64 p, .int .i64 wd, .int .i64 ht, .int .i64 rs, .slice ao n cap] 26)).alloc (.cells #[.int .i64 c, .int .i64 ro, .int .i64 cl] 31)).heap[w.heap.size + 1]? = some (.cells #[.int .i64 c, .int .i64 ro, .int .i64 cl] 31 (0, 0))) := by
    have := heap_alloc_new (w.alloc (.cells #[.int .i64 p, .int .i64 wd, .int .i64 ht, .int .i64 rs, .slice ao n cap] 26)) (.cells #[.int .i64 c, .int .i64 ro, .int .i64 cl] 31)
    unfold Hid
    simpa using this
  have HG0 := hide G0
  have HBE : Hid ((decide ((nhG ht n C c : Int) ≤ ro) || decide ((nwG wd n C c : Int) ≤ cl)) = b) := HB
  clear hr hg G0 HB
  generalize (nwG wd n C c : Int) = nw at *
  generalize (nhG ht n C c : Int) = nh at *
  go_enter Try.func47, Try.ntmps47
  go_wp2_with fail
  refine (unhide HT).mono ?_
  rintro e w1 ⟨rfl, g1⟩
  have hb1 := grown_atT g1 (unhide HBX) (by simp)
  have c1 : w1.cell? ⟨w.heap.size + 1, 1, none⟩ = some (.int .i64 ro) := by rw [cell_of_row w1 _ 1 _ _ (0, 0) hb1]; rfl
  have c2 : w1.cell? ⟨w.heap.size + 1, 2, none⟩ = some (.int .i64 cl) := by rw [cell_of_row w1 _ 2 _ _ (0, 0) hb1]; rfl
  have HG1 := hide (grown_trans (unhide HG0) g1)
  clear g1 HT hb1 HBX HG0
  by_cases h1 : nh ≤ ro
  · have d1 : decide (nh ≤ ro) = true := decide_eq_true h1
    have e : b = true := by rw [← unhide HBE, d1]; rfl
    subst e
    clear HBE
    go_wp2
    go_ret
    exact ⟨rfl, unhide HG1⟩
  · have d1 : decide (nh ≤ ro) = false := decide_eq_false h1
    obtain ⟨b2, hb2⟩ : ∃ b2, decide (nw ≤ cl) = b2 := ⟨_, rfl⟩
    have e : b = b2 := by rw [← unhide HBE, d1, hb2]; rfl
    subst e
    clear HBE
    go_wp2
    go_ret
    exact ⟨rfl, unhide HG1⟩

set_option maxRecDepth 20000 in
set_option maxHeartbeats 1600000 in
theorem specPlace (p wd ht rs : Int) (ao : Option Addr) (n cap : Nat) (C : Nat → Nat → Int) (w : World) (hr : RdC w ao n C) (hg : Geo wd ht n C (mostA 1 C 1 n) (mostA 1 C 2 n)) (co ro cl : Int) (k : Int) (ok : Bool) (HK : Hid ((match placeO wd ht n C co ro cl with | some k => ((k : Int), true) | none => (0, false)) = (k, ok))) :
    Calls Try.prog 46 #[.agg #[.int .i64 p, .int .i64 wd, .int .i64 ht, .int .i64 rs, .slice ao n cap], .agg #[.int .i64 co, .int .i64 ro, .int .i64 cl]] w fun e w' => e = .returned (.tuple #[.int .i64 k, .bool ok]) ∧ w.grownBy w' none := by
  have G0 : w.grownBy ((w.alloc (.cells #[.int .i64 p, .int .i64 wd, .int .i64 ht, .int .i64 rs, .slice ao n cap] 26)).alloc (.cells #[.int .i64 co, .int .i64 ro, .int .i64 cl] 31)) none := grown_alloc (grown_alloc (World.grownBy.refl _ _) _) _
  have HBX : Hid (((w.alloc (.cells #[.int .i64 p, .int .i64 wd, .int .i64 ht, .int .i64 rs, .slice ao n cap] 26)).alloc (.cells #[.int .i64 co, .int .i64 ro, .int .i64 cl] 31)).heap[w.heap.size + 1]? = some (.cells #[.int .i64 co, .int .i64 ro, .int .i64 cl] 31 (0, 0))) := by
    have := heap_alloc_new (w.alloc (.cells #[.int .i64 p, .int .i64 wd, .int .i64 ht, .int .i64 rs, .slice ao n cap] 26)) (.cells #[.int .i64 co, .int .i64 ro, .int .i64 cl] 31)
    unfold Hid
    simpa using this
  have HG0 := hide G0
  have hn4 := hg.n4
  have HR := hide hr
  have HG := hide hg
  have e0 := i64_in ((n : Int) - 1) (by omega)
  obtain ⟨b0, HB0⟩ : ∃ b, Hid (decide (0 ≤ co ∧ co ≤ (n : Int) - 1) = b) := ⟨_, rfl⟩
  clear hr hg G0
  cases b0 with
  | false =>
    have hno : ¬ (0 ≤ co ∧ co ≤ (n : Int) - 1) := of_decide_eq_false (unhide HB0)
    have hk := unhide HK
    unfold placeO at hk
    rw [if_neg hno] at hk
    obtain ⟨rfl, rfl⟩ := Prod.mk.inj hk
    clear HK hk
    go_enter Try.func46, Try.ntmps46
    go_wp2_with fail
    refine (between co 0 ((n : Int) - 1) false HB0 _).mono ?_
    rintro e w1 ⟨rfl, rfl⟩
    go_wp2
    go_ret2
    exact ⟨rfl, unhide HG0⟩
  | true =>
    have hyes : 0 ≤ co ∧ co ≤ (n : Int) - 1 := of_decide_eq_true (unhide HB0)
    obtain ⟨c, rfl⟩ := Int.eq_ofNat_of_zero_le hyes.1
    have hc : c < n := by omega
    have hd := dims_of (unhide HG) c hc
    have HT := hide (specBlocks p wd ht rs ao n cap C _ ((unhide HR).grown (unhide HG0)) _ _ (unhide HG) c hc _ _ rfl rfl)
    have hk := unhide HK
    unfold placeO at hk
    rw [if_pos hyes, Int.toNat_natCast] at hk
    rw [hd.bw, hd.bh] at HT
    have hbw := hd.bw1
    have hbh := hd.bh1
    generalize bwG wd n C c = bw at *
    generalize bhG ht n C c = bh at *
    have e1 := i64_in ((bh : Int) - 1) (by omega)
    have e2 := i64_in ((bw : Int) - 1) (by omega)
    obtain ⟨b1, HB1⟩ : ∃ b, Hid (decide (0 ≤ ro ∧ ro ≤ (bh : Int) - 1) = b) := ⟨_, rfl⟩
    obtain ⟨b2, HB2⟩ : ∃ b, Hid (decide (0 ≤ cl ∧ cl ≤ (bw : Int) - 1) = b) := ⟨_, rfl⟩
    have HKK := hide hk
    clear hk HK hd
    cases b1 with
    | false =>
      have hno : ¬ ((0 ≤ ro ∧ ro ≤ (bh : Int) - 1) ∧ 0 ≤ cl ∧ cl ≤ (bw : Int) - 1) := fun h => of_decide_eq_false (unhide HB1) h.1
      have hk := unhide HKK
      rw [if_neg hno] at hk
      obtain ⟨rfl, rfl⟩ := Prod.mk.inj hk
      clear hk HKK
      go_enter Try.func46, Try.ntmps46
      go_wp2_with fail
      refine (between (c : Int) 0 ((n : Int) - 1) true HB0 _).mono ?_
      rintro e w1 ⟨rfl, rfl⟩
      go_wp2_with fail
      refine (unhide HT).mono ?_
      rintro e w2 ⟨rfl, g2⟩
      have hb1 := grown_atT g2 (unhide HBX) (by simp)
      have c1 : w2.cell? ⟨w.heap.size + 1, 1, none⟩ = some (.int .i64 ro) := by rw [cell_of_row w2 _ 1 _ _ (0, 0) hb1]; rfl
      have HG2 := hide (grown_trans (unhide HG0) g2)
      clear g2 HT hb1 HBX HG0
      go_wp2_with fail
      refine (between ro 0 ((bh : Int) - 1) false HB1 _).mono ?_
      rintro e w3 ⟨rfl, rfl⟩
      go_wp2
      go_ret2
      exact ⟨rfl, unhide HG2⟩
    | true =>
      cases b2 with
      | false =>
        have hno : ¬ ((0 ≤ ro ∧ ro ≤ (bh : Int) - 1) ∧ 0 ≤ cl ∧ cl ≤ (bw : Int) - 1) := fun h => of_decide_eq_false (unhide HB2) h.2
        have hk := unhide HKK
        rw [if_neg hno] at hk
        obtain ⟨rfl, rfl⟩ := Prod.mk.inj hk
        clear hk HKK
        go_enter Try.func46, Try.ntmps46
        go_wp2_with fail
        refine (between (c : Int) 0 ((n : Int) - 1) true HB0 _).mono ?_
        rintro e w1 ⟨rfl, rfl⟩
        go_wp2_with fail
        refine (unhide HT).mono ?_
        rintro e w2 ⟨rfl, g2⟩
        have hb1 := grown_atT g2 (unhide HBX) (by simp)
        have c1 : w2.cell? ⟨w.heap.size + 1, 1, none⟩ = some (.int .i64 ro) := by rw [cell_of_row w2 _ 1 _ _ (0, 0) hb1]; rfl
        have c2 : w2.cell? ⟨w.heap.size + 1, 2, none⟩ = some (.int .i64 cl) := by rw [cell_of_row w2 _ 2 _ _ (0, 0) hb1]; rfl
        have HG2 := hide (grown_trans (unhide HG0) g2)
        clear g2 HT hb1 HBX HG0
        go_wp2_with fail
        refine (between ro 0 ((bh : Int) - 1) true HB1 _).mono ?_
        rintro e w3 ⟨rfl, rfl⟩
        go_wp2_with fail
        refine (between cl 0 ((bw : Int) - 1) false HB2 _).mono ?_
        rintro e w4 ⟨rfl, rfl⟩
        go_wp2
        go_ret2
        exact ⟨rfl, unhide HG2⟩
      | true =>
        have hro := of_decide_eq_true (unhide HB1)
        have hcl := of_decide_eq_true (unhide HB2)
        have hk := unhide HKK
        rw [if_pos ⟨hro, hcl⟩] at hk
        obtain ⟨hk1, rfl⟩ := Prod.mk.inj hk
        obtain ⟨r, rfl⟩ := Int.eq_ofNat_of_zero_le hro.1
        obtain ⟨l, rfl⟩ := Int.eq_ofNat_of_zero_le hcl.1
        rw [Int.toNat_natCast, Int.toNat_natCast] at hk1
        have hm : r * bw ≤ 127 * 128 := Nat.mul_le_mul (by omega) (by omega)
        obtain ⟨rb, HRB⟩ : ∃ rb, Hid (r * bw = rb) := ⟨_, rfl⟩
        have e3 : (r : Int) * (bw : Int) = (rb : Int) := by rw [← unhide HRB]; simp
        rw [unhide HRB] at hm hk1
        have e4 := i64_in (rb : Int) (by omega)
        have e5 := i64_in ((rb : Int) + (l : Int)) (by omega)
        have hk2 : (rb : Int) + (l : Int) = k := by rw [← hk1]; simp
        have HK2 := hide hk2
        clear hk HKK hk1 hk2
        go_enter Try.func46, Try.ntmps46
        go_wp2_with fail
        refine (between (c : Int) 0 ((n : Int) - 1) true HB0 _).mono ?_
        rintro e w1 ⟨rfl, rfl⟩
        go_wp2_with fail
        refine (unhide HT).mono ?_
        rintro e w2 ⟨rfl, g2⟩
        have hb1 := grown_atT g2 (unhide HBX) (by simp)
        have c1 : w2.cell? ⟨w.heap.size + 1, 1, none⟩ = some (.int .i64 (r : Int)) := by rw [cell_of_row w2 _ 1 _ _ (0, 0) hb1]; rfl
        have c2 : w2.cell? ⟨w.heap.size + 1, 2, none⟩ = some (.int .i64 (l : Int)) := by rw [cell_of_row w2 _ 2 _ _ (0, 0) hb1]; rfl
        have HG2 := hide (grown_trans (unhide HG0) g2)
        clear g2 HT hb1 HBX HG0
        go_wp2_with fail
        refine (between (r : Int) 0 ((bh : Int) - 1) true HB1 _).mono ?_
        rintro e w3 ⟨rfl, rfl⟩
        go_wp2_with fail
        refine (between (l : Int) 0 ((bw : Int) - 1) true HB2 _).mono ?_
        rintro e w4 ⟨rfl, rfl⟩
        go_wp2
        go_ret2
        exact ⟨by rw [← unhide HK2]; rfl, unhide HG2⟩

end Go.Proofs.Ytibgldanmhckiaa

namespace Go.Proofs.Ytibgldanmhckiaa
open Go.RowKit

def ToC {α : Type} (f : Nat) (Q : World → Value → α → Prop) (P : World → Value → α → List Nat → Prop) (sz : α → Nat) : Prop :=
  ∀ (w : World) (u : Value) (a : α), Q w u a → sz a ≤ 1048576 → Calls Try.prog f #[u] w fun e w' => ∃ u' F, e = .returned u' ∧ P w' u' a F ∧ F.Nodup ∧ (∀ g ∈ F, w.heap.size ≤ g) ∧ w.grownBy w' none
def EqC {α : Type} (f : Nat) (Q : World → Value → α → Prop) (sz : α → Nat) : Prop :=
  ∀ (w : World) (u u' : Value) (a : α), Q w u a → Q w u' a → sz a ≤ 1048576 → Calls Try.prog f #[u, u'] w fun e w' => e = .returned (.bool true) ∧ w.grownBy w' none
def MarkC {α : Type} (f : Nat) (P : World → Value → α → List Nat → Prop) (mk : α → Int → α) (cnt sz : α → Nat) : Prop :=
  ∀ (w : World) (u : Value) (a : α) (F : List Nat) (k : Int), P w u a F → F.Nodup → sz a ≤ 1048576 → 0 ≤ k → k + cnt a ≤ 16777216 → Calls Try.prog f #[u, .int .i64 k] w fun e w' => e = .returned (.int .i64 (k + cnt a)) ∧ P w' u (mk a k) F ∧ Wr F w w'
def HeldC {α : Type} (f : Nat) (Q : World → Value → α → Prop) (mk : α → Int → α) (cnt sz : α → Nat) : Prop :=
  ∀ (w : World) (u : Value) (a : α) (k : Int), Q w u (mk a k) → sz a ≤ 1048576 → 0 ≤ k → k + cnt a ≤ 16777216 → Calls Try.prog f #[u, .int .i64 k] w fun e w' => e = .returned (.int .i64 (k + cnt a)) ∧ w.grownBy w' none
/-- How much there is, as the laws count it: within what is left, or not. -/
def SzC {α : Type} (f : Nat) (Q : World → Value → α → Prop) (sz : α → Nat) : Prop :=
  ∀ (w : World) (u : Value) (a : α) (left : Nat), Q w u a → left ≤ 1048576 → Calls Try.prog f #[u, .int .i64 left] w fun e w' => e = .returned (.int .i64 (if sz a ≤ left then (left : Int) - sz a else -1)) ∧ w' = w

/-- What came in is no longer than a slice can be. -/
def RdZ {β : Type} (Q : World → Value → List β → Prop) (w : World) (v : Value) (L : List β) : Prop := Q w v L ∧ L.length ≤ maxLen

def sumN : List Nat → Nat
  | [] => 0
  | x :: r => x + sumN r
theorem sumN_append : ∀ a b : List Nat, sumN (a ++ b) = sumN a + sumN b
  | [], b => by simp [sumN]
  | x :: r, b => by simp [sumN, sumN_append r b]; omega
def cntR {α : Type} (cnt : α → Nat) (L : List α) : Nat := sumN (L.map cnt)
def szR {α : Type} (sz : α → Nat) (L : List α) : Nat := L.length + sumN (L.map sz)
def mkR {α : Type} (mk : α → Int → α) (cnt : α → Nat) : List α → Int → List α
  | [], _ => []
  | a :: r, k => mk a k :: mkR mk cnt r (k + cnt a)
theorem mkR_len {α : Type} (mk : α → Int → α) (cnt : α → Nat) : ∀ (L : List α) (k : Int), (mkR mk cnt L k).length = L.length
  | [], _ => rfl
  | a :: r, k => by rw [mkR, List.length_cons, List.length_cons, mkR_len mk cnt r]
theorem take_next {α β : Type} (f : α → β) (L : List α) (i : Nat) (h : i < L.length) : (L.take (i + 1)).map f = (L.take i).map f ++ [f L[i]] := by
  rw [List.take_succ_eq_append_getElem h, List.map_append]; rfl
theorem cntR_next {α : Type} (cnt : α → Nat) (L : List α) (i : Nat) (h : i < L.length) : cntR cnt (L.take (i + 1)) = cntR cnt (L.take i) + cnt L[i] := by
  unfold cntR; rw [take_next cnt L i h, sumN_append]; simp [sumN]
theorem cntR_le {α : Type} (cnt : α → Nat) (L : List α) (i : Nat) : cntR cnt (L.take i) ≤ cntR cnt L := by
  have e : L.map cnt = (L.take i).map cnt ++ (L.drop i).map cnt := by rw [← List.map_append, List.take_append_drop]
  unfold cntR; rw [e, sumN_append]; omega
theorem cntR_all {α : Type} (cnt : α → Nat) (L : List α) : cntR cnt (L.take L.length) = cntR cnt L := by rw [List.take_length]
theorem szR_el {α : Type} (sz : α → Nat) (L : List α) (i : Nat) (h : i < L.length) : L.length ≤ szR sz L ∧ sz L[i] ≤ szR sz L := by
  have h1 := cntR_next sz L i h
  have h2 := cntR_le sz L (i + 1)
  have h3 : cntR sz L = sumN (L.map sz) := rfl
  unfold szR
  omega
theorem szR_len {α : Type} (sz : α → Nat) (L : List α) : L.length ≤ szR sz L := by unfold szR; omega
theorem mkR_at {α : Type} (mk : α → Int → α) (cnt : α → Nat) : ∀ (L : List α) (k : Int) (i : Nat) (h : i < L.length), (mkR mk cnt L k)[i]'(by rw [mkR_len]; exact h) = mk L[i] (k + cntR cnt (L.take i))
  | a :: r, k, 0, _ => by simp [mkR, cntR, sumN]
  | a :: r, k, i + 1, h => by
    have hi : i < r.length := by simpa using h
    have ih := mkR_at mk cnt r (k + cnt a) i hi
    have e : cntR cnt ((a :: r).take (i + 1)) = cnt a + cntR cnt (r.take i) := by simp [cntR, sumN]
    simp only [mkR, List.getElem_cons_succ, ih, e]
    congr 1
    omega
/-- So far marked. -/
def overR {α : Type} (mk : α → Int → α) (cnt : α → Nat) (L : List α) (k : Int) (i : Nat) : List α := mkR mk cnt (L.take i) k ++ L.drop i
theorem overR_len {α : Type} (mk : α → Int → α) (cnt : α → Nat) (L : List α) (k : Int) (i : Nat) (h : i ≤ L.length) : (overR mk cnt L k i).length = L.length := by
  unfold overR; rw [List.length_append, mkR_len, List.length_take, List.length_drop]; omega
theorem overR_at {α : Type} (mk : α → Int → α) (cnt : α → Nat) (L : List α) (k : Int) (i : Nat) (h : i < L.length) : (overR mk cnt L k i)[i]'(by rw [overR_len _ _ _ _ _ (by omega)]; exact h) = L[i] := by
  unfold overR
  rw [List.getElem_append_right (by rw [mkR_len, List.length_take]; omega)]
  simp only [mkR_len, List.length_take, List.getElem_drop]
  congr 1
  omega
theorem mkR_snoc {α : Type} (mk : α → Int → α) (cnt : α → Nat) : ∀ (A : List α) (b : α) (k : Int), mkR mk cnt (A ++ [b]) k = mkR mk cnt A k ++ [mk b (k + cntR cnt A)]
  | [], b, k => by simp [mkR, cntR, sumN]
  | a :: r, b, k => by
    rw [List.cons_append, mkR, mkR_snoc mk cnt r b, mkR, List.cons_append]
    have e : cntR cnt (a :: r) = cnt a + cntR cnt r := by simp [cntR, sumN]
    rw [e]
    congr 4
    omega
theorem overR_set {α : Type} (mk : α → Int → α) (cnt : α → Nat) (L : List α) (k : Int) (i : Nat) (h : i < L.length) : (overR mk cnt L k i).set i (mk L[i] (k + cntR cnt (L.take i))) = overR mk cnt L k (i + 1) := by
  unfold overR
  have hl : (mkR mk cnt (L.take i) k).length = i := by rw [mkR_len, List.length_take]; omega
  rw [List.set_append_right _ _ (by omega), hl, Nat.sub_self, List.drop_eq_getElem_cons h, List.set_cons_zero, List.take_succ_eq_append_getElem h, mkR_snoc, List.append_assoc]
  rfl
theorem overR_all {α : Type} (mk : α → Int → α) (cnt : α → Nat) (L : List α) (k : Int) : overR mk cnt L k L.length = mkR mk cnt L k := by unfold overR; rw [List.take_length, List.drop_length, List.append_nil]

/-- The numbers of a row. -/
def lenI (xs : List Int) : Nat := xs.length
def mkI (xs : List Int) (k : Int) : List Int := marks .i64 k xs.length

end Go.Proofs.Ytibgldanmhckiaa

namespace Go.Proofs.Ytibgldanmhckiaa
open Go.RowKit

section
variable {P : Program} {ops : Array Oper} {md : Region.Mode} {S : World → Prop} {Q : Exit → Act → World → Prop}

/-- Those that are marked, in the order of the text, each with what it yields; then L. -/
def heldF (P : Program) (ops : Array Oper) (S : World → Prop) (L : Act → Prop) : List Oper → List Bool → Act → Prop
  | o :: rest, true :: ms, a => ∃ v, YieldsIf P ops S o v a ∧ heldF P ops S L rest ms (a.put o.dst v)
  | _ :: rest, false :: ms, a => heldF P ops S L rest ms a
  | _, _, a => L a
theorem heldF_take {L : Act → Prop} {o : Oper} {rest : List Oper} {ms : List Bool} {a : Act} {v : Value} (hy : YieldsIf P ops S o v a) (h : heldF P ops S L rest ms (a.put o.dst v)) : heldF P ops S L (o :: rest) (true :: ms) a := ⟨v, hy, h⟩
theorem heldF_skip {L : Act → Prop} {o : Oper} {rest : List Oper} {ms : List Bool} {a : Act} (h : heldF P ops S L rest ms a) : heldF P ops S L (o :: rest) (false :: ms) a := h
theorem heldF_nil {L : Act → Prop} {a : Act} (h : L a) : heldF P ops S L [] [] a := h

/-- Those that are not marked, in the order of the text; behind each S. -/
def tailF (P : Program) (ops : Array Oper) (Q : Exit → Act → World → Prop) (S : World → Prop) : List Oper → List Bool → Act → World → Prop
  | o :: rest, false :: ms, a, w => ∀ K' : Act → World → Prop, Shut (∀ a w, S w → tailF P ops Q S rest ms a w → K' a w) → if Region.wanted o (yielded ops a.tmps) = true then Oper.wp P o a w K' Q else K' (a.put o.dst undef) w
  | _ :: rest, true :: ms, a, w => tailF P ops Q S rest ms a w
  | _, _, a, w => Q .normal a w
theorem tailF_step {o : Oper} {rest : List Oper} {ms : List Bool} {a : Act} {w : World} (h : ∀ K' : Act → World → Prop, Shut (∀ a w, S w → tailF P ops Q S rest ms a w → K' a w) → if Region.wanted o (yielded ops a.tmps) = true then Oper.wp P o a w K' Q else K' (a.put o.dst undef) w) :
    tailF P ops Q S (o :: rest) (false :: ms) a w := h
theorem tailF_skip {o : Oper} {rest : List Oper} {ms : List Bool} {a : Act} {w : World} (h : tailF P ops Q S rest ms a w) : tailF P ops Q S (o :: rest) (true :: ms) a w := h
theorem tailF_nil {a : Act} {w : World} (h : Q .normal a w) : tailF P ops Q S [] [] a w := h

/-- How many are not marked. -/
def leftF : List Bool → Nat
  | [] => 0
  | true :: ms => leftF ms
  | false :: ms => leftF ms + 1
def takenF : List Bool → Nat
  | [] => 0
  | true :: ms => takenF ms + 1
  | false :: ms => takenF ms
def lexTail (md : Region.Mode) (ops : Array Oper) : List Bool → Nat → Array Bool → Bool
  | [], _, listed => (Region.ready md ops listed).isEmpty
  | true :: ms, k, listed => lexTail md ops ms (k + 1) listed
  | false :: ms, k, listed => (Region.ready md ops listed == [k]) && lexTail md ops ms (k + 1) (listed.setIfInBounds k true)
def lexHeld (md : Region.Mode) (ops : Array Oper) (all : List Bool) : List Bool → Nat → Array Bool → Bool
  | [], _, listed => lexTail md ops all 0 listed
  | true :: ms, k, listed => (Region.ready md ops listed).contains k && Region.free md ops listed k && lexHeld md ops all ms (k + 1) (listed.setIfInBounds k true)
  | false :: ms, k, listed => lexHeld md ops all ms (k + 1) listed

theorem anyH_tail : ∀ (l : List Oper) (ms : List Bool) (k : Nat) (listed : Array Bool) (a : Act) (w : World), l.length = ms.length → (∀ j, j < l.length → l[j]? = ops[k + j]?) →
    lexTail md ops ms k listed = true → tailF P ops Q S l ms a w → wpAnyH P md ops Q S (leftF ms) listed a w
  | [], [], _, listed, a, w, _, _, hB, h => wpAnyH_done (by simpa [lexTail] using hB) h _
  | [], _ :: _, _, _, _, _, hl, _, _, _ => by simp at hl
  | _ :: _, [], _, _, _, _, hl, _, _, _ => by simp at hl
  | o :: l, true :: ms, k, listed, a, w, hl, ha, hB, h =>
    anyH_tail l ms (k + 1) listed a w (by simpa using hl) (fun j hj => by have := ha (j + 1) (by simpa using hj); simpa [Nat.add_assoc, Nat.add_comm 1 j] using this) hB h
  | o :: l, false :: ms, k, listed, a, w, hl, ha, hB, h => by
    have h0 : ops[k]? = some o := by have := ha 0 (by simp); simpa using this.symm
    simp only [lexTail, Bool.and_eq_true, beq_iff_eq] at hB
    refine wpAnyH_all (rs := [k]) hB.1 (by simp) (fun i hi => ?_)
    obtain rfl : i = k := by simpa using hi
    refine wpOp_step h0 (fun K' hK => h K' (fun a' w' hS ht => hK a' w' ⟨hS, ?_⟩))
    exact anyH_tail l ms (i + 1) _ a' w' (by simpa using hl) (fun j hj => by have := ha (j + 1) (by simpa using hj); simpa [Nat.add_assoc, Nat.add_comm 1 j] using this) hB.2 ht

theorem anyH_held {l0 : List Oper} {all : List Bool} (hs : Region.noSelect ops = true) (hQ : ∀ c a d v w, Q (.panic c) (Act.put a d v) w → Q (.panic c) a w) (hl0 : l0.length = all.length) (ha0 : ∀ j, j < l0.length → l0[j]? = ops[0 + j]?) :
    ∀ (l : List Oper) (ms : List Bool) (k : Nat) (listed : Array Bool) (a : Act) (w : World), l.length = ms.length → (∀ j, j < l.length → l[j]? = ops[k + j]?) →
    lexHeld md ops all ms k listed = true → S w → heldF P ops S (fun a' => tailF P ops Q S l0 all a' w) l ms a → wpAnyH P md ops Q S (takenF ms + leftF all) listed a w
  | [], [], _, listed, a, w, _, _, hB, _, h => by
    simp only [takenF, Nat.zero_add]
    exact anyH_tail l0 all 0 listed a w hl0 ha0 hB h
  | [], _ :: _, _, _, _, _, hl, _, _, _, _ => by simp at hl
  | _ :: _, [], _, _, _, _, hl, _, _, _, _ => by simp at hl
  | o :: l, true :: ms, k, listed, a, w, hl, ha, hB, hS, h => by
    have h0 : ops[k]? = some o := by have := ha 0 (by simp); simpa using this.symm
    simp only [lexHeld, Bool.and_eq_true] at hB
    obtain ⟨⟨hr, hf⟩, hB'⟩ := hB
    obtain ⟨v, hy, hK⟩ := h
    have e : takenF (true :: ms) + leftF all = (takenF ms + leftF all) + 1 := by simp only [takenF]; omega
    rw [e]
    exact wpAnyH_take h0 hs hf hr (fun c a' w' hq => hQ c a' _ _ w' hq) hy hS
      (anyH_held hs hQ hl0 ha0 l ms (k + 1) _ _ w (by simpa using hl) (fun j hj => by have := ha (j + 1) (by simpa using hj); simpa [Nat.add_assoc, Nat.add_comm 1 j] using this) hB' hS hK)
  | o :: l, false :: ms, k, listed, a, w, hl, ha, hB, hS, h =>
    anyH_held hs hQ hl0 ha0 l ms (k + 1) listed a w (by simpa using hl) (fun j hj => by have := ha (j + 1) (by simpa using hj); simpa [Nat.add_assoc, Nat.add_comm 1 j] using this) hB hS h

theorem count_all : ∀ ms : List Bool, takenF ms + leftF ms = ms.length
  | [] => rfl
  | true :: ms => by have := count_all ms; simp only [takenF, leftF, List.length_cons]; omega
  | false :: ms => by have := count_all ms; simp only [takenF, leftF, List.length_cons]; omega
end

/-- A region whose operations are written out, and which of them are taken first. -/
theorem wp_region_tail {P : Program} {id : Nat} {Q : Exit → Act → World → Prop} {a : Act} {w : World} {l : List Oper} (S : World → Prop) (ms : List Bool) (hm : P.follows .mixedOrders = true) (hQ : ∀ c a d v w, Q (.panic c) (Act.put a d v) w → Q (.panic c) a w)
    (hl : l.length = ms.length) (hB : (Region.noSelect l.toArray && lexHeld .any l.toArray ms ms 0 (Array.replicate l.length false)) = true)
    (hS : S w.drew) (h : heldF P l.toArray S (fun a' => tailF P l.toArray Q S l ms a' w.drew) l ms a) : (Code.region id l.toArray true).wp P Q a w := by
  rw [Bool.and_eq_true] at hB
  refine wp_region_held_drew (S := S) hm hS (fun _ => ?_)
  have := anyH_held (P := P) (ops := l.toArray) (md := .any) (S := S) (Q := Q) (l0 := l) (all := ms) hB.1 hQ hl (fun j hj => by simp) l ms 0 (Array.replicate l.length false) a w.drew hl (fun j hj => by simp) hB.2 hS h
  rw [count_all ms, ← hl] at this
  simpa using this

/-! The same, what comes behind those that are taken first being told step by step. -/
section
variable {P : Program} {ops : Array Oper} {md : Region.Mode} {S : World → Prop} {Q : Exit → Act → World → Prop}

def listedOf : List Bool → Nat → Array Bool → Array Bool
  | [], _, listed => listed
  | true :: ms, k, listed => listedOf ms (k + 1) (listed.setIfInBounds k true)
  | false :: ms, k, listed => listedOf ms (k + 1) listed
def lexRaw (md : Region.Mode) (ops : Array Oper) : List Bool → Nat → Array Bool → Bool
  | [], _, _ => true
  | true :: ms, k, listed => (Region.ready md ops listed).contains k && Region.free md ops listed k && lexRaw md ops ms (k + 1) (listed.setIfInBounds k true)
  | false :: ms, k, listed => lexRaw md ops ms (k + 1) listed
theorem anyH_raw (f : Nat) (hs : Region.noSelect ops = true) (hQ : ∀ c a d v w, Q (.panic c) (Act.put a d v) w → Q (.panic c) a w) :
    ∀ (l : List Oper) (ms : List Bool) (k : Nat) (listed : Array Bool) (a : Act) (w : World), l.length = ms.length → (∀ j, j < l.length → l[j]? = ops[k + j]?) →
    lexRaw md ops ms k listed = true → S w → heldF P ops S (fun a' => wpAnyH P md ops Q S f (listedOf ms k listed) a' w) l ms a → wpAnyH P md ops Q S (takenF ms + f) listed a w
  | [], [], _, listed, a, w, _, _, _, _, h => by simp only [takenF, Nat.zero_add]; exact h
  | [], _ :: _, _, _, _, _, hl, _, _, _, _ => by simp at hl
  | _ :: _, [], _, _, _, _, hl, _, _, _, _ => by simp at hl
  | o :: l, true :: ms, k, listed, a, w, hl, ha, hB, hS, h => by
    have h0 : ops[k]? = some o := by have := ha 0 (by simp); simpa using this.symm
    simp only [lexRaw, Bool.and_eq_true] at hB
    obtain ⟨⟨hr, hf⟩, hB'⟩ := hB
    obtain ⟨v, hy, hK⟩ := h
    have e : takenF (true :: ms) + f = (takenF ms + f) + 1 := by simp only [takenF]; omega
    rw [e]
    exact wpAnyH_take h0 hs hf hr (fun c a' w' hq => hQ c a' _ _ w' hq) hy hS
      (anyH_raw f hs hQ l ms (k + 1) _ _ w (by simpa using hl) (fun j hj => by have := ha (j + 1) (by simpa using hj); simpa [Nat.add_assoc, Nat.add_comm 1 j] using this) hB' hS hK)
  | o :: l, false :: ms, k, listed, a, w, hl, ha, hB, hS, h =>
    anyH_raw f hs hQ l ms (k + 1) listed a w (by simpa using hl) (fun j hj => by have := ha (j + 1) (by simpa using hj); simpa [Nat.add_assoc, Nat.add_comm 1 j] using this) hB hS h

/-- One alone may come up. -/
theorem anyH_step1 {l : List Oper} {i f : Nat} {o : Oper} {listed : Array Bool} {a : Act} {w : World} (ho : l[i]? = some o) (hr : Region.ready md l.toArray listed = [i])
    (h : ∀ K' : Act → World → Prop, Shut (∀ a w, S w → wpAnyH P md l.toArray Q S f (listed.setIfInBounds i true) a w → K' a w) → if Region.wanted o (yielded l.toArray a.tmps) = true then Oper.wp P o a w K' Q else K' (a.put o.dst undef) w) :
    wpAnyH P md l.toArray Q S (f + 1) listed a w := by
  refine wpAnyH_all (rs := [i]) hr (by simp) (fun j hj => ?_)
  obtain rfl : j = i := by simpa using hj
  exact wpOp_step (by simpa using ho) (fun K' hK => h K' (fun a' w' hS ht => hK a' w' ⟨hS, ht⟩))
/-- One of two may come up. -/
theorem anyH_step2 {l : List Oper} {i j f : Nat} {oi oj : Oper} {listed : Array Bool} {a : Act} {w : World} (hoi : l[i]? = some oi) (hoj : l[j]? = some oj) (hr : Region.ready md l.toArray listed = [i, j])
    (hi : ∀ K' : Act → World → Prop, Shut (∀ a w, S w → wpAnyH P md l.toArray Q S f (listed.setIfInBounds i true) a w → K' a w) → if Region.wanted oi (yielded l.toArray a.tmps) = true then Oper.wp P oi a w K' Q else K' (a.put oi.dst undef) w)
    (hj : ∀ K' : Act → World → Prop, Shut (∀ a w, S w → wpAnyH P md l.toArray Q S f (listed.setIfInBounds j true) a w → K' a w) → if Region.wanted oj (yielded l.toArray a.tmps) = true then Oper.wp P oj a w K' Q else K' (a.put oj.dst undef) w) :
    wpAnyH P md l.toArray Q S (f + 1) listed a w := by
  refine wpAnyH_all (rs := [i, j]) hr (by simp) (fun q hq => ?_)
  rcases List.mem_cons.1 hq with rfl | hq
  · exact wpOp_step (by simpa using hoi) (fun K' hK => hi K' (fun a' w' hS ht => hK a' w' ⟨hS, ht⟩))
  · obtain rfl : q = j := by simpa using hq
    exact wpOp_step (by simpa using hoj) (fun K' hK => hj K' (fun a' w' hS ht => hK a' w' ⟨hS, ht⟩))
end

theorem wp_region_raw {P : Program} {id : Nat} {Q : Exit → Act → World → Prop} {a : Act} {w : World} {l : List Oper} (S : World → Prop) (ms : List Bool) (hm : P.follows .mixedOrders = true) (hQ : ∀ c a d v w, Q (.panic c) (Act.put a d v) w → Q (.panic c) a w)
    (hl : l.length = ms.length) (hB : (Region.noSelect l.toArray && lexRaw .any l.toArray ms 0 (Array.replicate l.length false)) = true)
    (hS : S w.drew) (h : heldF P l.toArray S (fun a' => wpAnyH P .any l.toArray Q S (leftF ms) (listedOf ms 0 (Array.replicate l.length false)) a' w.drew) l ms a) : (Code.region id l.toArray true).wp P Q a w := by
  rw [Bool.and_eq_true] at hB
  refine wp_region_held_drew (S := S) hm hS (fun _ => ?_)
  have := anyH_raw (P := P) (ops := l.toArray) (md := .any) (S := S) (Q := Q) (leftF ms) hB.1 hQ l ms 0 (Array.replicate l.length false) a w.drew hl (fun j hj => by simp) hB.2 hS h
  rw [count_all ms, ← hl] at this
  simpa using this

end Go.Proofs.Ytibgldanmhckiaa

namespace Go.Proofs.Ytibgldanmhckiaa
open Go.RowKit

section
variable {P : Program} {ops : Array Oper} {md : Region.Mode} {C : World → Prop} {m : Nat} {L : Act → Prop}

/-- Whatever order is picked from here on: number m comes last, and then L is asked. -/
def anyL (P : Program) (md : Region.Mode) (ops : Array Oper) (C : World → Prop) (m : Nat) (L : Act → Prop) : Nat → Array Bool → Act → Prop
  | 0, _, _ => False
  | fuel + 1, listed, a => Region.ready md ops listed ≠ [] ∧ ∀ i ∈ Region.ready md ops listed, if i = m then (L a ∧ Region.ready md ops (listed.setIfInBounds m true) = []) else qOp P ops C i (anyL P md ops C m L fuel (listed.setIfInBounds i true)) a

theorem any_done {Q : Exit → Act → World → Prop} {listed : Array Bool} {a : Act} {w : World} (hr : Region.ready md ops listed = []) (hq : Q .normal a w) : ∀ fuel, wpAny P md ops Q fuel listed a w
  | 0 => ⟨hr, hq⟩
  | _ + 1 => ⟨fun _ => hq, fun i hi => by rw [hr] at hi; cases hi⟩

theorem anyL_sound {Q : Exit → Act → World → Prop} (hL : ∀ a w, C w → L a → wpOp P ops Q m (fun a' w' => Q .normal a' w') a w) :
    ∀ (fuel : Nat) (listed : Array Bool) (a : Act) (w : World), C w → anyL P md ops C m L fuel listed a → wpAny P md ops Q fuel listed a w
  | 0, _, _, _, _, h => h.elim
  | fuel + 1, listed, a, w, hw, h => ⟨fun h0 => absurd h0 h.1, fun i hi => by
      have h2 := h.2 i hi
      by_cases e : i = m
      · subst e
        rw [if_pos rfl] at h2
        exact wpOp_mono (fun a' w' hq => any_done h2.2 hq fuel) (hL a w hw h2.1)
      · rw [if_neg e] at h2
        exact wpOp_of_qOp hw (fun a' w' hw' hh => anyL_sound hL fuel _ a' w' hw' hh) h2⟩

/-- What has come up has come up behind what it waits for. -/
def Cl (md : Region.Mode) (ops : Array Oper) (listed : Array Bool) : Prop := ∀ k ok, ops[k]? = some ok → listed.getD k false = true → ∀ e ∈ ok.after, Region.binds md e = true → listed.getD e.on false = true
theorem Cl.set {listed : Array Bool} {j : Nat} (h : Cl md ops listed) (hj : j ∈ Region.ready md ops listed) : Cl md ops (listed.setIfInBounds j true) := by
  intro k ok hk hl e he hb
  by_cases hjk : j = k
  · subst hjk
    obtain ⟨_, o, ho, hall⟩ := mem_ready.1 hj
    rw [ho] at hk
    cases hk
    exact getD_set_true (hall e he hb)
  · rw [getD_set_ne false hjk] at hl
    exact getD_set_true (h k ok hk hl e he hb)
theorem Cl.none (n : Nat) : Cl md ops (Array.replicate n false) := by
  intro k ok _ hl
  exfalso
  have : (Array.replicate n false).getD k false = false := by simp [Array.getD]
  rw [this] at hl
  cases hl
/-- Whether an operation waits for another, by so many steps at most. -/
def waits (md : Region.Mode) (ops : Array Oper) : Nat → Nat → Nat → Bool
  | 0, _, _ => false
  | f + 1, j, i => match ops[j]? with
    | none => false
    | some o => o.after.any (fun e => Region.binds md e && (e.on == i || waits md ops f e.on i))
theorem waits_listed {listed : Array Bool} (h : Cl md ops listed) (i : Nat) : ∀ (f j : Nat), listed.getD j false = true → waits md ops f j i = true → listed.getD i false = true
  | 0, _, _, hw => by simp [waits] at hw
  | f + 1, j, hj, hw => by
    unfold waits at hw
    cases ho : ops[j]? with
    | none => simp [ho] at hw
    | some o =>
      simp only [ho] at hw
      obtain ⟨q, hq, hb⟩ := Array.any_eq_true.1 hw
      have he := Array.getElem_mem hq
      generalize o.after[q] = e at *
      simp only [Bool.and_eq_true, Bool.or_eq_true, beq_iff_eq] at hb
      have hl := h j o ho hj e he hb.1
      rcases hb.2 with hb2 | hb2
      · rw [← hb2]; exact hl
      · exact waits_listed h i f e.on hl hb2
theorem waits_ready {listed : Array Bool} (h : Cl md ops listed) (i f : Nat) (hm : m ∈ Region.ready md ops listed) (hw : waits md ops (f + 1) m i = true) : listed.getD i false = true := by
  obtain ⟨_, o, ho, hall⟩ := mem_ready.1 hm
  unfold waits at hw
  simp only [ho] at hw
  obtain ⟨q, hq, hb⟩ := Array.any_eq_true.1 hw
  have he := Array.getElem_mem hq
  generalize o.after[q] = e at *
  simp only [Bool.and_eq_true, Bool.or_eq_true, beq_iff_eq] at hb
  have hl := hall e he hb.1
  rcases hb.2 with hb2 | hb2
  · rw [← hb2]; exact hl
  · exact waits_listed h i f e.on hl hb2

/-- An operation that only reads, and for which m waits, may be taken first. -/
theorem anyL_first {i f : Nat} {oi : Oper} {v : Value} (hi : ops[i]? = some oi) (him : i ≠ m) (hwt : waits md ops (f + 1) m i = true) (hsel : ∀ (j : Nat) (o : Oper) cs b, ops[j]? = some o → o.op ≠ .select cs b) :
    ∀ (fuel : Nat) (listed : Array Bool) (a : Act), Cl md ops listed →
      (∀ j oj, ops[j]? = some oj → j ≠ i → listed.getD j true = false → (∀ e ∈ oj.after, Region.binds md e = true → e.on ≠ i) → oi.apart ops oj = true) →
      i ∈ Region.ready md ops listed → YieldsIn P ops C oi v a →
      anyL P md ops C m L fuel (listed.setIfInBounds i true) (a.put oi.dst v) → anyL P md ops C m L (fuel + 1) listed a := by
  intro fuel
  induction fuel with
  | zero => intro listed a _ _ _ _ H; exact H.elim
  | succ fuel ih =>
    intro listed a hcl hfree hr hy H
    have hun := (mem_ready.1 hr).1
    refine ⟨fun h => (by rw [h] at hr; cases hr), fun j hj => ?_⟩
    by_cases hji : j = i
    · subst hji
      rw [if_neg him]
      exact hy.qOp hi H
    · by_cases hjm : j = m
      · exfalso
        subst hjm
        have h1 := waits_ready hcl i f hj hwt
        rcases Nat.lt_or_ge i listed.size with h' | h'
        · simp [h'] at h1 hun; rw [hun] at h1; cases h1
        · simp [Array.getElem?_eq_none h'] at h1
      · rw [if_neg hjm]
        have h1 := H.2 j (ready_mono hj hji)
        rw [if_neg hjm] at h1
        obtain ⟨hjun, oj, hoj, hall⟩ := mem_ready.1 hj
        have hnot : ∀ e ∈ oj.after, Region.binds md e = true → e.on ≠ i := fun e he hb heq => by
          have h1 := hall e he hb
          rw [heq] at h1
          rcases Nat.lt_or_ge i listed.size with h' | h'
          · simp [h'] at h1 hun; rw [hun] at h1; cases h1
          · simp [Array.getElem?_eq_none h'] at h1
        have h2 := qOp_put hoj (hfree j oj hoj hji hjun hnot) (fun cs b => hsel i oi cs b hi) (fun cs b => hsel j oj cs b hoj) hy h1
        refine qOp_mono (fun a' h3 => ih (listed.setIfInBounds j true) a' (hcl.set hj) (fun k ok hk hki hu hno => hfree k ok hk hki ?_ hno) (ready_mono hr (Ne.symm hji)) h3.1 ?_) h2
        · by_cases hjk : j = k
          · subst hjk; exact hjun
          · rw [getD_set_ne true hjk] at hu; exact hu
        · rw [Array.setIfInBounds_comm _ _ hji]
          exact h3.2

/-- The lexical order can be gone, all but the last. -/
def lexL (md : Region.Mode) (ops : Array Oper) (m f : Nat) : Nat → Nat → Array Bool → Bool
  | 0, _, listed => (Region.ready md ops listed == [m]) && (Region.ready md ops (listed.setIfInBounds m true)).isEmpty
  | fuel + 1, k, listed => (Region.ready md ops listed).contains k && Region.free md ops listed k && (k != m) && waits md ops (f + 1) m k && lexL md ops m f fuel (k + 1) (listed.setIfInBounds k true)

theorem anyL_lex (f : Nat) (hs : Region.noSelect ops = true) : ∀ (l : List Oper) (k : Nat) (listed : Array Bool) (a : Act), Cl md ops listed → (∀ j, j < l.length → l[j]? = ops[k + j]?) →
    lexL md ops m f l.length k listed = true → wpQuiet P ops C L l a → anyL P md ops C m L (l.length + 1) listed a
  | [], _, listed, a, _, _, hB, h => by
    simp only [List.length_nil, lexL, Bool.and_eq_true, beq_iff_eq, List.isEmpty_iff] at hB
    refine ⟨by rw [hB.1]; simp, fun i hi => ?_⟩
    rw [hB.1, List.mem_singleton] at hi
    rw [if_pos hi]
    exact ⟨h, hB.2⟩
  | o :: l, k, listed, a, hcl, hl, hB, h => by
    have h0 : ops[k]? = some o := by have := hl 0 (by simp); simpa using this.symm
    simp only [List.length_cons, lexL, Bool.and_eq_true, bne_iff_ne] at hB
    obtain ⟨⟨⟨⟨hr, hf⟩, hne⟩, hw⟩, hB'⟩ := hB
    have hst : qOp P ops C k (wpQuiet P ops C L l) a := by unfold qOp; simp only [h0]; exact h
    obtain ⟨v, hy, hK⟩ := yieldsIn_of_qOp h0 hst
    have hrm : k ∈ Region.ready md ops listed := by simpa using hr
    exact anyL_first h0 hne hw (Region.noSelect_spec hs) (l.length + 1) listed a hcl (Region.free_spec h0 hf) hrm hy
      (anyL_lex f hs l (k + 1) _ _ (hcl.set hrm) (fun j hj => by have := hl (j + 1) (by simpa using hj); simpa [Nat.add_assoc, Nat.add_comm 1 j] using this) hB' hK)
end

/-- A region whose operations are written out: all but the last only read. -/
theorem wp_region_last {P : Program} {id : Nat} {Q : Exit → Act → World → Prop} {a : Act} {w : World} {l : List Oper} (f : Nat) (last : Oper) (hm : P.follows .mixedOrders = true) (hlast : l[l.length - 1]? = some last) (hg : last.guard = none)
    (hB : (Region.noSelect l.toArray && lexL .any l.toArray (l.length - 1) f (l.length - 1) 0 (Array.replicate l.length false)) = true)
    (h : wpQuiet P l.toArray (fun w' => ∃ n, w' = w.drewN n) (fun a' => ∀ n, Oper.wp P last a' (w.drewN n) (fun a' w' => Q .normal a' w') Q) l.dropLast a) : (Code.region id l.toArray true).wp P Q a w := by
  rw [Bool.and_eq_true] at hB
  have hpos : 0 < l.length := by
    have := (List.getElem?_eq_some_iff.1 hlast).1
    omega
  have hlen : l.dropLast.length + 1 = l.length := by rw [List.length_dropLast]; omega
  refine wp_region_any hm (anyL_sound (C := fun w' => ∃ n, w' = w.drewN n) (m := l.length - 1) (L := fun a' => ∀ n, Oper.wp P last a' (w.drewN n) (fun a' w' => Q .normal a' w') Q) (fun a' w' hw' hL => ?_) _ _ _ _ ⟨1, rfl⟩ ?_)
  · obtain ⟨n, rfl⟩ := hw'
    unfold wpOp
    have e : l.toArray[l.length - 1]? = some last := by simpa using hlast
    have hwn : Region.wanted last (yielded l.toArray a'.tmps) = true := by simp [Region.wanted, hg]
    simp only [e, hwn, if_true]
    exact .inl (hL n)
  · have hx := anyL_lex (P := P) (ops := l.toArray) (md := .any) (C := fun w' => ∃ n, w' = w.drewN n) (m := l.length - 1) (L := fun a' => ∀ n, Oper.wp P last a' (w.drewN n) (fun a' w' => Q .normal a' w') Q) f hB.1 l.dropLast 0 (Array.replicate l.length false) a (Cl.none _)
      (fun j hj => by
        rw [List.length_dropLast] at hj
        rw [List.getElem?_dropLast, if_pos hj]
        simp) (by rw [List.length_dropLast]; exact hB.2) h
    rw [hlen] at hx
    simpa using hx

end Go.Proofs.Ytibgldanmhckiaa

namespace Go.Proofs.Ytibgldanmhckiaa
open Go.RowKit

section
variable {P : Program} {ops : Array Oper} {md : Region.Mode} {S : World → Prop} {Q : Exit → Act → World → Prop} {m : Nat}

/-- Whatever order is picked from here on; behind every operation but number m S holds. -/
def wpAnyT (P : Program) (md : Region.Mode) (ops : Array Oper) (Q : Exit → Act → World → Prop) (S : World → Prop) (m : Nat) : Nat → Array Bool → Act → World → Prop
  | 0, listed, a, w => Region.ready md ops listed = [] ∧ Q .normal a w
  | fuel + 1, listed, a, w => (Region.ready md ops listed = [] → Q .normal a w) ∧ ∀ i ∈ Region.ready md ops listed, wpOp P ops Q i (fun a' w' => (i = m ∨ S w') ∧ wpAnyT P md ops Q S m fuel (listed.setIfInBounds i true) a' w') a w
theorem wpAny_of_T : ∀ (fuel : Nat) (listed : Array Bool) (a : Act) (w : World), wpAnyT P md ops Q S m fuel listed a w → wpAny P md ops Q fuel listed a w
  | 0, _, _, _, h => h
  | fuel + 1, listed, _, _, h => ⟨h.1, fun i hi => wpOp_mono (fun a' w' h2 => wpAny_of_T fuel (listed.setIfInBounds i true) a' w' h2.2) (h.2 i hi)⟩

/-- An operation that yields the same wherever S holds, and for which m waits, may be taken first. -/
theorem wpAnyT_first {i f : Nat} {oi : Oper} {v : Value} (hi : ops[i]? = some oi) (him : i ≠ m) (hwt : waits md ops (f + 1) m i = true) (hsel : ∀ (j : Nat) (o : Oper) cs b, ops[j]? = some o → o.op ≠ .select cs b)
    (hQ : ∀ c a w, Q (.panic c) (a.put oi.dst v) w → Q (.panic c) a w) :
    ∀ (fuel : Nat) (listed : Array Bool) (a : Act) (w : World), Cl md ops listed →
      (∀ j oj, ops[j]? = some oj → j ≠ i → listed.getD j true = false → (∀ e ∈ oj.after, Region.binds md e = true → e.on ≠ i) → oi.apart ops oj = true) →
      i ∈ Region.ready md ops listed → YieldsIf P ops S oi v a → S w →
      wpAnyT P md ops Q S m fuel (listed.setIfInBounds i true) (a.put oi.dst v) w → wpAnyT P md ops Q S m (fuel + 1) listed a w := by
  intro fuel
  induction fuel with
  | zero =>
    intro listed a w _ _ hr hy hS H
    refine ⟨fun h => (by rw [h] at hr; cases hr), fun j hj => ?_⟩
    by_cases hji : j = i
    · subst hji; exact hy.wpOp hi hS ⟨.inr hS, H⟩
    · have := ready_mono hj hji
      rw [H.1] at this
      cases this
  | succ fuel ih =>
    intro listed a w hcl hfree hr hy hS H
    have hun := (mem_ready.1 hr).1
    refine ⟨fun h => (by rw [h] at hr; cases hr), fun j hj => ?_⟩
    by_cases hji : j = i
    · subst hji; exact hy.wpOp hi hS ⟨.inr hS, H⟩
    · have hjm : j ≠ m := by
        intro e
        subst e
        have h1 := waits_ready hcl i f hj hwt
        rcases Nat.lt_or_ge i listed.size with h' | h'
        · simp [h'] at h1 hun; rw [hun] at h1; cases h1
        · simp [Array.getElem?_eq_none h'] at h1
      have h1 := H.2 j (ready_mono hj hji)
      obtain ⟨hjun, oj, hoj, hall⟩ := mem_ready.1 hj
      have hnot : ∀ e ∈ oj.after, Region.binds md e = true → e.on ≠ i := fun e he hb heq => by
        have h1 := hall e he hb
        rw [heq] at h1
        rcases Nat.lt_or_ge i listed.size with h' | h'
        · simp [h'] at h1 hun; rw [hun] at h1; cases h1
        · simp [Array.getElem?_eq_none h'] at h1
      have h2 := wpOp_putIf hoj (hfree j oj hoj hji hjun hnot) (fun cs b => hsel i oi cs b hi) (fun cs b => hsel j oj cs b hoj) hQ hy h1
      refine wpOp_mono (fun a' w' h3 => ?_) h2
      have hS' : S w' := h3.2.1.resolve_left hjm
      refine ⟨.inr hS', ih (listed.setIfInBounds j true) a' w' (hcl.set hj) (fun k ok hk hki hu hno => hfree k ok hk hki ?_ hno) (ready_mono hr (Ne.symm hji)) h3.1 hS' ?_⟩
      · by_cases hjk : j = k
        · subst hjk; exact hjun
        · rw [getD_set_ne true hjk] at hu; exact hu
      · rw [Array.setIfInBounds_comm _ _ hji]
        exact h3.2.2

/-- Those that are not marked, in the order of the text; behind each but the last S. -/
def tailL (P : Program) (ops : Array Oper) (Q : Exit → Act → World → Prop) (S : World → Prop) : List Oper → List Bool → Act → World → Prop
  | o :: rest, false :: ms, a, w => ∀ K' : Act → World → Prop, Shut (∀ a w, (ms = [] ∨ S w) → tailL P ops Q S rest ms a w → K' a w) → if Region.wanted o (yielded ops a.tmps) = true then Oper.wp P o a w K' Q else K' (a.put o.dst undef) w
  | _ :: rest, true :: ms, a, w => tailL P ops Q S rest ms a w
  | _, _, a, w => Q .normal a w
theorem tailL_step {o : Oper} {rest : List Oper} {ms : List Bool} {a : Act} {w : World} (h : ∀ K' : Act → World → Prop, Shut (∀ a w, (ms = [] ∨ S w) → tailL P ops Q S rest ms a w → K' a w) → if Region.wanted o (yielded ops a.tmps) = true then Oper.wp P o a w K' Q else K' (a.put o.dst undef) w) :
    tailL P ops Q S (o :: rest) (false :: ms) a w := h
theorem tailL_skip {o : Oper} {rest : List Oper} {ms : List Bool} {a : Act} {w : World} (h : tailL P ops Q S rest ms a w) : tailL P ops Q S (o :: rest) (true :: ms) a w := h
theorem tailL_nil {a : Act} {w : World} (h : Q .normal a w) : tailL P ops Q S [] [] a w := h

theorem anyT_tail : ∀ (l : List Oper) (ms : List Bool) (k : Nat) (listed : Array Bool) (a : Act) (w : World), l.length = ms.length → (∀ j, j < l.length → l[j]? = ops[k + j]?) → k + l.length = m + 1 →
    lexTail md ops ms k listed = true → tailL P ops Q S l ms a w → wpAnyT P md ops Q S m (leftF ms) listed a w
  | [], [], _, listed, a, w, _, _, _, hB, h => ⟨by simpa [lexTail] using hB, h⟩
  | [], _ :: _, _, _, _, _, hl, _, _, _, _ => by simp at hl
  | _ :: _, [], _, _, _, _, hl, _, _, _, _ => by simp at hl
  | o :: l, true :: ms, k, listed, a, w, hl, ha, hm, hB, h =>
    anyT_tail l ms (k + 1) listed a w (by simpa using hl) (fun j hj => by have := ha (j + 1) (by simpa using hj); simpa [Nat.add_assoc, Nat.add_comm 1 j] using this) (by simp at hm; omega) hB h
  | o :: l, false :: ms, k, listed, a, w, hl, ha, hm, hB, h => by
    have h0 : ops[k]? = some o := by have := ha 0 (by simp); simpa using this.symm
    simp only [lexTail, Bool.and_eq_true, beq_iff_eq] at hB
    refine ⟨fun h1 => by rw [hB.1] at h1; simp at h1, fun i hi => ?_⟩
    rw [hB.1, List.mem_singleton] at hi
    subst hi
    refine wpOp_step h0 (fun K' hK => h K' (fun a' w' hS ht => hK a' w' ⟨?_, ?_⟩))
    · rcases hS with rfl | hS
      · have : l.length = 0 := by simpa using hl
        simp at hm
        exact .inl (by omega)
      · exact .inr hS
    · exact anyT_tail l ms (i + 1) _ a' w' (by simpa using hl) (fun j hj => by have := ha (j + 1) (by simpa using hj); simpa [Nat.add_assoc, Nat.add_comm 1 j] using this) (by simp at hm; omega) hB.2 ht

def lexLast (md : Region.Mode) (ops : Array Oper) (m f : Nat) (all : List Bool) : List Bool → Nat → Array Bool → Bool
  | [], _, listed => lexTail md ops all 0 listed
  | true :: ms, k, listed => (Region.ready md ops listed).contains k && Region.free md ops listed k && (k != m) && waits md ops (f + 1) m k && lexLast md ops m f all ms (k + 1) (listed.setIfInBounds k true)
  | false :: ms, k, listed => lexLast md ops m f all ms (k + 1) listed
theorem anyT_held {f : Nat} {l0 : List Oper} {all : List Bool} (hs : Region.noSelect ops = true) (hQ : ∀ c a d v w, Q (.panic c) (Act.put a d v) w → Q (.panic c) a w) (hl0 : l0.length = all.length) (ha0 : ∀ j, j < l0.length → l0[j]? = ops[0 + j]?) (hm : l0.length = m + 1) :
    ∀ (l : List Oper) (ms : List Bool) (k : Nat) (listed : Array Bool) (a : Act) (w : World), l.length = ms.length → (∀ j, j < l.length → l[j]? = ops[k + j]?) → Cl md ops listed →
    lexLast md ops m f all ms k listed = true → S w → heldF P ops S (fun a' => tailL P ops Q S l0 all a' w) l ms a → wpAnyT P md ops Q S m (takenF ms + leftF all) listed a w
  | [], [], _, listed, a, w, _, _, _, hB, _, h => by
    simp only [takenF, Nat.zero_add]
    exact anyT_tail l0 all 0 listed a w hl0 ha0 (by omega) hB h
  | [], _ :: _, _, _, _, _, hl, _, _, _, _, _ => by simp at hl
  | _ :: _, [], _, _, _, _, hl, _, _, _, _, _ => by simp at hl
  | o :: l, true :: ms, k, listed, a, w, hl, ha, hcl, hB, hS, h => by
    have h0 : ops[k]? = some o := by have := ha 0 (by simp); simpa using this.symm
    simp only [lexLast, Bool.and_eq_true, bne_iff_ne] at hB
    obtain ⟨⟨⟨⟨hr, hf⟩, hne⟩, hw⟩, hB'⟩ := hB
    obtain ⟨v, hy, hK⟩ := h
    have hrm : k ∈ Region.ready md ops listed := by simpa using hr
    have e : takenF (true :: ms) + leftF all = (takenF ms + leftF all) + 1 := by simp only [takenF]; omega
    rw [e]
    exact wpAnyT_first h0 hne hw (Region.noSelect_spec hs) (fun c a' w' hq => hQ c a' _ _ w' hq) _ listed a w hcl (Region.free_spec h0 hf) hrm hy hS
      (anyT_held hs hQ hl0 ha0 hm l ms (k + 1) _ _ w (by simpa using hl) (fun j hj => by have := ha (j + 1) (by simpa using hj); simpa [Nat.add_assoc, Nat.add_comm 1 j] using this) (hcl.set hrm) hB' hS hK)
  | o :: l, false :: ms, k, listed, a, w, hl, ha, hcl, hB, hS, h =>
    anyT_held hs hQ hl0 ha0 hm l ms (k + 1) listed a w (by simpa using hl) (fun j hj => by have := ha (j + 1) (by simpa using hj); simpa [Nat.add_assoc, Nat.add_comm 1 j] using this) hcl hB hS h
end

/-- A region whose operations are written out, and which of them are taken first; the last one waits for all. -/
theorem wp_region_tailL {P : Program} {id : Nat} {Q : Exit → Act → World → Prop} {a : Act} {w : World} {l : List Oper} (f : Nat) (S : World → Prop) (ms : List Bool) (hm : P.follows .mixedOrders = true) (hQ : ∀ c a d v w, Q (.panic c) (Act.put a d v) w → Q (.panic c) a w)
    (hl : l.length = ms.length) (hpos : 0 < l.length) (hB : (Region.noSelect l.toArray && lexLast .any l.toArray (l.length - 1) f ms ms 0 (Array.replicate l.length false)) = true)
    (hS : S w.drew) (h : heldF P l.toArray S (fun a' => tailL P l.toArray Q S l ms a' w.drew) l ms a) : (Code.region id l.toArray true).wp P Q a w := by
  rw [Bool.and_eq_true] at hB
  refine wp_region_any hm (wpAny_of_T (S := S) (m := l.length - 1) _ _ _ _ ?_)
  have := anyT_held (P := P) (ops := l.toArray) (md := .any) (S := S) (Q := Q) (m := l.length - 1) (f := f) (l0 := l) (all := ms) hB.1 hQ hl (fun j hj => by simp) (by omega) l ms 0 (Array.replicate l.length false) a w.drew hl (fun j hj => by simp) (Cl.none _) hB.2 hS h
  rw [count_all ms, ← hl] at this
  simpa using this

end Go.Proofs.Ytibgldanmhckiaa

namespace Go.Proofs.Ytibgldanmhckiaa
open Go.RowKit

theorem infoIntSS : (Try.prog.info? 32).map (fun i => (i.zero, i.size, i.bytes)) = some (some (.slice none 0 0), 1, 24) := by kernel_rfl

theorem fillIntSS (a : List (List Int)) (i : Nat) (h : i < a.length) : (a.take i ++ List.replicate (a.length - i) []).set i a[i] = a.take (i + 1) ++ List.replicate (a.length - (i + 1)) [] := by
  have hl : (a.take i).length = i := by rw [List.length_take]; omega
  rw [List.set_append_right _ _ (by omega), hl, Nat.sub_self, show a.length - i = (a.length - (i + 1)) + 1 by omega, List.replicate_succ, List.set_cons_zero, List.take_succ_eq_append_getElem h, List.append_assoc]
  rfl

set_option maxRecDepth 20000 in
set_option maxHeartbeats 1600000 in
theorem toIntSSD (HE : ToC 34 (RdI .i64) (OwI .i64 3) (lenI)) (hQ : StR (RdI .i64)) (hP : OwOk (OwI .i64 3)) (hN : ∀ w, (OwI .i64 3) w (.slice none 0 0) [] []) : ToC 98 (RdR (RdI .i64)) (OwR 32 (OwI .i64 3)) (szR (lenI)) := by
  intro w u a hq hs
  obtain ⟨ao, cap, rfl, hel⟩ := hq
  obtain ⟨i0, hi, hz0, hz1, hz2⟩ := info_parts infoIntSS
  have HEL := hide hel
  have HEE := hide HE
  have hlen := szR_len (lenI) a
  have HSE := hide (fun i h => (szR_el (lenI) a i h).2)
  obtain ⟨n, HN⟩ : ∃ n, Hid (a.length = n) := ⟨_, rfl⟩
  have hn : n ≤ 1048576 := by have := unhide HN; omega
  have HS := hide hs
  rw [unhide HN]
  clear hel HE hs hlen
  go_enter Try.func98, Try.ntmps98
  go_wp2_with (at_make; refine wpList_make_full _ rfl _ _ 42 rfl w.heap.size 32 i0 (.slice none 0 0) 1 Try.underlying42 hi hz0 hz1 .i64 .i64 _ _ n rfl rfl rfl rfl (by rw [hz2]; omega) (by unfold maxLen; omega) (Nat.le_refl _) ?_)
  intro w1 hown hgrow
  rw [toList_madeCells_one] at hown
  have HO1 : Hid (OwR 32 (OwI .i64 3) w1 (.slice (some ⟨w.heap.size, 0, none⟩) n n) (a.take 0 ++ List.replicate (a.length - 0) []) (blk (.slice (some ⟨w.heap.size, 0, none⟩) n n))) := by
    have h := OwR.made hN hown
    rw [List.take_zero, List.nil_append, Nat.sub_zero, unhide HN]
    exact h
  have HG1 := hide hgrow
  have HF1 : Hid (∀ g ∈ blk (.slice (some ⟨w.heap.size, 0, none⟩) n n), w.heap.size ≤ g) := fun g hg => by have : w.heap.size = g := Option.some.inj (mem_blk.1 hg); omega
  clear hown hgrow hi hz0 hz1 hz2
  go_wp2
  go_loopw [4] (fun iv wr => ∃ (i : Nat) (F : List Nat), i ≤ n ∧ iv = .int .i64 i ∧ Hid (OwR 32 (OwI .i64 3) wr (.slice (some ⟨w.heap.size, 0, none⟩) n n) (a.take i ++ List.replicate (a.length - i) []) F) ∧ Hid F.Nodup ∧ Hid (∀ g ∈ F, w.heap.size ≤ g) ∧ Hid (w.grownBy wr none)) (fun iv _ => n - (intOf iv).toNat)
  case atStart => exact ⟨0, _, Nat.zero_le _, rfl, HO1, blk_nodup _, HF1, HG1⟩
  case round =>
    clear HO1 HG1 HF1
    obtain ⟨i, F, hin, rfl, ho, hnd, hF, hg⟩ := hrel
    by_cases hlt : i < n
    · have hia : i < a.length := by rw [unhide HN]; exact hlt
      obtain ⟨b, off, u, rfl, c0, q0⟩ := unhide HEL i hia
      have c1 := (unhide hg).cell c0 (by simp)
      have HT := hide (unhide HEE wr u a[i] (hQ _ _ _ _ q0 (unhide hg)) (Nat.le_trans (unhide HSE i hia) (unhide HS)))
      have hiI : (i : Int) < (n : Int) := by omega
      clear c0 q0
      go_wp2_with fail
      refine (unhide HT).mono ?_
      rintro e w2 ⟨u', F', rfl, p2, n2, b2, g2⟩
      obtain ⟨uo, un, uc, rfl⟩ := hP.form _ _ _ _ p2
      have ho2 := (OwR.ok hP).keep (unhide ho) g2
      have hll : i < (a.take i ++ List.replicate (a.length - i) ([] : List Int)).length := by simp; omega
      obtain ⟨g0, cap0, u0, e0, c2, f2⟩ := ho2.slot i hll
      obtain rfl : g0 = w.heap.size := by simp at e0; exact e0.1.symm
      obtain ⟨F3, o3, n3, m3⟩ := ho2.put hP (unhide hnd) i hll (g := w.heap.size) rfl p2 n2 (fun x hx hx2 => by
        have h1 := b2 x hx
        have h2 := (OwR.ok hP).lt _ _ _ _ (unhide ho) x hx2
        omega)
      rw [fillIntSS a i hia] at o3
      have HO3 := hide o3
      have HF3 : Hid (∀ g ∈ F3, w.heap.size ≤ g) := fun g hg3 => by
        rcases m3 g hg3 with h | h
        · exact unhide hF g h
        · exact Nat.le_trans (unhide hg).size (b2 g h)
      have HG3 : Hid (w.grownBy (w2.setCell ⟨w.heap.size, i, none⟩ (.slice uo un uc)) none) := grown_new (grown_trans (unhide hg) g2) (grown_set w2 w.heap.size i (.slice uo un uc)) (fun k e => by have := Option.some.inj e; omega)
      have HN3 := hide n3
      clear ho2 o3 n3 m3 p2 n2 b2 g2 HT ho hnd hF hg e0 c1
      go_wp2
      go_roundw
      case rel => exact ⟨i + 1, F3, by omega, by go_num, HO3, HN3, HF3, HG3⟩
      case measure => simp [intOf]; omega
    · obtain rfl : i = n := by omega
      have HO4 : Hid (OwR 32 (OwI .i64 3) wr (.slice (some ⟨w.heap.size, 0, none⟩) i i) a F) := by
        have h := unhide ho
        rw [← unhide HN, List.take_length, Nat.sub_self, List.replicate_zero, List.append_nil, unhide HN] at h
        exact h
      clear ho
      go_wp2
      go_ret
      exact ⟨_, F, rfl, unhide HO4, unhide hnd, unhide hF, unhide hg⟩

set_option maxRecDepth 20000 in
set_option maxHeartbeats 1600000 in
theorem eqIntSSD (HE : EqC 31 (RdI .i64) (lenI)) (hQ : StR (RdI .i64)) : EqC 93 (RdR (RdI .i64)) (szR (lenI)) := by
  intro w u u' a hq hq' hs
  obtain ⟨ao, cap, rfl, hel⟩ := hq
  obtain ⟨bo, cap', rfl, hel'⟩ := hq'
  have HEL := hide hel
  have HEM := hide hel'
  have HEE := hide HE
  have hlen := szR_len (lenI) a
  have HSE := hide (fun i h => (szR_el (lenI) a i h).2)
  obtain ⟨n, HN⟩ : ∃ n, Hid (a.length = n) := ⟨_, rfl⟩
  have hn : n ≤ 1048576 := by have := unhide HN; omega
  have HS := hide hs
  rw [unhide HN]
  have hne : ((n : Int) != n) = false := by simp
  clear hel hel' HE hs hlen
  go_enter Try.func93, Try.ntmps93
  go_wp2
  go_loopw [5] (fun iv wr => ∃ i : Nat, i ≤ n ∧ iv = .int .i64 i ∧ Hid (w.grownBy wr none)) (fun iv _ => n - (intOf iv).toNat)
  case atStart => exact ⟨0, Nat.zero_le _, rfl, World.grownBy.refl _ _⟩
  case round =>
    obtain ⟨i, hin, rfl, hg⟩ := hrel
    by_cases hlt : i < n
    · have hia : i < a.length := by rw [unhide HN]; exact hlt
      obtain ⟨b, off, u, rfl, c0, q0⟩ := unhide HEL i hia
      obtain ⟨b', off', u', rfl, c0', q0'⟩ := unhide HEM i hia
      have d0 := (unhide hg).cell c0 (by simp)
      have d1 := (unhide hg).cell c0' (by simp)
      have HD := hide (And.intro d0 d1)
      have HT : Hid (∀ W, wr.grownBy W none → Calls Try.prog 31 #[u, u'] W fun e w' => e = .returned (.bool true) ∧ W.grownBy w' none) := fun W gW => unhide HEE W u u' a[i] (hQ _ _ _ _ q0 (grown_trans (unhide hg) gW)) (hQ _ _ _ _ q0' (grown_trans (unhide hg) gW)) (Nat.le_trans (unhide HSE i hia) (unhide HS))
      have hiI : (i : Int) < (n : Int) := by omega
      clear c0 q0 c0' q0'
      go_wp2
      refine wp_region_noPanic ?_
      refine wp_region_tailL 20 (fun w' => w'.cell? ⟨b, off + i, none⟩ = some u ∧ w'.cell? ⟨b', off' + i, none⟩ = some u') [true, true, true, true, true, true, true, true, false, false] (by kernel_rfl) (fun _ _ _ _ _ h => h) rfl (by decide) (by kernel_rfl) (unhide HD) ?_
      iterate 8
        refine heldF_take (v := ?_) (Or.inl ⟨by rfl, ?_⟩) ?_
        rotate_left 1
        · intro w' hSw
          try dsimp only at hSw
          obtain ⟨z0, z1⟩ := hSw
          go_simp
          try with_reducible rfl
        simp only [Act.put, List.setIfInBounds_toArray, List.set_cons_zero, List.set_cons_succ]
      iterate 2 refine heldF_skip ?_
      refine heldF_nil ?_
      iterate 8 refine tailL_skip ?_
      refine tailL_step (fun K hK => ?_)
      go_simp
      refine (unhide HT _ (grown_drew (World.grownBy.refl _ _))).mono ?_
      rintro e w2 ⟨rfl, g2⟩
      have g3 := grown_trans (grown_drew (World.grownBy.refl wr none)) g2
      have HD2 := hide (And.intro (g3.cell d0 (by simp)) (g3.cell d1 (by simp)))
      have HG3 := hide (grown_trans (unhide hg) g3)
      clear g2 g3 hg HT d0 d1 HD
      go_simp
      refine hK.out _ _ (.inr (unhide HD2)) ?_
      clear hK K
      refine tailL_step (fun K hK => ?_)
      go_simp
      refine hK.out _ _ (.inl rfl) ?_
      clear hK K HD2
      refine tailL_nil (NoPanic.normal ?_)
      go_wp2
      go_roundw
      case rel => exact ⟨i + 1, by omega, by go_num, HG3⟩
      case measure => simp [intOf]; omega
    · obtain rfl : i = n := by omega
      go_wp2
      go_ret
      exact ⟨rfl, unhide hg⟩

set_option maxRecDepth 20000 in
set_option maxHeartbeats 1600000 in
theorem markIntSSD (HE : MarkC 32 (OwI .i64 3) (mkI) (lenI) (lenI)) (hP : OwOk (OwI .i64 3)) : MarkC 95 (OwR 32 (OwI .i64 3)) (mkR (mkI) (lenI)) (cntR (lenI)) (szR (lenI)) := by
  intro w u a F k hp hnd hs hk0 hk1
  obtain ⟨ao, cap, rfl⟩ := hp.form
  have HEE := hide HE
  have HND := hide hnd
  have hlen := szR_len (lenI) a
  have HSE := hide (fun i h => (szR_el (lenI) a i h).2)
  have H0 : Hid (OwR 32 (OwI .i64 3) w (.slice ao a.length cap) (overR (mkI) (lenI) a k 0) F) := hp
  obtain ⟨n, HN⟩ : ∃ n, Hid (a.length = n) := ⟨_, rfl⟩
  have hn : n ≤ 1048576 := by have := unhide HN; omega
  have HS := hide hs
  obtain ⟨tot, HTOT⟩ : ∃ tot, Hid (cntR (lenI) a = tot) := ⟨_, rfl⟩
  rw [unhide HTOT] at hk1 ⊢
  rw [unhide HN] at H0 ⊢
  obtain ⟨A2, HA2⟩ : ∃ A2, Hid (mkR (mkI) (lenI) a k = A2) := ⟨_, rfl⟩
  rw [unhide HA2]
  clear hp HE hs hlen hnd
  go_enter Try.func95, Try.ntmps95
  go_wp2
  go_loopw [1, 5] (fun kv iv wr => ∃ (i c : Nat), i ≤ n ∧ iv = .int .i64 i ∧ kv = .int .i64 (k + (c : Int)) ∧ Hid (cntR (lenI) (a.take i) = c) ∧ Hid (OwR 32 (OwI .i64 3) wr (.slice ao n cap) (overR (mkI) (lenI) a k i) F) ∧ Hid (Wr F w wr)) (fun _ iv _ => n - (intOf iv).toNat)
  case atStart => exact ⟨0, 0, Nat.zero_le _, rfl, by simp, rfl, H0, Wr.refl _ _⟩
  case round =>
    clear H0
    obtain ⟨i, c, hin, rfl, rfl, hc, ho, hw⟩ := hrel
    by_cases hlt : i < n
    · have hia : i < a.length := by rw [unhide HN]; exact hlt
      have hol : i < (overR (mkI) (lenI) a k i).length := by rw [overR_len _ _ _ _ _ (by omega)]; exact hia
      have hnx := cntR_next (lenI) a i hia
      have hle := cntR_le (lenI) a (i + 1)
      rw [unhide hc] at hnx
      rw [hnx, unhide HTOT] at hle
      obtain ⟨g, cap0, u, Fi, e0, hgF, c0, p0, nd0, _, sub0, back⟩ := (unhide ho).at hP (unhide HND) i hol
      rw [overR_at (mkI) (lenI) a k i hia] at p0
      obtain ⟨rfl, rfl⟩ : ao = some ⟨g, 0, none⟩ ∧ cap = cap0 := by simp at e0; exact ⟨e0.1, e0.2.2⟩
      have HT := hide (unhide HEE wr u a[i] Fi (k + (c : Int)) p0 nd0 (Nat.le_trans (unhide HSE i hia) (unhide HS)) (by omega) (by omega))
      obtain ⟨ce, HCE⟩ : ∃ ce, Hid ((lenI) a[i] = ce) := ⟨_, hide rfl⟩
      rw [unhide HCE] at HT hnx hle
      have HBK := hide back
      have HSB := hide sub0
      have HNX := hide hnx
      have hiI : (i : Int) < (n : Int) := by omega
      clear p0 nd0 back sub0 e0 hgF hnx
      go_wp2_with fail
      refine (unhide HT).mono ?_
      rintro e w2 ⟨rfl, p2, g2⟩
      have h2 := unhide HBK w2 _ g2 p2
      rw [← unhide hc, overR_set (mkI) (lenI) a k i hia] at h2
      have HO2 := hide h2
      have HW2 := hide ((unhide hw).trans (g2.mono (unhide HSB)))
      clear p2 g2 h2 HT HBK HSB ho hw c0
      have e5 : k + (c : Int) + (ce : Int) = k + ((c + ce : Nat) : Int) := by omega
      rw [e5]
      go_wp2
      go_roundw
      case rel => exact ⟨i + 1, c + ce, by omega, by go_num, rfl, HNX, HO2, HW2⟩
      case measure => simp [intOf]; omega
    · obtain rfl : i = n := by omega
      have HO4 : Hid (OwR 32 (OwI .i64 3) wr (.slice ao i cap) A2 F) := by
        have h := unhide ho
        have e9 : overR (mkI) (lenI) a k i = A2 := by rw [← unhide HN, overR_all]; exact unhide HA2
        rw [e9] at h
        exact h
      have hct : c = tot := by rw [← unhide hc, ← unhide HN, cntR_all]; exact unhide HTOT
      subst hct
      clear ho hc
      go_wp2
      go_ret
      exact ⟨rfl, unhide HO4, unhide hw⟩

set_option maxRecDepth 20000 in
set_option maxHeartbeats 1600000 in
theorem heldIntSSD (HE : HeldC 33 (RdI .i64) (mkI) (lenI) (lenI)) (hQ : StR (RdI .i64)) : HeldC 96 (RdR (RdI .i64)) (mkR (mkI) (lenI)) (cntR (lenI)) (szR (lenI)) := by
  intro w u a k hq hs hk0 hk1
  obtain ⟨ao, cap, rfl, hel⟩ := hq
  have HEL := hide hel
  have HEE := hide HE
  have hlen := szR_len (lenI) a
  have HSE := hide (fun i h => (szR_el (lenI) a i h).2)
  rw [mkR_len]
  obtain ⟨n, HN⟩ : ∃ n, Hid (a.length = n) := ⟨_, rfl⟩
  have hn : n ≤ 1048576 := by have := unhide HN; omega
  have HS := hide hs
  obtain ⟨tot, HTOT⟩ : ∃ tot, Hid (cntR (lenI) a = tot) := ⟨_, rfl⟩
  rw [unhide HTOT] at hk1 ⊢
  rw [unhide HN]
  clear hel HE hs hlen
  go_enter Try.func96, Try.ntmps96
  go_wp2
  go_loopw [1, 5] (fun kv iv wr => ∃ (i c : Nat), i ≤ n ∧ iv = .int .i64 i ∧ kv = .int .i64 (k + (c : Int)) ∧ Hid (cntR (lenI) (a.take i) = c) ∧ Hid (w.grownBy wr none)) (fun _ iv _ => n - (intOf iv).toNat)
  case atStart => exact ⟨0, 0, Nat.zero_le _, rfl, by simp, rfl, World.grownBy.refl _ _⟩
  case round =>
    obtain ⟨i, c, hin, rfl, rfl, hc, hg⟩ := hrel
    by_cases hlt : i < n
    · have hia : i < a.length := by rw [unhide HN]; exact hlt
      have hnx := cntR_next (lenI) a i hia
      have hle := cntR_le (lenI) a (i + 1)
      rw [unhide hc] at hnx
      rw [hnx, unhide HTOT] at hle
      obtain ⟨b, off, u, rfl, c0, q0⟩ := unhide HEL i (by rw [mkR_len]; exact hia)
      rw [mkR_at (mkI) (lenI) a k i hia, unhide hc] at q0
      have c1 := (unhide hg).cell c0 (by simp)
      have HT := hide (unhide HEE wr u a[i] (k + (c : Int)) (hQ _ _ _ _ q0 (unhide hg)) (Nat.le_trans (unhide HSE i hia) (unhide HS)) (by omega) (by omega))
      obtain ⟨ce, HCE⟩ : ∃ ce, Hid ((lenI) a[i] = ce) := ⟨_, hide rfl⟩
      rw [unhide HCE] at HT hnx hle
      have HNX := hide hnx
      have hiI : (i : Int) < (n : Int) := by omega
      clear c0 q0 hnx
      go_wp2_with fail
      refine (unhide HT).mono ?_
      rintro e w2 ⟨rfl, g2⟩
      have HG2 := hide (grown_trans (unhide hg) g2)
      clear g2 HT hg c1
      have e5 : k + (c : Int) + (ce : Int) = k + ((c + ce : Nat) : Int) := by omega
      rw [e5]
      have hneg : decide (k + ((c + ce : Nat) : Int) < 0) = false := decide_eq_false (by omega)
      obtain ⟨kk, HKK⟩ : ∃ kk : Int, Hid (k + ((c + ce : Nat) : Int) = kk) := ⟨_, hide rfl⟩
      rw [unhide HKK] at hneg ⊢
      go_wp2
      go_roundw
      case rel => exact ⟨i + 1, c + ce, by omega, by go_num, by rw [unhide HKK], HNX, HG2⟩
      case measure => simp [intOf]; omega
    · obtain rfl : i = n := by omega
      have hct : c = tot := by rw [← unhide hc, ← unhide HN, cntR_all]; exact unhide HTOT
      subst hct
      clear hc
      go_wp2
      go_ret
      exact ⟨rfl, unhide hg⟩

set_option maxRecDepth 20000 in
set_option maxHeartbeats 1600000 in
theorem szIntSSD (HE : SzC 114 (RdZ (RdI .i64)) (lenI)) : SzC 97 (RdZ (RdR (RdZ (RdI .i64)))) (szR (lenI)) := by
  intro w u a left hq hl
  obtain ⟨⟨ao, cap, rfl, hel⟩, hmx⟩ := hq
  unfold maxLen at hmx
  have HEL := hide hel
  have HEE := hide HE
  obtain ⟨n, HN⟩ : ∃ n, Hid (a.length = n) := ⟨_, rfl⟩
  have HSZ : Hid (szR (lenI) a = n + cntR (lenI) a) := by unfold Hid szR; rw [unhide HN]; rfl
  obtain ⟨res, HRES⟩ : ∃ res : Int, Hid ((if szR (lenI) a ≤ left then (left : Int) - szR (lenI) a else -1) = res) := ⟨_, rfl⟩
  rw [unhide HRES]
  rw [unhide HN] at hmx ⊢
  have e1 := i64_in ((left : Int) - (n : Int)) (by omega)
  clear hel HE
  by_cases hnl : n ≤ left
  · have hd : decide ((left : Int) - (n : Int) < 0) = false := decide_eq_false (by omega)
    go_enter Try.func97, Try.ntmps97
    go_wp2
    go_loopw [1, 5] (fun kv iv wr => ∃ (i c : Nat), i ≤ n ∧ iv = .int .i64 i ∧ kv = .int .i64 ((left : Int) - (n : Int) - (c : Int)) ∧ n + c ≤ left ∧ Hid (cntR (lenI) (a.take i) = c) ∧ wr = w) (fun _ iv _ => n - (intOf iv).toNat)
    case atStart => exact ⟨0, 0, Nat.zero_le _, rfl, by simp, by omega, rfl, rfl⟩
    case round =>
      obtain ⟨i, c, hin, rfl, rfl, hcl, hc, rfl⟩ := hrel
      by_cases hlt : i < n
      · have hia : i < a.length := by rw [unhide HN]; exact hlt
        have hnx := cntR_next (lenI) a i hia
        have hle := cntR_le (lenI) a (i + 1)
        rw [unhide hc] at hnx
        obtain ⟨b, off, u, rfl, c0, q0⟩ := unhide HEL i hia
        obtain ⟨lf, hlf⟩ : ∃ lf : Nat, left - n - c = lf := ⟨_, rfl⟩
        have e2 : (left : Int) - (n : Int) - (c : Int) = (lf : Int) := by omega
        have HT := hide (unhide HEE wr u a[i] lf q0 (by omega))
        obtain ⟨ce, HCE⟩ : ∃ ce, Hid ((lenI) a[i] = ce) := ⟨_, hide rfl⟩
        rw [unhide HCE] at HT hnx
        have hiI : (i : Int) < (n : Int) := by omega
        rw [e2]
        by_cases hce : ce ≤ lf
        · have hi1 : (if ce ≤ lf then (lf : Int) - (ce : Int) else -1) = (left : Int) - (n : Int) - ((c + ce : Nat) : Int) := by rw [if_pos hce]; omega
          rw [hi1] at HT
          have HNX := hide hnx
          have hneg : decide ((left : Int) - (n : Int) - ((c + ce : Nat) : Int) < 0) = false := decide_eq_false (by omega)
          obtain ⟨kk, HKK⟩ : ∃ kk : Int, Hid ((left : Int) - (n : Int) - ((c + ce : Nat) : Int) = kk) := ⟨_, hide rfl⟩
          rw [unhide HKK] at hneg HT
          clear q0 hnx hle hi1
          go_wp2_with fail
          refine (unhide HT).mono ?_
          rintro e w2 ⟨rfl, rfl⟩
          clear HT
          go_wp2
          go_roundw
          case rel => exact ⟨i + 1, c + ce, by omega, by go_num, by rw [unhide HKK], by omega, HNX, trivial⟩
          case measure => simp [intOf]; omega
        · rw [if_neg hce] at HT
          have hres : res = -1 := by
            rw [← unhide HRES, if_neg]
            rw [unhide HSZ]
            omega
          subst hres
          clear q0 hnx hle
          go_wp2_with fail
          refine (unhide HT).mono ?_
          rintro e w2 ⟨rfl, rfl⟩
          clear HT
          go_wp2
          go_ret
          exact ⟨rfl, rfl⟩
      · obtain rfl : i = n := by omega
        have hct : cntR (lenI) a = c := by rw [← unhide hc, ← unhide HN, cntR_all]
        have hres : res = (left : Int) - (i : Int) - (c : Int) := by
          rw [← unhide HRES, unhide HSZ, hct, if_pos (by omega)]
          omega
        subst hres
        clear hc hct
        go_wp2
        go_ret
        exact ⟨rfl, rfl⟩
  · have hd : decide ((left : Int) - (n : Int) < 0) = true := decide_eq_true (by omega)
    have hres : res = -1 := by
      rw [← unhide HRES, if_neg]
      rw [unhide HSZ]
      omega
    subst hres
    go_enter Try.func97, Try.ntmps97
    go_wp2
    go_ret
    exact ⟨rfl, rfl⟩

end Go.Proofs.Ytibgldanmhckiaa

namespace Go.Proofs.Ytibgldanmhckiaa
open Go.RowKit

theorem infoIntSSS : (Try.prog.info? 42).map (fun i => (i.zero, i.size, i.bytes)) = some (some (.slice none 0 0), 1, 24) := by kernel_rfl

theorem fillIntSSS (a : List (List (List Int))) (i : Nat) (h : i < a.length) : (a.take i ++ List.replicate (a.length - i) []).set i a[i] = a.take (i + 1) ++ List.replicate (a.length - (i + 1)) [] := by
  have hl : (a.take i).length = i := by rw [List.length_take]; omega
  rw [List.set_append_right _ _ (by omega), hl, Nat.sub_self, show a.length - i = (a.length - (i + 1)) + 1 by omega, List.replicate_succ, List.set_cons_zero, List.take_succ_eq_append_getElem h, List.append_assoc]
  rfl

set_option maxRecDepth 20000 in
set_option maxHeartbeats 1600000 in
theorem toIntSSSD (HE : ToC 98 (RdR (RdI .i64)) (OwR 32 (OwI .i64 3)) (szR lenI)) (hQ : StR (RdR (RdI .i64))) (hP : OwOk (OwR 32 (OwI .i64 3))) (hN : ∀ w, (OwR 32 (OwI .i64 3)) w (.slice none 0 0) [] []) : ToC 67 (RdR (RdR (RdI .i64))) (OwR 42 (OwR 32 (OwI .i64 3))) (szR (szR lenI)) := by
  intro w u a hq hs
  obtain ⟨ao, cap, rfl, hel⟩ := hq
  obtain ⟨i0, hi, hz0, hz1, hz2⟩ := info_parts infoIntSSS
  have HEL := hide hel
  have HEE := hide HE
  have hlen := szR_len (szR lenI) a
  have HSE := hide (fun i h => (szR_el (szR lenI) a i h).2)
  obtain ⟨n, HN⟩ : ∃ n, Hid (a.length = n) := ⟨_, rfl⟩
  have hn : n ≤ 1048576 := by have := unhide HN; omega
  have HS := hide hs
  rw [unhide HN]
  clear hel HE hs hlen
  go_enter Try.func67, Try.ntmps67
  go_wp2_with (at_make; refine wpList_make_full _ rfl _ _ 27 rfl w.heap.size 42 i0 (.slice none 0 0) 1 Try.underlying27 hi hz0 hz1 .i64 .i64 _ _ n rfl rfl rfl rfl (by rw [hz2]; omega) (by unfold maxLen; omega) (Nat.le_refl _) ?_)
  intro w1 hown hgrow
  rw [toList_madeCells_one] at hown
  have HO1 : Hid (OwR 42 (OwR 32 (OwI .i64 3)) w1 (.slice (some ⟨w.heap.size, 0, none⟩) n n) (a.take 0 ++ List.replicate (a.length - 0) []) (blk (.slice (some ⟨w.heap.size, 0, none⟩) n n))) := by
    have h := OwR.made hN hown
    rw [List.take_zero, List.nil_append, Nat.sub_zero, unhide HN]
    exact h
  have HG1 := hide hgrow
  have HF1 : Hid (∀ g ∈ blk (.slice (some ⟨w.heap.size, 0, none⟩) n n), w.heap.size ≤ g) := fun g hg => by have : w.heap.size = g := Option.some.inj (mem_blk.1 hg); omega
  clear hown hgrow hi hz0 hz1 hz2
  go_wp2
  go_loopw [4] (fun iv wr => ∃ (i : Nat) (F : List Nat), i ≤ n ∧ iv = .int .i64 i ∧ Hid (OwR 42 (OwR 32 (OwI .i64 3)) wr (.slice (some ⟨w.heap.size, 0, none⟩) n n) (a.take i ++ List.replicate (a.length - i) []) F) ∧ Hid F.Nodup ∧ Hid (∀ g ∈ F, w.heap.size ≤ g) ∧ Hid (w.grownBy wr none)) (fun iv _ => n - (intOf iv).toNat)
  case atStart => exact ⟨0, _, Nat.zero_le _, rfl, HO1, blk_nodup _, HF1, HG1⟩
  case round =>
    clear HO1 HG1 HF1
    obtain ⟨i, F, hin, rfl, ho, hnd, hF, hg⟩ := hrel
    by_cases hlt : i < n
    · have hia : i < a.length := by rw [unhide HN]; exact hlt
      obtain ⟨b, off, u, rfl, c0, q0⟩ := unhide HEL i hia
      have c1 := (unhide hg).cell c0 (by simp)
      have HT := hide (unhide HEE wr u a[i] (hQ _ _ _ _ q0 (unhide hg)) (Nat.le_trans (unhide HSE i hia) (unhide HS)))
      have hiI : (i : Int) < (n : Int) := by omega
      clear c0 q0
      go_wp2_with fail
      refine (unhide HT).mono ?_
      rintro e w2 ⟨u', F', rfl, p2, n2, b2, g2⟩
      obtain ⟨uo, un, uc, rfl⟩ := hP.form _ _ _ _ p2
      have ho2 := (OwR.ok hP).keep (unhide ho) g2
      have hll : i < (a.take i ++ List.replicate (a.length - i) ([] : List (List Int))).length := by simp; omega
      obtain ⟨g0, cap0, u0, e0, c2, f2⟩ := ho2.slot i hll
      obtain rfl : g0 = w.heap.size := by simp at e0; exact e0.1.symm
      obtain ⟨F3, o3, n3, m3⟩ := ho2.put hP (unhide hnd) i hll (g := w.heap.size) rfl p2 n2 (fun x hx hx2 => by
        have h1 := b2 x hx
        have h2 := (OwR.ok hP).lt _ _ _ _ (unhide ho) x hx2
        omega)
      rw [fillIntSSS a i hia] at o3
      have HO3 := hide o3
      have HF3 : Hid (∀ g ∈ F3, w.heap.size ≤ g) := fun g hg3 => by
        rcases m3 g hg3 with h | h
        · exact unhide hF g h
        · exact Nat.le_trans (unhide hg).size (b2 g h)
      have HG3 : Hid (w.grownBy (w2.setCell ⟨w.heap.size, i, none⟩ (.slice uo un uc)) none) := grown_new (grown_trans (unhide hg) g2) (grown_set w2 w.heap.size i (.slice uo un uc)) (fun k e => by have := Option.some.inj e; omega)
      have HN3 := hide n3
      clear ho2 o3 n3 m3 p2 n2 b2 g2 HT ho hnd hF hg e0 c1
      go_wp2
      go_roundw
      case rel => exact ⟨i + 1, F3, by omega, by go_num, HO3, HN3, HF3, HG3⟩
      case measure => simp [intOf]; omega
    · obtain rfl : i = n := by omega
      have HO4 : Hid (OwR 42 (OwR 32 (OwI .i64 3)) wr (.slice (some ⟨w.heap.size, 0, none⟩) i i) a F) := by
        have h := unhide ho
        rw [← unhide HN, List.take_length, Nat.sub_self, List.replicate_zero, List.append_nil, unhide HN] at h
        exact h
      clear ho
      go_wp2
      go_ret
      exact ⟨_, F, rfl, unhide HO4, unhide hnd, unhide hF, unhide hg⟩

set_option maxRecDepth 20000 in
set_option maxHeartbeats 1600000 in
theorem eqIntSSSD (HE : EqC 93 (RdR (RdI .i64)) (szR lenI)) (hQ : StR (RdR (RdI .i64))) : EqC 61 (RdR (RdR (RdI .i64))) (szR (szR lenI)) := by
  intro w u u' a hq hq' hs
  obtain ⟨ao, cap, rfl, hel⟩ := hq
  obtain ⟨bo, cap', rfl, hel'⟩ := hq'
  have HEL := hide hel
  have HEM := hide hel'
  have HEE := hide HE
  have hlen := szR_len (szR lenI) a
  have HSE := hide (fun i h => (szR_el (szR lenI) a i h).2)
  obtain ⟨n, HN⟩ : ∃ n, Hid (a.length = n) := ⟨_, rfl⟩
  have hn : n ≤ 1048576 := by have := unhide HN; omega
  have HS := hide hs
  rw [unhide HN]
  have hne : ((n : Int) != n) = false := by simp
  clear hel hel' HE hs hlen
  go_enter Try.func61, Try.ntmps61
  go_wp2
  go_loopw [5] (fun iv wr => ∃ i : Nat, i ≤ n ∧ iv = .int .i64 i ∧ Hid (w.grownBy wr none)) (fun iv _ => n - (intOf iv).toNat)
  case atStart => exact ⟨0, Nat.zero_le _, rfl, World.grownBy.refl _ _⟩
  case round =>
    obtain ⟨i, hin, rfl, hg⟩ := hrel
    by_cases hlt : i < n
    · have hia : i < a.length := by rw [unhide HN]; exact hlt
      obtain ⟨b, off, u, rfl, c0, q0⟩ := unhide HEL i hia
      obtain ⟨b', off', u', rfl, c0', q0'⟩ := unhide HEM i hia
      have d0 := (unhide hg).cell c0 (by simp)
      have d1 := (unhide hg).cell c0' (by simp)
      have HD := hide (And.intro d0 d1)
      have HT : Hid (∀ W, wr.grownBy W none → Calls Try.prog 93 #[u, u'] W fun e w' => e = .returned (.bool true) ∧ W.grownBy w' none) := fun W gW => unhide HEE W u u' a[i] (hQ _ _ _ _ q0 (grown_trans (unhide hg) gW)) (hQ _ _ _ _ q0' (grown_trans (unhide hg) gW)) (Nat.le_trans (unhide HSE i hia) (unhide HS))
      have hiI : (i : Int) < (n : Int) := by omega
      clear c0 q0 c0' q0'
      go_wp2
      refine wp_region_noPanic ?_
      refine wp_region_tailL 20 (fun w' => w'.cell? ⟨b, off + i, none⟩ = some u ∧ w'.cell? ⟨b', off' + i, none⟩ = some u') [true, true, true, true, true, true, true, true, false, false] (by kernel_rfl) (fun _ _ _ _ _ h => h) rfl (by decide) (by kernel_rfl) (unhide HD) ?_
      iterate 8
        refine heldF_take (v := ?_) (Or.inl ⟨by rfl, ?_⟩) ?_
        rotate_left 1
        · intro w' hSw
          try dsimp only at hSw
          obtain ⟨z0, z1⟩ := hSw
          go_simp
          try with_reducible rfl
        simp only [Act.put, List.setIfInBounds_toArray, List.set_cons_zero, List.set_cons_succ]
      iterate 2 refine heldF_skip ?_
      refine heldF_nil ?_
      iterate 8 refine tailL_skip ?_
      refine tailL_step (fun K hK => ?_)
      go_simp
      refine (unhide HT _ (grown_drew (World.grownBy.refl _ _))).mono ?_
      rintro e w2 ⟨rfl, g2⟩
      have g3 := grown_trans (grown_drew (World.grownBy.refl wr none)) g2
      have HD2 := hide (And.intro (g3.cell d0 (by simp)) (g3.cell d1 (by simp)))
      have HG3 := hide (grown_trans (unhide hg) g3)
      clear g2 g3 hg HT d0 d1 HD
      go_simp
      refine hK.out _ _ (.inr (unhide HD2)) ?_
      clear hK K
      refine tailL_step (fun K hK => ?_)
      go_simp
      refine hK.out _ _ (.inl rfl) ?_
      clear hK K HD2
      refine tailL_nil (NoPanic.normal ?_)
      go_wp2
      go_roundw
      case rel => exact ⟨i + 1, by omega, by go_num, HG3⟩
      case measure => simp [intOf]; omega
    · obtain rfl : i = n := by omega
      go_wp2
      go_ret
      exact ⟨rfl, unhide hg⟩

set_option maxRecDepth 20000 in
set_option maxHeartbeats 1600000 in
theorem markIntSSSD (HE : MarkC 95 (OwR 32 (OwI .i64 3)) (mkR mkI lenI) (cntR lenI) (szR lenI)) (hP : OwOk (OwR 32 (OwI .i64 3))) : MarkC 64 (OwR 42 (OwR 32 (OwI .i64 3))) (mkR (mkR mkI lenI) (cntR lenI)) (cntR (cntR lenI)) (szR (szR lenI)) := by
  intro w u a F k hp hnd hs hk0 hk1
  obtain ⟨ao, cap, rfl⟩ := hp.form
  have HEE := hide HE
  have HND := hide hnd
  have hlen := szR_len (szR lenI) a
  have HSE := hide (fun i h => (szR_el (szR lenI) a i h).2)
  have H0 : Hid (OwR 42 (OwR 32 (OwI .i64 3)) w (.slice ao a.length cap) (overR (mkR mkI lenI) (cntR lenI) a k 0) F) := hp
  obtain ⟨n, HN⟩ : ∃ n, Hid (a.length = n) := ⟨_, rfl⟩
  have hn : n ≤ 1048576 := by have := unhide HN; omega
  have HS := hide hs
  obtain ⟨tot, HTOT⟩ : ∃ tot, Hid (cntR (cntR lenI) a = tot) := ⟨_, rfl⟩
  rw [unhide HTOT] at hk1 ⊢
  rw [unhide HN] at H0 ⊢
  obtain ⟨A2, HA2⟩ : ∃ A2, Hid (mkR (mkR mkI lenI) (cntR lenI) a k = A2) := ⟨_, rfl⟩
  rw [unhide HA2]
  clear hp HE hs hlen hnd
  go_enter Try.func64, Try.ntmps64
  go_wp2
  go_loopw [1, 5] (fun kv iv wr => ∃ (i c : Nat), i ≤ n ∧ iv = .int .i64 i ∧ kv = .int .i64 (k + (c : Int)) ∧ Hid (cntR (cntR lenI) (a.take i) = c) ∧ Hid (OwR 42 (OwR 32 (OwI .i64 3)) wr (.slice ao n cap) (overR (mkR mkI lenI) (cntR lenI) a k i) F) ∧ Hid (Wr F w wr)) (fun _ iv _ => n - (intOf iv).toNat)
  case atStart => exact ⟨0, 0, Nat.zero_le _, rfl, by simp, rfl, H0, Wr.refl _ _⟩
  case round =>
    clear H0
    obtain ⟨i, c, hin, rfl, rfl, hc, ho, hw⟩ := hrel
    by_cases hlt : i < n
    · have hia : i < a.length := by rw [unhide HN]; exact hlt
      have hol : i < (overR (mkR mkI lenI) (cntR lenI) a k i).length := by rw [overR_len _ _ _ _ _ (by omega)]; exact hia
      have hnx := cntR_next (cntR lenI) a i hia
      have hle := cntR_le (cntR lenI) a (i + 1)
      rw [unhide hc] at hnx
      rw [hnx, unhide HTOT] at hle
      obtain ⟨g, cap0, u, Fi, e0, hgF, c0, p0, nd0, _, sub0, back⟩ := (unhide ho).at hP (unhide HND) i hol
      rw [overR_at (mkR mkI lenI) (cntR lenI) a k i hia] at p0
      obtain ⟨rfl, rfl⟩ : ao = some ⟨g, 0, none⟩ ∧ cap = cap0 := by simp at e0; exact ⟨e0.1, e0.2.2⟩
      have HT := hide (unhide HEE wr u a[i] Fi (k + (c : Int)) p0 nd0 (Nat.le_trans (unhide HSE i hia) (unhide HS)) (by omega) (by omega))
      obtain ⟨ce, HCE⟩ : ∃ ce, Hid ((cntR lenI) a[i] = ce) := ⟨_, hide rfl⟩
      rw [unhide HCE] at HT hnx hle
      have HBK := hide back
      have HSB := hide sub0
      have HNX := hide hnx
      have hiI : (i : Int) < (n : Int) := by omega
      clear p0 nd0 back sub0 e0 hgF hnx
      go_wp2_with fail
      refine (unhide HT).mono ?_
      rintro e w2 ⟨rfl, p2, g2⟩
      have h2 := unhide HBK w2 _ g2 p2
      rw [← unhide hc, overR_set (mkR mkI lenI) (cntR lenI) a k i hia] at h2
      have HO2 := hide h2
      have HW2 := hide ((unhide hw).trans (g2.mono (unhide HSB)))
      clear p2 g2 h2 HT HBK HSB ho hw c0
      have e5 : k + (c : Int) + (ce : Int) = k + ((c + ce : Nat) : Int) := by omega
      rw [e5]
      go_wp2
      go_roundw
      case rel => exact ⟨i + 1, c + ce, by omega, by go_num, rfl, HNX, HO2, HW2⟩
      case measure => simp [intOf]; omega
    · obtain rfl : i = n := by omega
      have HO4 : Hid (OwR 42 (OwR 32 (OwI .i64 3)) wr (.slice ao i cap) A2 F) := by
        have h := unhide ho
        have e9 : overR (mkR mkI lenI) (cntR lenI) a k i = A2 := by rw [← unhide HN, overR_all]; exact unhide HA2
        rw [e9] at h
        exact h
      have hct : c = tot := by rw [← unhide hc, ← unhide HN, cntR_all]; exact unhide HTOT
      subst hct
      clear ho hc
      go_wp2
      go_ret
      exact ⟨rfl, unhide HO4, unhide hw⟩

set_option maxRecDepth 20000 in
set_option maxHeartbeats 1600000 in
theorem heldIntSSSD (HE : HeldC 96 (RdR (RdI .i64)) (mkR mkI lenI) (cntR lenI) (szR lenI)) (hQ : StR (RdR (RdI .i64))) : HeldC 65 (RdR (RdR (RdI .i64))) (mkR (mkR mkI lenI) (cntR lenI)) (cntR (cntR lenI)) (szR (szR lenI)) := by
  intro w u a k hq hs hk0 hk1
  obtain ⟨ao, cap, rfl, hel⟩ := hq
  have HEL := hide hel
  have HEE := hide HE
  have hlen := szR_len (szR lenI) a
  have HSE := hide (fun i h => (szR_el (szR lenI) a i h).2)
  rw [mkR_len]
  obtain ⟨n, HN⟩ : ∃ n, Hid (a.length = n) := ⟨_, rfl⟩
  have hn : n ≤ 1048576 := by have := unhide HN; omega
  have HS := hide hs
  obtain ⟨tot, HTOT⟩ : ∃ tot, Hid (cntR (cntR lenI) a = tot) := ⟨_, rfl⟩
  rw [unhide HTOT] at hk1 ⊢
  rw [unhide HN]
  clear hel HE hs hlen
  go_enter Try.func65, Try.ntmps65
  go_wp2
  go_loopw [1, 5] (fun kv iv wr => ∃ (i c : Nat), i ≤ n ∧ iv = .int .i64 i ∧ kv = .int .i64 (k + (c : Int)) ∧ Hid (cntR (cntR lenI) (a.take i) = c) ∧ Hid (w.grownBy wr none)) (fun _ iv _ => n - (intOf iv).toNat)
  case atStart => exact ⟨0, 0, Nat.zero_le _, rfl, by simp, rfl, World.grownBy.refl _ _⟩
  case round =>
    obtain ⟨i, c, hin, rfl, rfl, hc, hg⟩ := hrel
    by_cases hlt : i < n
    · have hia : i < a.length := by rw [unhide HN]; exact hlt
      have hnx := cntR_next (cntR lenI) a i hia
      have hle := cntR_le (cntR lenI) a (i + 1)
      rw [unhide hc] at hnx
      rw [hnx, unhide HTOT] at hle
      obtain ⟨b, off, u, rfl, c0, q0⟩ := unhide HEL i (by rw [mkR_len]; exact hia)
      rw [mkR_at (mkR mkI lenI) (cntR lenI) a k i hia, unhide hc] at q0
      have c1 := (unhide hg).cell c0 (by simp)
      have HT := hide (unhide HEE wr u a[i] (k + (c : Int)) (hQ _ _ _ _ q0 (unhide hg)) (Nat.le_trans (unhide HSE i hia) (unhide HS)) (by omega) (by omega))
      obtain ⟨ce, HCE⟩ : ∃ ce, Hid ((cntR lenI) a[i] = ce) := ⟨_, hide rfl⟩
      rw [unhide HCE] at HT hnx hle
      have HNX := hide hnx
      have hiI : (i : Int) < (n : Int) := by omega
      clear c0 q0 hnx
      go_wp2_with fail
      refine (unhide HT).mono ?_
      rintro e w2 ⟨rfl, g2⟩
      have HG2 := hide (grown_trans (unhide hg) g2)
      clear g2 HT hg c1
      have e5 : k + (c : Int) + (ce : Int) = k + ((c + ce : Nat) : Int) := by omega
      rw [e5]
      have hneg : decide (k + ((c + ce : Nat) : Int) < 0) = false := decide_eq_false (by omega)
      obtain ⟨kk, HKK⟩ : ∃ kk : Int, Hid (k + ((c + ce : Nat) : Int) = kk) := ⟨_, hide rfl⟩
      rw [unhide HKK] at hneg ⊢
      go_wp2
      go_roundw
      case rel => exact ⟨i + 1, c + ce, by omega, by go_num, by rw [unhide HKK], HNX, HG2⟩
      case measure => simp [intOf]; omega
    · obtain rfl : i = n := by omega
      have hct : c = tot := by rw [← unhide hc, ← unhide HN, cntR_all]; exact unhide HTOT
      subst hct
      clear hc
      go_wp2
      go_ret
      exact ⟨rfl, unhide hg⟩

set_option maxRecDepth 20000 in
set_option maxHeartbeats 1600000 in
theorem szIntSSSD (HE : SzC 97 (RdZ (RdR (RdZ (RdI .i64)))) (szR lenI)) : SzC 66 (RdZ (RdR (RdZ (RdR (RdZ (RdI .i64)))))) (szR (szR lenI)) := by
  intro w u a left hq hl
  obtain ⟨⟨ao, cap, rfl, hel⟩, hmx⟩ := hq
  unfold maxLen at hmx
  have HEL := hide hel
  have HEE := hide HE
  obtain ⟨n, HN⟩ : ∃ n, Hid (a.length = n) := ⟨_, rfl⟩
  have HSZ : Hid (szR (szR lenI) a = n + cntR (szR lenI) a) := by unfold Hid szR; rw [unhide HN]; rfl
  obtain ⟨res, HRES⟩ : ∃ res : Int, Hid ((if szR (szR lenI) a ≤ left then (left : Int) - szR (szR lenI) a else -1) = res) := ⟨_, rfl⟩
  rw [unhide HRES]
  rw [unhide HN] at hmx ⊢
  have e1 := i64_in ((left : Int) - (n : Int)) (by omega)
  clear hel HE
  by_cases hnl : n ≤ left
  · have hd : decide ((left : Int) - (n : Int) < 0) = false := decide_eq_false (by omega)
    go_enter Try.func66, Try.ntmps66
    go_wp2
    go_loopw [1, 5] (fun kv iv wr => ∃ (i c : Nat), i ≤ n ∧ iv = .int .i64 i ∧ kv = .int .i64 ((left : Int) - (n : Int) - (c : Int)) ∧ n + c ≤ left ∧ Hid (cntR (szR lenI) (a.take i) = c) ∧ wr = w) (fun _ iv _ => n - (intOf iv).toNat)
    case atStart => exact ⟨0, 0, Nat.zero_le _, rfl, by simp, by omega, rfl, rfl⟩
    case round =>
      obtain ⟨i, c, hin, rfl, rfl, hcl, hc, rfl⟩ := hrel
      by_cases hlt : i < n
      · have hia : i < a.length := by rw [unhide HN]; exact hlt
        have hnx := cntR_next (szR lenI) a i hia
        have hle := cntR_le (szR lenI) a (i + 1)
        rw [unhide hc] at hnx
        obtain ⟨b, off, u, rfl, c0, q0⟩ := unhide HEL i hia
        obtain ⟨lf, hlf⟩ : ∃ lf : Nat, left - n - c = lf := ⟨_, rfl⟩
        have e2 : (left : Int) - (n : Int) - (c : Int) = (lf : Int) := by omega
        have HT := hide (unhide HEE wr u a[i] lf q0 (by omega))
        obtain ⟨ce, HCE⟩ : ∃ ce, Hid ((szR lenI) a[i] = ce) := ⟨_, hide rfl⟩
        rw [unhide HCE] at HT hnx
        have hiI : (i : Int) < (n : Int) := by omega
        rw [e2]
        by_cases hce : ce ≤ lf
        · have hi1 : (if ce ≤ lf then (lf : Int) - (ce : Int) else -1) = (left : Int) - (n : Int) - ((c + ce : Nat) : Int) := by rw [if_pos hce]; omega
          rw [hi1] at HT
          have HNX := hide hnx
          have hneg : decide ((left : Int) - (n : Int) - ((c + ce : Nat) : Int) < 0) = false := decide_eq_false (by omega)
          obtain ⟨kk, HKK⟩ : ∃ kk : Int, Hid ((left : Int) - (n : Int) - ((c + ce : Nat) : Int) = kk) := ⟨_, hide rfl⟩
          rw [unhide HKK] at hneg HT
          clear q0 hnx hle hi1
          go_wp2_with fail
          refine (unhide HT).mono ?_
          rintro e w2 ⟨rfl, rfl⟩
          clear HT
          go_wp2
          go_roundw
          case rel => exact ⟨i + 1, c + ce, by omega, by go_num, by rw [unhide HKK], by omega, HNX, trivial⟩
          case measure => simp [intOf]; omega
        · rw [if_neg hce] at HT
          have hres : res = -1 := by
            rw [← unhide HRES, if_neg]
            rw [unhide HSZ]
            omega
          subst hres
          clear q0 hnx hle
          go_wp2_with fail
          refine (unhide HT).mono ?_
          rintro e w2 ⟨rfl, rfl⟩
          clear HT
          go_wp2
          go_ret
          exact ⟨rfl, rfl⟩
      · obtain rfl : i = n := by omega
        have hct : cntR (szR lenI) a = c := by rw [← unhide hc, ← unhide HN, cntR_all]
        have hres : res = (left : Int) - (i : Int) - (c : Int) := by
          rw [← unhide HRES, unhide HSZ, hct, if_pos (by omega)]
          omega
        subst hres
        clear hc hct
        go_wp2
        go_ret
        exact ⟨rfl, rfl⟩
  · have hd : decide ((left : Int) - (n : Int) < 0) = true := decide_eq_true (by omega)
    have hres : res = -1 := by
      rw [← unhide HRES, if_neg]
      rw [unhide HSZ]
      omega
    subst hres
    go_enter Try.func66, Try.ntmps66
    go_wp2
    go_ret
    exact ⟨rfl, rfl⟩

end Go.Proofs.Ytibgldanmhckiaa

namespace Go.Proofs.Ytibgldanmhckiaa
open Go.RowKit

theorem Try.info3 : (Try.prog.info? 3).map (fun i => (i.zero, i.size, i.bytes)) = some (some (.int .i64 0), 1, 8) := by kernel_rfl

set_option maxHeartbeats 400000 in
theorem toIntS (ao : Option Addr) (n cap : Nat) (zs : List Int) (w : World) (hr : Rd .i64 w ao n zs) (hn : n ≤ 4194304) :
    Calls Try.prog 34 #[.slice ao n cap] w fun e w' => e = .returned (.slice (some ⟨w.heap.size, 0, none⟩) n n) ∧
      w'.ownsRow w.heap.size 3 1 (.slice (some ⟨w.heap.size, 0, none⟩) n n) n (zs.map (Value.int .i64)) ∧ w.grownBy w' none := by
  obtain ⟨i0, hi, hz0, hz1, hz2⟩ := info_parts Try.info3
  obtain ⟨hl, hc⟩ := hr
  go_enter Try.func34, Try.ntmps34
  go_wp2_with (at_make; refine wpList_make_full _ rfl _ _ 32 rfl w.heap.size 3 i0 (.int .i64 0) 1 Try.underlying32 hi hz0 hz1 .i64 .i64 _ _ n rfl rfl rfl rfl (by rw [hz2]; omega) (by unfold maxLen; omega) (Nat.le_refl _) ?_)
  intro w1 hown hgrow
  have hown0 : w1.ownsRow w.heap.size 3 1 (.slice (some ⟨w.heap.size, 0, none⟩) n n) n (part .i64 zs 0) := by
    rw [part_zero, hl]
    have e : (madeCells #[Value.int .i64 0] n).toList = List.replicate n (.int .i64 0) := toList_madeCells_one _ _
    rw [← e]; exact hown
  clear hown hi hz0 hz1 hz2
  go_wp2
  go_loopw [4] (fun i wr => ∃ k : Nat, k ≤ n ∧ i = .int .i64 k ∧ wr.ownsRow w.heap.size 3 1 (.slice (some ⟨w.heap.size, 0, none⟩) n n) n (part .i64 zs k) ∧ w.grownBy wr none) (fun i _ => n - (intOf i).toNat)
  case atStart => exact ⟨0, Nat.zero_le _, rfl, hown0, hgrow⟩
  case round =>
    obtain ⟨k, hk, rfl, hownk, hgk⟩ := hrel
    clear hown0 hgrow
    by_cases hlt : k < n
    · obtain ⟨b, off, rfl, hcb⟩ := hc k hlt
      have hcell := hgk.cell hcb (by simp)
      have hfro := hownk.frozenAt k
      have hold : ∃ u, wr.cell? ⟨w.heap.size, k, none⟩ = some u := by rw [hownk.cellAt k (by omega)]; exact ⟨_, List.getElem?_eq_getElem (by rw [hownk.1]; omega)⟩
      obtain ⟨u, hu⟩ := hold
      have hst := hownk.stored k (.int .i64 (zs.getD k 0))
      rw [part_set .i64 zs k (by omega)] at hst
      generalize zs.getD k 0 = x at hcell hst
      have hg' := grown_new hgk hst.2 (by intro g e; simp at e; omega)
      have HS := hst.1
      clear hst hownk hgk hc
      go_wp2
      go_roundw
      case rel => exact ⟨k + 1, by omega, by go_num, HS, hg'⟩
      case measure => simp [intOf]; omega
    · have hkn : k = n := by omega
      subst hkn
      go_wp2
      go_ret
      rw [← hl, part_all, hl] at hownk
      exact ⟨rfl, hownk, hgk⟩

set_option maxHeartbeats 400000 in
theorem eqIntS (ao bo : Option Addr) (n cap cap' : Nat) (zs : List Int) (w : World) (hx : Rd .i64 w ao n zs) (hy : Rd .i64 w bo n zs) (hn : n ≤ 4194304) :
    Calls Try.prog 31 #[.slice ao n cap, .slice bo n cap'] w fun e w' => e = .returned (.bool true) ∧ w.grownBy w' none := by
  obtain ⟨hl, hc⟩ := hx
  obtain ⟨_, hd⟩ := hy
  have hne : ((n : Int) != n) = false := by simp
  go_enter Try.func31, Try.ntmps31
  go_wp2
  go_loopw [5] (fun i wr => ∃ k q : Nat, k ≤ n ∧ i = .int .i64 k ∧ wr = w.drewN q) (fun i _ => n - (intOf i).toNat)
  case atStart => exact ⟨0, 0, Nat.zero_le _, rfl, rfl⟩
  case round =>
    obtain ⟨k, q, hk, rfl, rfl⟩ := hrel
    by_cases hlt : k < n
    · obtain ⟨b, off, rfl, hcb⟩ := hc k hlt
      obtain ⟨b', off', rfl, hcd⟩ := hd k hlt
      generalize zs.getD k 0 = x at hcb hcd
      have hik : (k : Int) < (n : Int) := by omega
      clear hc hd
      go_wp2
      go_quiet (fail)
      go_wp2
      go_roundw
      case rel => exact ⟨k + 1, _, by omega, by go_num, rfl⟩
      case measure => simp [intOf]; omega
    · go_wp2
      go_ret
      exact ⟨rfl, grown_drewN (World.grownBy.refl _ _) _⟩

set_option maxHeartbeats 400000 in
theorem markIntS (ao : Option Addr) (n cap base : Nat) (xs : List Value) (k0 : Int) (w : World) (ho : w.ownsRow base 3 1 (.slice ao n cap) n xs) (hn : n ≤ 4194304) (h0 : 0 ≤ k0) (h1 : k0 ≤ 1073741824) :
    Calls Try.prog 32 #[.slice ao n cap, .int .i64 k0] w fun e w' => e = .returned (.int .i64 (k0 + n)) ∧
      w'.ownsRow base 3 1 (.slice ao n cap) n ((marks .i64 k0 n).map (Value.int .i64)) ∧ w.grownBy w' (Value.slice ao n cap).ownBlock := by
  go_enter Try.func32, Try.ntmps32
  go_wp2
  go_loopw [1, 5] (fun c i wr => ∃ k : Nat, k ≤ n ∧ i = .int .i64 k ∧ c = .int .i64 (k0 + k) ∧ wr.ownsRow base 3 1 (.slice ao n cap) n (over .i64 k0 xs k) ∧ w.grownBy wr (Value.slice ao n cap).ownBlock) (fun _ i _ => n - (intOf i).toNat)
  case atStart => exact ⟨0, Nat.zero_le _, rfl, by go_num, by rw [over_zero]; exact ho, World.grownBy.refl _ _⟩
  case round =>
    obtain ⟨k, hk, rfl, rfl, hownk, hgk⟩ := hrel
    have hxl : xs.length = n := by have := ho.1; omega
    clear ho
    by_cases hlt : k < n
    · obtain ⟨g, rfl, _, _⟩ := own_at hownk (by omega)
      have hfro := hownk.frozenAt k
      have hold : ∃ u, wr.cell? ⟨g, k, none⟩ = some u := by rw [hownk.cellAt k (by omega)]; exact ⟨_, List.getElem?_eq_getElem (by rw [hownk.1]; omega)⟩
      obtain ⟨u, hu⟩ := hold
      have hst := hownk.stored k (.int .i64 (IntKind.i64.wrap (k0 + k)))
      rw [over_set .i64 k0 xs k (by omega)] at hst
      rw [i64_in (k0 + k) (by omega)] at hst
      have hg' := grown_trans hgk hst.2
      have HS := hst.1
      clear hst hownk hgk
      go_wp2
      go_roundw
      case rel => exact ⟨k + 1, by omega, by go_num, by go_num, HS, hg'⟩
      case measure => simp [intOf]; omega
    · have hkn : k = n := by omega
      subst hkn
      go_wp2
      go_ret
      rw [← hxl, over_all, hxl] at hownk
      exact ⟨rfl, hownk, hgk⟩

set_option maxHeartbeats 400000 in
theorem heldIntS (ao : Option Addr) (n cap : Nat) (k0 : Int) (w : World) (hr : Rd .i64 w ao n (marks .i64 k0 n)) (hn : n ≤ 4194304) (h0 : 0 ≤ k0) (h1 : k0 ≤ 1073741824) :
    Calls Try.prog 33 #[.slice ao n cap, .int .i64 k0] w fun e w' => e = .returned (.int .i64 (k0 + n)) ∧ w.grownBy w' none := by
  obtain ⟨hl, hc⟩ := hr
  go_enter Try.func33, Try.ntmps33
  go_wp2
  go_loop [1, 5] (fun c i => ∃ k : Nat, k ≤ n ∧ i = .int .i64 k ∧ c = .int .i64 (k0 + k)) (fun _ i => n - (intOf i).toNat)
  case atStart => exact ⟨0, Nat.zero_le _, rfl, by go_num⟩
  case round =>
    obtain ⟨k, hk, rfl, rfl⟩ := hrel
    by_cases hlt : k < n
    · obtain ⟨b, off, rfl, hcb⟩ := hc k hlt
      rw [marks_get .i64 k0 n k hlt] at hcb
      clear hc
      go_wp2
      go_round
      case rel => exact ⟨k + 1, by omega, by go_num, by go_num⟩
      case measure => simp [intOf]; omega
    · have hkn : k = n := by omega
      subst hkn
      go_wp2
      go_ret
      exact ⟨rfl, World.grownBy.refl _ _⟩

end Go.Proofs.Ytibgldanmhckiaa

namespace Go.Proofs.Ytibgldanmhckiaa
open Go.RowKit

theorem toIntSC : ToC 34 (RdI .i64) (OwI .i64 3) lenI := by
  rintro w u a ⟨ao, cap, rfl, hr⟩ hs
  refine (toIntS ao a.length cap a w hr (by unfold lenI at hs; omega)).mono ?_
  rintro e w' ⟨rfl, ho, hg⟩
  exact ⟨_, _, rfl, OwI.of ho, blk_nodup _, fun g hx => by have : w.heap.size = g := Option.some.inj (mem_blk.1 hx); omega, hg⟩

theorem eqIntSC : EqC 31 (RdI .i64) lenI := by
  rintro w u u' a ⟨ao, cap, rfl, hr⟩ ⟨bo, cap', rfl, hr'⟩ hs
  exact eqIntS ao bo a.length cap cap' a w hr hr' (by unfold lenI at hs; omega)

theorem markIntSC : MarkC 32 (OwI .i64 3) mkI lenI lenI := by
  rintro w u a F k ⟨ho, rfl⟩ _ hs h0 h1
  obtain ⟨ao, cap, rfl⟩ := own_form ho
  unfold lenI at hs h1
  refine (markIntS ao a.length cap 0 _ k w ho (by omega) h0 (by omega)).mono ?_
  rintro e w' ⟨rfl, ho2, hg⟩
  have hl : (mkI a k).length = a.length := by unfold mkI; rw [marks_len]
  refine ⟨rfl, ⟨?_, rfl⟩, Wr.ofRow hg (fun g e => mem_blk.2 e)⟩
  rw [hl]
  exact ho2

theorem heldIntSC : HeldC 33 (RdI .i64) mkI lenI lenI := by
  rintro w u a k ⟨ao, cap, rfl, hr⟩ hs h0 h1
  have hl : (mkI a k).length = a.length := by unfold mkI; rw [marks_len]
  unfold lenI at hs h1
  rw [hl] at hr ⊢
  exact heldIntS ao a.length cap k w hr (by omega) h0 (by omega)

set_option maxHeartbeats 400000 in
theorem szIntSC : SzC 114 (RdZ (RdI .i64)) lenI := by
  rintro w u a left ⟨⟨ao, cap, rfl, _⟩, hm⟩ hl
  unfold maxLen at hm
  unfold lenI
  generalize a.length = n at *
  have e1 := i64_in ((left : Int) - (n : Int)) (by omega)
  by_cases h : n ≤ left
  · have hd : decide ((left : Int) - (n : Int) < 0) = false := decide_eq_false (by omega)
    rw [if_pos h]
    go_enter Try.func114, Try.ntmps114
    go_wp2
    go_ret
    exact ⟨rfl, rfl⟩
  · have hd : decide ((left : Int) - (n : Int) < 0) = true := decide_eq_true (by omega)
    rw [if_neg h]
    go_enter Try.func114, Try.ntmps114
    go_wp2
    go_ret
    exact ⟨rfl, rfl⟩

theorem ok1 : OwOk (OwI .i64 3) := OwI.ok .i64 3

end Go.Proofs.Ytibgldanmhckiaa

namespace Go.Proofs.Ytibgldanmhckiaa
open Go.RowKit

abbrev Rd2 := RdR (RdI .i64)

abbrev Ow2 := OwR 32 (OwI .i64 3)

theorem st2 : StR Rd2 := RdR.st (RdI.st .i64)

theorem ok2 : OwOk Ow2 := OwR.ok ok1

theorem Ow2.rd {w : World} {v : Value} {L : List (List Int)} {F : List Nat} (h : Ow2 w v L F) : Rd2 w v L := OwR.rd (fun _ _ _ _ h => OwI.rd h) h

theorem toIntSSC : ToC 98 Rd2 Ow2 (szR lenI) := toIntSSD toIntSC (RdI.st .i64) ok1 (OwI.nil .i64 3)

theorem eqIntSSC : EqC 93 Rd2 (szR lenI) := eqIntSSD eqIntSC (RdI.st .i64)

theorem markIntSSC : MarkC 95 Ow2 (mkR mkI lenI) (cntR lenI) (szR lenI) := markIntSSD markIntSC ok1

theorem heldIntSSC : HeldC 96 Rd2 (mkR mkI lenI) (cntR lenI) (szR lenI) := heldIntSSD heldIntSC (RdI.st .i64)

theorem szIntSSC : SzC 97 (RdZ (RdR (RdZ (RdI .i64)))) (szR lenI) := szIntSSD szIntSC

end Go.Proofs.Ytibgldanmhckiaa

namespace Go.Proofs.Ytibgldanmhckiaa
open Go.RowKit

abbrev Rd3 := RdR Rd2

abbrev Ow3 := OwR 42 Ow2

theorem st3 : StR Rd3 := RdR.st st2

theorem ok3 : OwOk Ow3 := OwR.ok ok2

theorem Ow3.rd {w : World} {v : Value} {L : List (List (List Int))} {F : List Nat} (h : Ow3 w v L F) : Rd3 w v L := OwR.rd (fun _ _ _ _ h => Ow2.rd h) h

theorem toIntSSSC : ToC 67 Rd3 Ow3 (szR (szR lenI)) := toIntSSSD toIntSSC st2 ok2 (OwR.nil 32 (OwI .i64 3))

theorem eqIntSSSC : EqC 61 Rd3 (szR (szR lenI)) := eqIntSSSD eqIntSSC st2

theorem markIntSSSC : MarkC 64 Ow3 (mkR (mkR mkI lenI) (cntR lenI)) (cntR (cntR lenI)) (szR (szR lenI)) := markIntSSSD markIntSSC ok2

theorem heldIntSSSC : HeldC 65 Rd3 (mkR (mkR mkI lenI) (cntR lenI)) (cntR (cntR lenI)) (szR (szR lenI)) := heldIntSSSD heldIntSSC st2

theorem szIntSSSC : SzC 66 (RdZ (RdR (RdZ (RdR (RdZ (RdI .i64)))))) (szR (szR lenI)) := szIntSSSD szIntSSC

end Go.Proofs.Ytibgldanmhckiaa
