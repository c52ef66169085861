/-
  The walks of the program's reader of segments.
-/
import Derived.Test.YticecjodbhhcfaaDoorSegReadSpec
import Derived.Test.YticecjodbhhcfaaDoorSegOkImpl
import Derived.Deep.RegionLaw
import Derived.Deep.AppendLies
namespace Go.Proofs.YticecjodbhhcfaaDoor
open Go.RowKit

/-- A world that is as it was in the rows below a number, but one. -/
structure Fr (R lo : Nat) (w w' : World) : Prop where
  os : w'.os = w.os
  tape : w'.tape = w.tape
  output : w'.output = w.output
  size : w.heap.size ≤ w'.heap.size
  block : ∀ g, g < lo → g ≠ R → w'.heap[g]? = w.heap[g]?
theorem Fr.refl (R lo : Nat) (w : World) : Fr R lo w w := ⟨rfl, rfl, rfl, Nat.le_refl _, fun _ _ _ => rfl⟩
theorem Fr.trans {R lo : Nat} {a b c : World} (h : Fr R lo a b) (g : Fr R lo b c) : Fr R lo a c :=
  ⟨g.os.trans h.os, g.tape.trans h.tape, g.output.trans h.output, Nat.le_trans h.size g.size, fun k hk hr => (g.block k hk hr).trans (h.block k hk hr)⟩
theorem Fr.of {R lo : Nat} {a b : World} {row : Option Nat} (h : a.grownBy b row) (hlo : lo ≤ a.heap.size) (hr : ∀ g, row = some g → lo ≤ g ∨ g = R) : Fr R lo a b :=
  ⟨h.os, h.tape, h.output, h.size, fun g hg hne => h.block g (by omega) (fun e => by rcases hr g e.symm with h | h; omega; exact hne h)⟩
theorem Fr.new {R lo : Nat} {a b c : World} (h : a.grownBy b none) (f : Fr R lo b c) (h1 : a.heap.size ≤ R) (h2 : a.heap.size ≤ lo) : a.grownBy c none :=
  ⟨f.os.trans h.os, f.tape.trans h.tape, f.output.trans h.output, Nat.le_trans h.size f.size, fun g hg _ => (f.block g (by omega) (by omega)).trans (h.block g hg (by simp))⟩

/-- The reader as it stands. -/
structure St (w0 w : World) (R lo : Nat) (bo : Option Addr) (n cap k : Nat) (last : Int) (sv : Value) (ss : List (Int × List Int)) : Prop where
  base : w0.heap.size ≤ R
  below : R < lo
  low : lo ≤ w.heap.size
  row : w.heap[R]? = some (.cells #[.slice bo n cap, .int .i64 k, .int .i64 last, sv] 46 (0, 0))
  own : OwnS w lo w.heap.size sv ss
  grown : w0.grownBy w none
section
variable {w0 w w' : World} {R lo : Nat} {bo : Option Addr} {n cap k : Nat} {last : Int} {sv : Value} {ss : List (Int × List Int)}
theorem St.cells (h : St w0 w R lo bo n cap k last sv ss) : w.cell? ⟨R, 0, none⟩ = some (.slice bo n cap) ∧ w.cell? ⟨R, 1, none⟩ = some (.int .i64 k) ∧ w.cell? ⟨R, 2, none⟩ = some (.int .i64 last) ∧ w.cell? ⟨R, 3, none⟩ = some sv :=
  ⟨by rw [cell_of_row w _ 0 _ _ (0, 0) h.row]; rfl, by rw [cell_of_row w _ 1 _ _ (0, 0) h.row]; rfl, by rw [cell_of_row w _ 2 _ _ (0, 0) h.row]; rfl, by rw [cell_of_row w _ 3 _ _ (0, 0) h.row]; rfl⟩
theorem St.frozen (h : St w0 w R lo bo n cap k last sv ss) (j : Nat) : w.frozen? ⟨R, j, none⟩ = false := frozen_of_row w _ j _ _ h.row
theorem St.more (h : St w0 w R lo bo n cap k last sv ss) (g : w.grownBy w' none) : St w0 w' R lo bo n cap k last sv ss :=
  ⟨h.base, h.below, Nat.le_trans h.low g.size, grown_at g h.row, (h.own.grown g (Nat.le_refl _)).base (Nat.le_refl _) g.size, grown_trans h.grown g⟩
theorem St.fr (h : St w0 w R lo bo n cap k last sv ss) (g : w.grownBy w' none) : Fr R lo w w' := Fr.of g h.low (fun _ e => by simp at e)
theorem St.set1 (h : St w0 w R lo bo n cap k last sv ss) (k' : Nat) : St w0 (w.setCell ⟨R, 1, none⟩ (.int .i64 k')) R lo bo n cap k' last sv ss :=
  ⟨h.base, h.below, by simpa using h.low, heap_setCell_same w R 1 _ _ _ h.row, (h.own.set R 1 _ h.below).base (Nat.le_refl _) (by simp), grown_setNew h.grown R 1 _ h.base⟩
theorem St.set2 (h : St w0 w R lo bo n cap k last sv ss) (l' : Int) : St w0 (w.setCell ⟨R, 2, none⟩ (.int .i64 l')) R lo bo n cap k l' sv ss :=
  ⟨h.base, h.below, by simpa using h.low, heap_setCell_same w R 2 _ _ _ h.row, (h.own.set R 2 _ h.below).base (Nat.le_refl _) (by simp), grown_setNew h.grown R 2 _ h.base⟩
theorem Fr.set (R lo j : Nat) (w : World) (u : Value) : Fr R lo w (w.setCell ⟨R, j, none⟩ u) := ⟨rfl, rfl, rfl, by simp, fun g _ hne => Below.heap_setCell _ _ _ _ hne⟩
end

/-- What nextKind tells: a kind, or a fault's code and place. -/
def nextK (zs : List Int) (k : Nat) (last : Int) (many : Bool) : Int × Option (Int × Nat) :=
  if k < zs.length ∧ zs.getD k 0 ≠ 255 then (if mayF 1 last = false then (0, some (4, k)) else if many = true then (0, some (6, k)) else (1, none))
  else if zs.length ≤ k + 1 then (0, some (3, zs.length))
  else if mayF (ikOf (zs.getD (k + 1) 0)) last = false then (0, some (4, k))
  else if ikOf (zs.getD (k + 1) 0) ≠ 4 ∧ many = true then (0, some (6, k)) else (ikOf (zs.getD (k + 1) 0), none)
/-- The error that a fault is. -/
def errV : Option (Int × Nat) → Value
  | none => .nilIface
  | some (c, a) => .iface 48 (.agg #[.int .i64 c, .int .i64 a])

theorem implFault (c a : Int) (w : World) : Calls Tryd.prog 48 #[.int .i64 c, .int .i64 a] w fun e w' => e = .returned (.iface 48 (.agg #[.int .i64 c, .int .i64 a])) ∧ w' = w := by
  go_enter Tryd.func48, Tryd.ntmps48
  go_wp2
  go_ret
  exact ⟨rfl, rfl⟩

section
variable (w0 w : World) (R lo : Nat) (bo : Option Addr) (n cap k : Nat) (last : Int) (sv : Value) (ss : List (Int × List Int))
theorem implCut (h : St w0 w R lo bo n cap k last sv ss) : Calls Tryd.prog 50 #[.pointer (some ⟨R, 0, none⟩)] w fun e w' => e = .returned (.iface 48 (.agg #[.int .i64 3, .int .i64 n])) ∧ w' = w := by
  obtain ⟨c0, c1, c2, c3⟩ := h.cells
  clear h
  go_enter Tryd.func50, Tryd.ntmps50
  go_wp2_with fail
  refine (implFault 3 n w).mono ?_
  rintro e w1 ⟨rfl, rfl⟩
  go_wp2
  go_ret
  exact ⟨rfl, rfl⟩

/-- What nextMark tells. -/
def nextM (zs : List Int) (k : Nat) : Int × Bool := if k < zs.length ∧ zs.getD k 0 ≠ 255 then (0, true) else if zs.length ≤ k + 1 then (0, false) else (zs.getD (k + 1) 0, true)

set_option maxHeartbeats 1600000 in
theorem implMark (zs : List Int) (r : Int × Bool) (h : St w0 w R lo bo n cap k last sv ss) (hr : Rd .u8 w0 bo n zs) (hby : ∀ i, 0 ≤ zs.getD i 0 ∧ zs.getD i 0 ≤ 255) (hn : n ≤ 60000) (hk : k ≤ n) (hres : Hid (nextM zs k = r)) : Calls Tryd.prog 49 #[.pointer (some ⟨R, 0, none⟩)] w fun e w' => e = .returned (.tuple #[.int .i64 r.1, .bool r.2]) ∧ w.grownBy w' none := by
  obtain ⟨c0, c1, c2, c3⟩ := h.cells
  obtain ⟨hl, hc⟩ := hr.grown h.grown
  clear h hr
  have hres' := unhide hres
  unfold nextM at hres'
  clear hres
  by_cases h1 : k < n ∧ zs.getD k 0 ≠ 255
  · rw [if_pos (by rw [hl]; exact h1)] at hres'
    subst hres'
    obtain ⟨hlt, hne⟩ := h1
    have hd : decide ((k : Int) < (n : Int)) = true := decide_eq_true (by omega)
    obtain ⟨b, off, rfl, hcb⟩ := hc k hlt
    have hxb : (zs.getD k 0 != 255) = true := by rw [bne_iff_ne]; exact hne
    generalize zs.getD k 0 = x at *
    clear hc hby hne
    go_enter Tryd.func49, Tryd.ntmps49
    go_wp2
    go_quiet (fail)
    go_wp2
    go_ret2
    exact ⟨rfl, grown_drewN (World.grownBy.refl _ _) _⟩
  · rw [if_neg (by rw [hl]; exact h1)] at hres'
    by_cases hlt : k < n
    · have hx : zs.getD k 0 = 255 := Classical.byContradiction fun h => h1 ⟨hlt, h⟩
      have hd : decide ((k : Int) < (n : Int)) = true := decide_eq_true (by omega)
      obtain ⟨b, off, rfl, hcb⟩ := hc k hlt
      rw [hx] at hcb
      by_cases h2 : n ≤ k + 1
      · rw [if_pos (by omega)] at hres'
        subst hres'
        have hd2 : decide ((n : Int) ≤ (k : Int) + 1) = true := decide_eq_true (by omega)
        clear hc hby h1 hx
        go_enter Tryd.func49, Tryd.ntmps49
        go_wp2
        go_quiet (fail)
        go_wp2
        go_quiet (fail)
        go_wp2
        go_ret2
        exact ⟨rfl, grown_drewN (grown_drewN (World.grownBy.refl _ _) _) _⟩
      · rw [if_neg (by omega)] at hres'
        subst hres'
        have hd2 : decide ((n : Int) ≤ (k : Int) + 1) = false := decide_eq_false (by omega)
        have h2' : k + 1 < n := by omega
        obtain ⟨b', off', e', hcb1⟩ := hc (k + 1) h2'
        simp only [Option.some.injEq, Addr.mk.injEq] at e'
        have ea := e'.1
        have eb := e'.2.1
        subst ea; subst eb
        have hy := hby (k + 1)
        generalize zs.getD (k + 1) 0 = y at *
        clear hc hby h1 hx e' h2
        go_enter Tryd.func49, Tryd.ntmps49
        go_wp2
        go_quiet (fail)
        go_wp2
        go_quiet (fail)
        go_wp2
        go_quiet (fail)
        go_wp2
        go_ret2
        exact ⟨rfl, grown_drewN (grown_drewN (grown_drewN (World.grownBy.refl _ _) _) _) _⟩
    · have hd : decide ((k : Int) < (n : Int)) = false := decide_eq_false (by omega)
      rw [if_pos (by omega)] at hres'
      subst hres'
      have hd2 : decide ((n : Int) ≤ (k : Int) + 1) = true := decide_eq_true (by omega)
      clear hc hby h1
      go_enter Tryd.func49, Tryd.ntmps49
      go_wp2
      go_quiet (fail)
      go_wp2
      go_quiet (fail)
      go_wp2
      go_ret2
      exact ⟨rfl, grown_drewN (grown_drewN (World.grownBy.refl _ _) _) _⟩
theorem nextK_of (zs : List Int) (k : Nat) (last : Int) (many : Bool) : nextK zs k last many = if (nextM zs k).2 = false then (0, some (3, zs.length)) else if mayF (ikOf (nextM zs k).1) last = false then (0, some (4, k)) else if ikOf (nextM zs k).1 ≠ 4 ∧ many = true then (0, some (6, k)) else (ikOf (nextM zs k).1, none) := by
  unfold nextK nextM
  by_cases h1 : k < zs.length ∧ zs.getD k 0 ≠ 255
  · simp only [if_pos h1]
    rw [show ikOf 0 = 1 from rfl]
    simp
  · simp only [if_neg h1]
    by_cases h2 : zs.length ≤ k + 1
    · simp [if_pos h2]
    · simp only [if_neg h2]
      simp

set_option maxHeartbeats 1600000 in
theorem implNextKind (zs : List Int) (r : Int × Option (Int × Nat)) (many : Bool) (h : St w0 w R lo bo n cap k last sv ss) (hr : Rd .u8 w0 bo n zs) (hby : ∀ i, 0 ≤ zs.getD i 0 ∧ zs.getD i 0 ≤ 255) (hn : n ≤ 60000) (hk : k ≤ n)
    (hlast : last = 0 ∨ last = 1 ∨ last = 2 ∨ last = 3 ∨ last = 4) (hmany : Hid (decide (ss.length = 300) = many)) (hres : Hid (nextK zs k last many = r)) :
    Calls Tryd.prog 39 #[.pointer (some ⟨R, 0, none⟩)] w fun e w' => e = .returned (.tuple #[.int .i64 r.1, errV r.2]) ∧ w.grownBy w' none := by
  obtain ⟨so, sc, rfl⟩ := h.own.form
  have HH := hide h
  have hl := hr.1
  have HR := hide hr
  have HBY := hide hby
  have HL := hide hlast
  have hm' : ((ss.length : Int) == 300) = many := by rw [← unhide hmany, Bool.eq_iff_iff, beq_iff_eq, decide_eq_true_eq]; omega
  have hres' := unhide hres
  rw [nextK_of, hl] at hres'
  clear hres h hr hby hlast hmany
  obtain ⟨⟨mk, ok⟩, hq⟩ : ∃ q, nextM zs k = q := ⟨_, rfl⟩
  have HQ := hide hq
  rw [hq] at hres'
  dsimp only at hres'
  clear hq
  go_enter Tryd.func39, Tryd.ntmps39
  go_wp2_with fail
  refine (implMark w0 w R lo bo n cap k last _ ss zs (mk, ok) (unhide HH) (unhide HR) (unhide HBY) hn hk HQ).mono ?_
  rintro e w1 ⟨rfl, g1⟩
  have HH1 := hide ((unhide HH).more g1)
  have G1 := g1
  clear g1
  cases ok
  · rw [if_pos rfl] at hres'
    subst hres'
    go_wp2_with fail
    refine (implCut w0 w1 R lo bo n cap k last _ ss (unhide HH1)).mono ?_
    rintro e w2 ⟨rfl, rfl⟩
    go_wp2
    go_ret2
    exact ⟨rfl, G1⟩
  · rw [if_neg (by simp)] at hres'
    obtain ⟨kd, hkd⟩ : ∃ kd, ikOf mk = kd := ⟨_, rfl⟩
    rw [hkd] at hres'
    have HKD := hide hkd
    have HKC := hide (ikOf_cases mk)
    rw [hkd] at HKC
    clear hkd
    obtain ⟨t, ht⟩ : ∃ t, mayF kd last = t := ⟨_, rfl⟩
    rw [ht] at hres'
    have HT := hide ht
    clear ht
    obtain ⟨c0, c1, c2, c3⟩ := (unhide HH1).cells
    go_wp2_with fail
    refine (implKind mk kd _ HKD).mono ?_
    rintro e w2 ⟨rfl, rfl⟩
    go_wp2_with fail
    refine (implMay kd last t _ (unhide HKC) (unhide HL) HT).mono ?_
    rintro e w3 ⟨rfl, rfl⟩
    cases t
    · rw [if_pos rfl] at hres'
      subst hres'
      go_wp2_with fail
      refine (implFault 4 k _).mono ?_
      rintro e w4 ⟨rfl, rfl⟩
      go_wp2
      go_ret2
      exact ⟨rfl, G1⟩
    · rw [if_neg (by simp)] at hres'
      by_cases h4 : kd = 4
      · rw [if_neg (fun h => h.1 h4)] at hres'
        subst hres'
        subst h4
        go_wp2
        go_ret2
        exact ⟨rfl, G1⟩
      · have hb4 : (kd != 4) = true := by rw [bne_iff_ne]; exact h4
        cases many
        · rw [if_neg (fun h => by simp at h)] at hres'
          subst hres'
          go_wp2
          go_ret2
          exact ⟨rfl, G1⟩
        · rw [if_pos ⟨h4, rfl⟩] at hres'
          subst hres'
          go_wp2_with fail
          refine (implFault 6 k _).mono ?_
          rintro e w4 ⟨rfl, rfl⟩
          go_wp2
          go_ret2
          exact ⟨rfl, G1⟩
/-- One more segment is taken; its data are new, or none. -/
theorem implTake (wa : World) (m : Int) (dv : Value) (d : List Int) (nx : Nat) (ha : St w0 wa R lo bo n cap k last sv ss) (hga : wa.grownBy w none) (hss : ss.length ≤ 300) (hd : w.ownsRow wa.heap.size 5 1 dv d.length (d.map (Value.int .u8))) :
    Calls Tryd.prog 41 #[.pointer (some ⟨R, 0, none⟩), .agg #[.int .i64 m, dv], .int .i64 nx] w fun e w' => e = .returned (.tuple #[]) ∧ ∃ sv', St w0 w' R lo bo n cap nx last sv' (ss ++ [(m, d)]) ∧ Fr R lo w w' := by
  obtain ⟨i0, hi, hz0, hz1, hz2⟩ := info_parts Tryd.info41
  obtain ⟨dd, dc, rfl⟩ := own_form hd
  obtain ⟨so, sc, rfl⟩ := ha.own.form
  have hA := ha.own.grown hga (Nat.le_refl _)
  have h := ha.more hga
  have hB := hA.alloc hga.size (.cells #[.int .i64 m, .slice dd d.length dc] 41)
  have hC := h.more (World.grownBy_alloc w (.cells #[.int .i64 m, .slice dd d.length dc] 41) none)
  have hD := own_grown hd (World.grownBy_alloc w (.cells #[.int .i64 m, .slice dd d.length dc] 41) none)
  have hE := heap_alloc_new w (.cells #[.int .i64 m, .slice dd d.length dc] 41)
  have hlow := h.low
  have hwlo := ha.low
  have hbel := h.below
  obtain ⟨d0, a1, a2, a3⟩ := hB
  obtain ⟨c0, c1, c2, c3⟩ := hC.cells
  have HA1 := hide a1
  have HA2 := hide a2
  have HA3 := hide a3
  have HC := hide hC
  have HD := hide hD
  have HE := hide hE
  have hgs := hga.size
  clear hA h ha hd hga hC hD hE a1 a2 a3
  generalize hdl : d.length = dl at *
  have HN : Hid ((((w.alloc (.cells #[.int .i64 m, .slice dd dl dc] 41)).alloc (.cells #[.int .i64 m, .slice dd dl dc] 41)).drew).heap[w.heap.size + 1]? = some (.cells #[.int .i64 m, .slice dd dl dc] 41 (0, 0))) := by
    have h := heap_alloc_new (w.alloc (.cells #[.int .i64 m, .slice dd dl dc] 41)) (.cells #[.int .i64 m, .slice dd dl dc] 41)
    have e : (w.alloc (.cells #[.int .i64 m, .slice dd dl dc] 41)).heap.size = w.heap.size + 1 := by simp
    rw [e] at h
    exact h
  have HRR : Hid ((((w.alloc (.cells #[.int .i64 m, .slice dd dl dc] 41)).alloc (.cells #[.int .i64 m, .slice dd dl dc] 41)).drew).heap[R]? = some (.cells #[.slice bo n cap, .int .i64 k, .int .i64 last, .slice so ss.length sc] 46 (0, 0))) := alloc_at (unhide HC).row _
  have ce3 : ((w.alloc (.cells #[.int .i64 m, .slice dd dl dc] 41)).alloc (.cells #[.int .i64 m, .slice dd dl dc] 41)).cell? ⟨R, 3, none⟩ = some (.slice so ss.length sc) := by
    rw [cell_of_row _ R 3 _ _ (0, 0) (alloc_at (unhide HC).row (.cells #[.int .i64 m, .slice dd dl dc] 41))]; rfl
  go_enter Tryd.func41, Tryd.ntmps41
  go_wp2
  go_region_law (refine step_append_lies _ (by rfl) _ _ _ (by rfl) lo 41 i0 _ 2 32 Tryd.underlying24 hi hz0 hz1 hz2 rfl (by omega) _ ss.length (rowsK ss.length 2 (segCells ss d0)) (by rfl) ((World.ownsRow.drew (unhide HA1)).alloc _) ⟨w.heap.size + 1, 0, none⟩ 1 1 [.int .i64 m, .slice dd dl dc] (by rfl) (by rfl) (World.news_of_block (cs := #[.int .i64 m, .slice dd dl dc]) (t := 41) (fr := (0, 0)) (unhide HN)) (by simp [Value.oneCell']) (by omega) (by unfold maxLen; omega) (by omega) (by simp; omega) (w.heap.size + 2) (by simp) ?_; intro gg cc w5 hown' hgrow hat hglt; have hrow5 := (hgrow.block R (by simp; omega) (fun e => by have := ((unhide HA1).lt R e.symm).1; omega)).trans (unhide HRR); have c53 := cell_of_row w5 R 3 _ _ (0, 0) hrow5; have f53 := frozen_of_row w5 R 3 _ _ hrow5; have c53' : w5.cell? ⟨R, 3, none⟩ = some (.slice so ss.length sc) := c53; clear c53)
  all_goals
    have hrowA := heap_setCell_same w5 R 3 _ _ (.slice (some ⟨gg, 0, none⟩) (ss.length + 1) cc) hrow5
    have c61 : (w5.setCell ⟨R, 3, none⟩ (.slice (some ⟨gg, 0, none⟩) (ss.length + 1) cc)).cell? ⟨R, 1, none⟩ = some (.int .i64 k) := by rw [cell_of_row _ R 1 _ _ (0, 0) hrowA]; rfl
    have f61 : (w5.setCell ⟨R, 3, none⟩ (.slice (some ⟨gg, 0, none⟩) (ss.length + 1) cc)).frozen? ⟨R, 1, none⟩ = false := frozen_of_row _ R 1 _ _ hrowA
    have hlo5 : ∀ g, (Value.slice so ss.length sc).ownBlock = some g → lo ≤ g := fun g e => ((unhide HA1).lt g e).1
    have hO := OwnS.push (hi := wa.heap.size) (base := wa.heap.size) (zs := d) (m := m) ((World.ownsRow.drew (unhide HA1)).alloc (.cells #[.int .i64 m, .slice dd dl dc] 41)) ((unhide HA3).same (fun g _ h2 => Below.heap_alloc _ _ _ (by simp; omega))) (by simp; omega) hwlo (Nat.le_refl _) (by rw [hdl]; exact (World.ownsRow.drew (unhide HD)).alloc _) hown' hgrow
    have hbase := (unhide HC).base
    have hG5 := grown_new (grown_drew (grown_alloc (unhide HC).grown (.cells #[.int .i64 m, .slice dd dl dc] 41))) hgrow (fun g e => by have := hlo5 g e; omega)
    have hlow5 : lo ≤ w5.heap.size := by have := hgrow.size; simp at this; omega
    have hSt : St w0 (w5.setCell ⟨R, 3, none⟩ (.slice (some ⟨gg, 0, none⟩) (ss.length + 1) cc)) R lo bo n cap k last (.slice (some ⟨gg, 0, none⟩) (ss.length + 1) cc) (ss ++ [(m, d)]) :=
      ⟨hbase, hbel, by simpa using hlow5, hrowA, (hO.set R 3 _ hbel).base (Nat.le_refl _) (by simp), grown_setNew hG5 R 3 _ hbase⟩
    have hF1 : Fr R lo w ((w.alloc (.cells #[.int .i64 m, .slice dd dl dc] 41)).alloc (.cells #[.int .i64 m, .slice dd dl dc] 41)).drew := Fr.of (grown_drew (grown_alloc (grown_alloc (World.grownBy.refl w none) _) _)) hlow (fun _ e => by simp at e)
    have hF2 := (hF1.trans (Fr.of hgrow (by simp; omega) (fun g e => .inl (hlo5 g e)))).trans (Fr.set R lo 3 w5 (.slice (some ⟨gg, 0, none⟩) (ss.length + 1) cc))
    have HST := hide hSt
    have HF2 := hide hF2
    clear hown' hgrow hat hglt hrow5 f53 c53' hrowA hlo5 hO hbase hG5 hlow5 hSt hF1 hF2 c0 c1 c2 c3 ce3
    go_wp2
    go_end0
    exact ⟨rfl, _, (unhide HST).set1 nx, (unhide HF2).trans (Fr.set R lo 1 _ _)⟩
end

end Go.Proofs.YticecjodbhhcfaaDoor
