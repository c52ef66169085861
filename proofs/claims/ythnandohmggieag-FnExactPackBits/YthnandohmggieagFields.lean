/-
  The walks of the law's own small functions on rows of fields: copying, comparing, marking.
-/
import Derived.Test.YthnandohmggieagRows
import Derived.Test.YthnandohmggieagKit
import Derived.Deep.QuietTactic
import Derived.BigQuiet
import Derived.Deep.RegionWith
import Derived.Outline
namespace Go.Proofs.Ythnandohmggieag
open Go.RowKit

abbrev fv (f : Int × Int) : Value := .agg #[.int .i64 f.1, .int .i64 f.2]

set_option maxHeartbeats 400000 in
theorem toField (a b : Int) (w : World) :
    Calls Try.prog 25 #[.agg #[.int .i64 a, .int .i64 b]] w fun e w' => e = .returned (.agg #[.int .i64 a, .int .i64 b]) ∧ w.grownBy w' none := by
  go_enter Try.func25, Try.ntmps25
  go_wp2
  refine bodyPost_ret (v := .agg #[.int .i64 a, .int .i64 b]) (by simp [results, Try.results25, go_sem]) rfl ⟨rfl, ?_⟩
  exact grown_alloc (grown_alloc (grown_alloc (World.grownBy.refl _ _) _) _) _

/-- What is read through a slice of fields. -/
def RdF (w : World) (ao : Option Addr) (n : Nat) (fs : List (Int × Int)) : Prop :=
  fs.length = n ∧ ∀ i, i < n → ∃ b off, ao = some ⟨b, off, none⟩ ∧ w.cell? ⟨b, off + i * 2, none⟩ = some (.int .i64 (fs.getD i (0, 0)).1) ∧ w.cell? ⟨b, off + i * 2 + 1, none⟩ = some (.int .i64 (fs.getD i (0, 0)).2)

theorem RdF.grown {w w' : World} {ao : Option Addr} {n : Nat} {fs : List (Int × Int)} (h : RdF w ao n fs) (hg : w.grownBy w' none) : RdF w' ao n fs :=
  ⟨h.1, fun i hi => by obtain ⟨b, off, e, h1, h2⟩ := h.2 i hi; exact ⟨b, off, e, hg.cell h1 (by simp), hg.cell h2 (by simp)⟩⟩

/-- A slice of fields that came in, as the row's step hands it over. -/
theorem rdF_of_row {w : World} {x : Addr} {n : Nat} {V0 V1 : Nat → Value} (h : ∀ i, i < n → w.cell? (x.add (i * 2)) = some (V0 i) ∧ w.cell? (x.add (i * 2 + 1)) = some (V1 i) ∧ (∃ a, V0 i = .int .i64 a) ∧ ∃ b, V1 i = .int .i64 b) :
    RdF w (some x) n ((List.range n).map (fun i => (intOf (V0 i), intOf (V1 i)))) := by
  refine ⟨by simp, fun i hi => ?_⟩
  obtain ⟨b, off, spot⟩ := x
  have hspot : spot = none := by simpa [Addr.add] using World.cell?_spot (h 0 (by omega)).1
  subst hspot
  obtain ⟨h1, h2, ⟨a1, e1⟩, ⟨a2, e2⟩⟩ := h i hi
  rw [Addr.add_lit] at h1 h2
  refine ⟨b, off, rfl, ?_, ?_⟩
  · rw [h1, e1]; simp [hi, e1, intOf]
  · rw [Nat.add_assoc, h2, e2]; simp [hi, e2, intOf]

/-- The cells of a row of fields. -/
def flat (fs : List (Int × Int)) : List Value := fs.flatMap (fun f => [.int .i64 f.1, .int .i64 f.2])
theorem flat_cons (f : Int × Int) (fs : List (Int × Int)) : flat (f :: fs) = .int .i64 f.1 :: .int .i64 f.2 :: flat fs := by simp [flat]
theorem flat_append (fs gs : List (Int × Int)) : flat (fs ++ gs) = flat fs ++ flat gs := by simp [flat]
theorem flat_len (fs : List (Int × Int)) : (flat fs).length = fs.length * 2 := by
  induction fs with
  | nil => rfl
  | cons f r ih => rw [flat_cons]; simp [ih]; omega
theorem flat_get (fs : List (Int × Int)) : ∀ i, i < fs.length → (flat fs)[i * 2]? = some (.int .i64 (fs.getD i (0, 0)).1) ∧ (flat fs)[i * 2 + 1]? = some (.int .i64 (fs.getD i (0, 0)).2) := by
  induction fs with
  | nil => intro i hi; simp at hi
  | cons f r ih =>
    intro i hi
    rw [flat_cons]
    cases i with
    | zero => simp
    | succ j =>
      have h := ih j (by simpa using hi)
      have e1 : (j + 1) * 2 = j * 2 + 1 + 1 := by omega
      rw [e1]
      simpa using h

/-- What a copy of fields holds behind k rounds. -/
def partF (fs : List (Int × Int)) (k : Nat) : List Value := flat (fs.take k) ++ List.replicate ((fs.length - k) * 2) (.int .i64 0)
theorem partF_all (fs : List (Int × Int)) : partF fs fs.length = flat fs := by simp [partF]
theorem partF_zero (fs : List (Int × Int)) : partF fs 0 = List.replicate (fs.length * 2) (.int .i64 0) := by simp [partF, flat]
theorem partF_set (fs : List (Int × Int)) (k : Nat) (h : k < fs.length) : ((partF fs k).set (k * 2) (.int .i64 (fs.getD k (0, 0)).1)).set (k * 2 + 1) (.int .i64 (fs.getD k (0, 0)).2) = partF fs (k + 1) := by
  have hl : (flat (fs.take k)).length = k * 2 := by rw [flat_len, List.length_take]; omega
  unfold partF
  rw [List.take_succ_eq_append_getElem h, flat_append, List.append_assoc]
  rw [List.set_append_right _ _ (by omega), List.set_append_right _ _ (by omega), hl]
  congr 1
  have e : (fs.length - k) * 2 = (fs.length - (k + 1)) * 2 + 1 + 1 := by omega
  rw [e, List.replicate_succ, List.replicate_succ]
  have e2 : k * 2 + 1 - k * 2 = 1 := by omega
  rw [Nat.sub_self, e2]
  simp [flat, h]

theorem own_rdF {w : World} {base : Nat} {e : TypeId} {ao : Option Addr} {n cap : Nat} {fs : List (Int × Int)} (h : w.ownsRow base e 2 (.slice ao n cap) n (flat fs)) : RdF w ao n fs := by
  have hl : fs.length = n := by have := h.1; rw [flat_len] at this; omega
  refine ⟨hl, fun i hi => ?_⟩
  obtain ⟨g, rfl, _, _⟩ := own_at h (by omega)
  have hg := flat_get fs i (by omega)
  refine ⟨g, 0, rfl, ?_, ?_⟩
  · rw [Nat.zero_add, h.cellAt _ (by omega)]; exact hg.1
  · rw [Nat.zero_add, h.cellAt _ (by omega)]; exact hg.2

theorem madeFields (n : Nat) : (madeCells #[Value.int .i64 0, Value.int .i64 0] (n * 2)).toList = List.replicate (n * 2) (.int .i64 0) := by
  apply List.ext_getElem?
  intro j
  by_cases hj : j < n * 2
  · have : j % 2 = 0 ∨ j % 2 = 1 := by omega
    rcases this with h | h <;> simp [madeCells, hj, h]
  · simp [madeCells, hj]

theorem Try.info43 : (Try.prog.info? 43).map (fun i => (i.zero, i.size, i.bytes)) = some (some (.agg #[.int .i64 0, .int .i64 0]), 2, 16) := by kernel_rfl

set_option maxHeartbeats 400000 in
theorem toFieldS (ao : Option Addr) (n cap : Nat) (fs : List (Int × Int)) (w : World) (hr : RdF w ao n fs) (hn : n ≤ 4194304) :
    Calls Try.prog 8 #[.slice ao n cap] w fun e w' => e = .returned (.slice (some ⟨w.heap.size, 0, none⟩) n n) ∧
      w'.ownsRow w.heap.size 43 2 (.slice (some ⟨w.heap.size, 0, none⟩) n n) n (flat fs) ∧ w.grownBy w' none := by
  obtain ⟨i0, hi, hz0, hz1, hz2⟩ := info_parts Try.info43
  obtain ⟨hl, hc⟩ := hr
  go_enter Try.func8, Try.ntmps8
  go_wp2_with (at_make; refine wpList_make_full _ rfl _ _ 25 rfl w.heap.size 43 i0 (.agg #[.int .i64 0, .int .i64 0]) 2 Try.underlying25 hi hz0 hz1 .i64 .i64 _ _ n rfl rfl rfl rfl (by rw [hz2]; omega) (by unfold maxLen; omega) (Nat.le_refl _) ?_)
  intro w1 hown hgrow
  have hown0 : w1.ownsRow w.heap.size 43 2 (.slice (some ⟨w.heap.size, 0, none⟩) n n) n (partF fs 0) := by
    rw [partF_zero, hl, ← madeFields]; exact hown
  clear hown hi hz0 hz1 hz2
  go_wp2
  go_loopw [4] (fun i wr => ∃ (k : Nat), k ≤ n ∧ i = .int .i64 k ∧ wr.ownsRow w.heap.size 43 2 (.slice (some ⟨w.heap.size, 0, none⟩) n n) n (partF fs k) ∧ w.grownBy wr none) (fun i _ => n - (intOf i).toNat)
  case atStart => exact ⟨0, Nat.zero_le _, rfl, hown0, hgrow⟩
  case round =>
    obtain ⟨k, hk, rfl, hownk, hgk⟩ := hrel
    clear hown0 hgrow
    by_cases hlt : k < n
    · obtain ⟨b, off, rfl, hc1, hc2⟩ := hc k hlt
      have hcell1 := hgk.cell hc1 (by simp)
      have hcell2 := hgk.cell hc2 (by simp)
      have HS := hide (partF_set fs k (by omega))
      clear hc hc1 hc2
      generalize fs.getD k (0, 0) = f at hcell1 hcell2 HS
      obtain ⟨x, y⟩ := f
      go_wp2_with fail
      refine (toField _ _ _).mono ?_
      rintro e w2 ⟨rfl, g2⟩
      have ho2 := own_grown hownk g2
      have hg2 := grown_trans hgk g2
      have hfro := ho2.frozenAt (k * 2)
      have hfro1 := ho2.frozenAt (k * 2 + 1)
      have hold : ∀ j, j < n * 2 → ∃ u, w2.cell? ⟨w.heap.size, j, none⟩ = some u := fun j hj => by rw [ho2.cellAt j hj]; exact ⟨_, List.getElem?_eq_getElem (by rw [ho2.1]; omega)⟩
      obtain ⟨u1, hu1⟩ := hold (k * 2) (by omega)
      obtain ⟨u2, hu2⟩ := hold (k * 2 + 1) (by omega)
      have hst := ho2.stored (k * 2) (.int .i64 x)
      have hst2 := hst.1.stored (k * 2 + 1) (.int .i64 y)
      rw [unhide HS] at hst2
      have hg' := grown_new (grown_new hg2 hst.2 (by intro g e; simp at e; omega)) hst2.2 (by intro g e; simp at e; omega)
      have HR := hst2.1
      clear hst hst2 hownk hgk ho2 hg2 hold g2 hcell1 hcell2
      go_wp2
      go_roundw
      case rel => exact ⟨k + 1, by omega, by go_num, HR, hg'⟩
      case measure => simp [intOf]; omega
    · have hkn : k = n := by omega
      subst hkn
      go_wp2
      go_ret
      rw [← hl, partF_all, hl] at hownk
      exact ⟨rfl, hownk, hgk⟩

set_option maxHeartbeats 400000 in
theorem eqField (a b : Int) (w : World) :
    Calls Try.prog 27 #[.agg #[.int .i64 a, .int .i64 b], .agg #[.int .i64 a, .int .i64 b]] w fun e w' => e = .returned (.bool true) ∧ w.grownBy w' none := by
  go_enter Try.func27, Try.ntmps27
  go_wp2
  go_ret
  exact ⟨rfl, grown_alloc (grown_alloc (World.grownBy.refl _ _) _) _⟩

set_option maxHeartbeats 400000 in
theorem eqFieldS (ao bo : Option Addr) (n cap cap' : Nat) (fs : List (Int × Int)) (w : World) (hx : RdF w ao n fs) (hy : RdF w bo n fs) (hn : n ≤ 4194304) :
    Calls Try.prog 10 #[.slice ao n cap, .slice bo n cap'] w fun e w' => e = .returned (.bool true) ∧ w.grownBy w' none := by
  obtain ⟨hl, hc⟩ := hx
  obtain ⟨_, hd⟩ := hy
  have hne : ((n : Int) != n) = false := by simp
  go_enter Try.func10, Try.ntmps10
  go_wp2
  go_loopw [5] (fun i wr => ∃ k : Nat, k ≤ n ∧ i = .int .i64 k ∧ w.grownBy wr none) (fun i _ => n - (intOf i).toNat)
  case atStart => exact ⟨0, Nat.zero_le _, rfl, World.grownBy.refl _ _⟩
  case round =>
    obtain ⟨k, hk, rfl, hgk⟩ := hrel
    by_cases hlt : k < n
    · obtain ⟨b, off, rfl, hc1, hc2⟩ := hc k hlt
      obtain ⟨b', off', rfl, hd1, hd2⟩ := hd k hlt
      have hca := hgk.cell hc1 (by simp)
      have hcb := hgk.cell hc2 (by simp)
      have hda := hgk.cell hd1 (by simp)
      have hdb := hgk.cell hd2 (by simp)
      clear hc hd hc1 hc2 hd1 hd2
      generalize fs.getD k (0, 0) = f at hca hcb hda hdb
      obtain ⟨x, y⟩ := f
      have hik : (k : Int) < (n : Int) := by omega
      go_wp2
      go_region_with (go_at_call 27; refine (eqField x y _).mono ?_; rintro e w2 ⟨rfl, g2⟩)
      all_goals
        go_wp2
        go_roundw
        case rel => exact ⟨k + 1, by omega, by go_num, grown_trans (grown_drew hgk) g2⟩
        case measure => simp [intOf]; omega
    · go_wp2
      go_ret
      exact ⟨rfl, hgk⟩

set_option maxHeartbeats 400000 in
theorem markFieldS (ao : Option Addr) (n cap base : Nat) (xs : List Value) (k0 : Int) (w : World) (ho : w.ownsRow base 43 2 (.slice ao n cap) n xs) (hn : n ≤ 4194304) (h0 : 0 ≤ k0) (h1 : k0 ≤ 1073741824) :
    Calls Try.prog 14 #[.slice ao n cap, .int .i64 k0] w fun e w' => e = .returned (.int .i64 (k0 + 2 * n)) ∧
      (∃ ys, w'.ownsRow base 43 2 (.slice ao n cap) n ys) ∧ w.grownBy w' (Value.slice ao n cap).ownBlock := by
  go_enter Try.func14, Try.ntmps14
  go_wp2
  go_loopw [1, 5] (fun c i wr => ∃ (k : Nat) (ys : List Value), k ≤ n ∧ i = .int .i64 k ∧ c = .int .i64 (k0 + 2 * k) ∧ wr.ownsRow base 43 2 (.slice ao n cap) n ys ∧ w.grownBy wr (Value.slice ao n cap).ownBlock) (fun _ i _ => n - (intOf i).toNat)
  case atStart => exact ⟨0, xs, Nat.zero_le _, rfl, by go_num, ho, World.grownBy.refl _ _⟩
  case round =>
    obtain ⟨k, ys, hk, rfl, rfl, hownk, hgk⟩ := hrel
    clear ho
    by_cases hlt : k < n
    · obtain ⟨g, rfl, _, _⟩ := own_at hownk (by omega)
      have hfro := hownk.frozenAt (k * 2)
      have hfro1 := hownk.frozenAt (k * 2 + 1)
      have hold : ∀ j, j < n * 2 → ∃ u, wr.cell? ⟨g, j, none⟩ = some u := fun j hj => by rw [hownk.cellAt j hj]; exact ⟨_, List.getElem?_eq_getElem (by rw [hownk.1]; omega)⟩
      obtain ⟨u1, hu1⟩ := hold (k * 2) (by omega)
      obtain ⟨u2, hu2⟩ := hold (k * 2 + 1) (by omega)
      have hst := hownk.stored (k * 2) (.int .i64 (k0 + 2 * k))
      have hst2 := hst.1.stored (k * 2 + 1) (.int .i64 (k0 + 2 * k + 1))
      have hg' := grown_trans (grown_trans hgk hst.2) hst2.2
      have HR := hst2.1
      clear hst hst2 hownk hgk hold
      go_wp2
      go_roundw
      case rel => exact ⟨k + 1, _, by omega, by go_num, by go_num, HR, hg'⟩
      case measure => simp [intOf]; omega
    · have hkn : k = n := by omega
      subst hkn
      go_wp2
      go_ret
      exact ⟨rfl, ⟨ys, hownk⟩, hgk⟩

theorem szFieldS (ao : Option Addr) (n cap : Nat) (w : World) (hn : n ≤ 1048576) :
    Calls Try.prog 6 #[.slice ao n cap, .int .i64 1048576] w fun e w' => e = .returned (.int .i64 (1048576 - n)) ∧ w = w' := by
  have h : ¬ ((1048576 : Int) - n < 0) := by omega
  go_enter Try.func6, Try.ntmps6
  go_wp2
  go_ret
  exact ⟨rfl, rfl⟩
theorem szFieldS_no (ao : Option Addr) (n cap : Nat) (w : World) (hn : 1048576 < n) (hm : n ≤ 9223372036854775807) :
    Calls Try.prog 6 #[.slice ao n cap, .int .i64 1048576] w fun e w' => e = .returned (.int .i64 (-1)) ∧ w = w' := by
  have h : (1048576 : Int) - n < 0 := by omega
  go_enter Try.func6, Try.ntmps6
  go_wp2
  go_ret
  exact ⟨rfl, rfl⟩

end Go.Proofs.Ythnandohmggieag
