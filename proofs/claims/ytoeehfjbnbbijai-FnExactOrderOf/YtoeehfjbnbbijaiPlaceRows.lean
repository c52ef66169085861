/-
  The walks of the law's own small functions on rows of places: comparing, marking, looking for the marks.
-/
import Derived.Test.YtoeehfjbnbbijaiFrameRows
import Derived.Test.YtoeehfjbnbbijaiGeoOrd
namespace Go.Proofs.Ytoeehfjbnbbijai
open Go.RowKit

/-- What is read through a slice of places. -/
def RdP (w : World) (ao : Option Addr) (n : Nat) (C : Nat → Nat → Int) : Prop :=
  ∀ i, i < n → ∃ b off, ao = some ⟨b, off, none⟩ ∧ ∀ j, j < 3 → w.cell? ⟨b, off + i * 3 + j, none⟩ = some (.int .i64 (C i j))
theorem RdP.grown {w w' : World} {ao : Option Addr} {n : Nat} {C : Nat → Nat → Int} (h : RdP w ao n C) (hg : w.grownBy w' none) : RdP w' ao n C :=
  fun i hi => by obtain ⟨b, off, e, hc⟩ := h i hi; exact ⟨b, off, e, fun j hj => hg.cell (hc j hj) (by simp)⟩
theorem own_rdP {w : World} {base : Nat} {e : TypeId} {ao : Option Addr} {n cap : Nat} {C : Nat → Nat → Int} (h : w.ownsRow base e 3 (.slice ao n cap) n (rowsK n 3 (compCells C))) : RdP w ao n C := by
  intro i hi
  obtain ⟨g, rfl, _, _⟩ := own_at h (by omega)
  refine ⟨g, 0, rfl, fun j hj => ?_⟩
  rw [Nat.zero_add, h.cellAt _ (place_lt hi hj), rowsK_get n 3 _ i j hi hj]
  rfl
/-- The numbers of a list of places. -/
def plNum (L : List Pl) : Nat → Nat → Int := fun i j => if j = 0 then (L.getD i (0, 0, 0)).1 else if j = 1 then (L.getD i (0, 0, 0)).2.1 else (L.getD i (0, 0, 0)).2.2
theorem plCells_rows (L : List Pl) : plCells L = rowsK L.length 3 (compCells (plNum L)) := by
  apply List.ext_getElem?
  intro q
  by_cases hq : q < L.length * 3
  · obtain ⟨i, j, hj, rfl⟩ : ∃ i j, j < 3 ∧ q = i * 3 + j := ⟨q / 3, q % 3, by omega, by omega⟩
    have hi : i < L.length := by omega
    rw [rowsK_get L.length 3 _ i j hi hj]
    obtain ⟨h0, h1, h2⟩ := plCells_at L i hi
    have hg : L.getD i (0, 0, 0) = L[i] := by simp [hi]
    have e : j = 0 ∨ j = 1 ∨ j = 2 := by omega
    rcases e with rfl | rfl | rfl
    · rw [Nat.add_zero, h0]; simp [compCells, plNum, hi]
    · rw [h1]; simp [compCells, plNum, hi]
    · rw [h2]; simp [compCells, plNum, hi]
  · rw [List.getElem?_eq_none (by rw [plCells_len]; omega), List.getElem?_eq_none (by rw [rowsK_len]; omega)]

set_option maxHeartbeats 800000 in
theorem eqPlace (c0 c1 c2 : Int) (w : World) :
    Calls Try.prog 59 #[.agg #[.int .i64 c0, .int .i64 c1, .int .i64 c2], .agg #[.int .i64 c0, .int .i64 c1, .int .i64 c2]] w fun e w' => e = .returned (.bool true) ∧ w.grownBy w' none := by
  have h0 : (c0 != c0) = false := by simp
  have h1 : (c1 != c1) = false := by simp
  have h2 : (c2 != c2) = false := by simp
  go_enter Try.func59, Try.ntmps59
  go_wp2
  go_ret
  exact ⟨rfl, grown_alloc (grown_alloc (World.grownBy.refl _ _) _) _⟩

set_option maxHeartbeats 1600000 in
theorem eqPlaceS (ao bo : Option Addr) (n cap cap' : Nat) (C : Nat → Nat → Int) (w : World) (hx : RdP w ao n C) (hy : RdP w bo n C) (hn : n ≤ 134217728) :
    Calls Try.prog 32 #[.slice ao n cap, .slice bo n cap'] w fun e w' => e = .returned (.bool true) ∧ w.grownBy w' none := by
  have HX := hide hx
  have HY := hide hy
  clear hx hy
  have hne : ((n : Int) != n) = false := by simp
  go_enter Try.func32, Try.ntmps32
  go_wp2
  go_loopw [5] (fun i wr => ∃ k : Nat, k ≤ n ∧ i = .int .i64 k ∧ w.grownBy wr none) (fun i _ => n - (intOf i).toNat)
  case atStart => exact ⟨0, Nat.zero_le _, rfl, World.grownBy.refl _ _⟩
  case round =>
    obtain ⟨k, hk, rfl, hgk⟩ := hrel
    by_cases hlt : k < n
    · obtain ⟨b, off, rfl, hc⟩ := (unhide HX) k hlt
      obtain ⟨b', off', rfl, hd⟩ := (unhide HY) k hlt
      have hc' := fun j hj => hgk.cell (hc j hj) (by simp)
      have hd' := fun j hj => hgk.cell (hd j hj) (by simp)
      have a0 := hc' 0 (by omega)
      have a1 := hc' 1 (by omega)
      have a2 := hc' 2 (by omega)
      have b0 := hd' 0 (by omega)
      have b1 := hd' 1 (by omega)
      have b2 := hd' 2 (by omega)
      rw [Nat.add_zero] at a0 b0
      clear hc hc' hd hd'
      generalize C k 0 = c0 at *
      generalize C k 1 = c1 at *
      generalize C k 2 = c2 at *
      have hik : (k : Int) < (n : Int) := by omega
      go_wp2
      go_region_with (go_at_call 59; refine (eqPlace c0 c1 c2 _).mono ?_; rintro e w2 ⟨rfl, g2⟩)
      all_goals
        go_wp2
        go_roundw
        case rel => exact ⟨k + 1, by omega, by go_num, grown_trans (grown_drew hgk) g2⟩
        case measure => simp [intOf]; omega
    · go_wp2
      go_ret
      exact ⟨rfl, hgk⟩

/-- Places that are marked all over, from k0 on. -/
def markedP (k0 : Int) : Nat → Nat → Int := fun i j => k0 + 3 * (i : Int) + (j : Int)
theorem markPl_set (C : Nat → Nat → Int) (k0 : Int) (n k : Nat) (q : Int) (hq : k0 + 3 * (k : Int) = q) :
    (((rowsK n 3 (compCells (fun i j => if i < k then markedP k0 i j else C i j))).set (k * 3) (.int .i64 q)).set (k * 3 + 1) (.int .i64 (q + 1))).set (k * 3 + 2) (.int .i64 (q + 1 + 1)) = rowsK n 3 (compCells (fun i j => if i < k + 1 then markedP k0 i j else C i j)) := by
  have e0 := rowsK_set n 3 (compCells (fun i j => if i < k then markedP k0 i j else C i j)) k 0 (.int .i64 q) (by omega)
  rw [Nat.add_zero] at e0
  rw [e0, rowsK_set _ _ _ k 1 _ (by omega), rowsK_set _ _ _ k 2 _ (by omega)]
  apply rowsK_congr
  intro i j _ hj
  have hj4 : j = 0 ∨ j = 1 ∨ j = 2 := by omega
  by_cases e1 : i = k
  · subst e1
    rcases hj4 with rfl | rfl | rfl <;> simp [compCells, markedP, hq] <;> omega
  · by_cases e2 : i < k
    · rcases hj4 with rfl | rfl | rfl <;> simp [compCells, e1, e2, show i < k + 1 by omega]
    · rcases hj4 with rfl | rfl | rfl <;> simp [compCells, e1, e2, show ¬ i < k + 1 by omega]

set_option maxHeartbeats 1600000 in
theorem markPlaceS (ao : Option Addr) (n cap base : Nat) (C : Nat → Nat → Int) (k0 : Int) (w : World) (ho : w.ownsRow base 83 3 (.slice ao n cap) n (rowsK n 3 (compCells C))) (hn : n ≤ 134217728) (h0 : 0 ≤ k0) (h1 : k0 ≤ 1073741824) :
    Calls Try.prog 34 #[.slice ao n cap, .int .i64 k0] w fun e w' => e = .returned (.int .i64 (k0 + 3 * n)) ∧
      w'.ownsRow base 83 3 (.slice ao n cap) n (rowsK n 3 (compCells (markedP k0))) ∧ w.grownBy w' (Value.slice ao n cap).ownBlock := by
  have ho' : w.ownsRow base 83 3 (.slice ao n cap) n (rowsK n 3 (compCells (fun i j => if i < 0 then markedP k0 i j else C i j))) := by
    have e : rowsK n 3 (compCells (fun i j => if i < 0 then markedP k0 i j else C i j)) = rowsK n 3 (compCells C) := rowsK_congr (fun i j _ _ => by simp [compCells])
    rw [e]; exact ho
  clear ho
  have HO := hide ho'
  clear ho'
  go_enter Try.func34, Try.ntmps34
  go_wp2
  go_loopw [1, 5] (fun c i wr => ∃ k : Nat, k ≤ n ∧ i = .int .i64 k ∧ c = .int .i64 (k0 + 3 * k) ∧ wr.ownsRow base 83 3 (.slice ao n cap) n (rowsK n 3 (compCells (fun i j => if i < k then markedP k0 i j else C i j))) ∧ w.grownBy wr (Value.slice ao n cap).ownBlock) (fun _ i _ => n - (intOf i).toNat)
  case atStart => exact ⟨0, Nat.zero_le _, rfl, by go_num, unhide HO, World.grownBy.refl _ _⟩
  case round =>
    obtain ⟨k, hk, rfl, rfl, hok, hgk⟩ := hrel
    by_cases hlt : k < n
    · obtain ⟨g, rfl, _, _⟩ := own_at hok (by omega)
      obtain ⟨q, hq⟩ : ∃ q, k0 + 3 * (k : Int) = q := ⟨_, rfl⟩
      have HSET := hide (markPl_set C k0 n k q hq)
      have hqb : 0 ≤ q ∧ q ≤ 2000000000 := by omega
      have HQ := hide hq
      rw [hq]
      clear hq
      have f0 := hok.frozenAt (k * 3)
      have f1 := hok.frozenAt (k * 3 + 1)
      have f2 := hok.frozenAt (k * 3 + 2)
      have hold : ∀ j, j < n * 3 → ∃ u, wr.cell? ⟨g, j, none⟩ = some u := fun j hj => by rw [hok.cellAt j hj]; exact ⟨_, List.getElem?_eq_getElem (by rw [hok.1]; omega)⟩
      obtain ⟨v0, hv0⟩ := hold (k * 3) (by omega)
      obtain ⟨v1, hv1⟩ := hold (k * 3 + 1) (by omega)
      obtain ⟨v2, hv2⟩ := hold (k * 3 + 2) (by omega)
      have s0 := hok.stored (k * 3) (.int .i64 q)
      have s1 := s0.1.stored (k * 3 + 1) (.int .i64 (q + 1))
      have s2 := s1.1.stored (k * 3 + 2) (.int .i64 (q + 1 + 1))
      have HG := hide (grown_trans hgk (grown_trans (grown_trans s0.2 s1.2) s2.2))
      have HS := hide s2.1
      rw [unhide HSET] at HS
      clear s0 s1 s2 hok hgk hold HSET
      go_wp2
      go_roundw
      case rel => exact ⟨k + 1, by omega, by go_num, by have := unhide HQ; congr 1; omega, unhide HS, unhide HG⟩
      case measure => simp [intOf]; omega
    · have hkn : k = n := by omega
      subst hkn
      go_wp2
      go_ret
      refine ⟨rfl, ?_, hgk⟩
      have e : rowsK k 3 (compCells (markedP k0)) = rowsK k 3 (compCells (fun i j => if i < k then markedP k0 i j else C i j)) := rowsK_congr (fun i j hi' _ => by simp [compCells, hi'])
      rw [e]; exact hok

set_option maxHeartbeats 1600000 in
theorem heldPlaceS (ao : Option Addr) (n cap : Nat) (k0 : Int) (w : World) (hr : RdP w ao n (markedP k0)) (hn : n ≤ 134217728) (h0 : 0 ≤ k0) (h1 : k0 ≤ 1073741824) :
    Calls Try.prog 35 #[.slice ao n cap, .int .i64 k0] w fun e w' => e = .returned (.int .i64 (k0 + 3 * n)) ∧ w.grownBy w' none := by
  have HR := hide hr
  clear hr
  go_enter Try.func35, Try.ntmps35
  go_wp2
  go_loop [1, 5] (fun c i => ∃ k : Nat, k ≤ n ∧ i = .int .i64 k ∧ c = .int .i64 (k0 + 3 * k)) (fun _ i => n - (intOf i).toNat)
  case atStart => exact ⟨0, Nat.zero_le _, rfl, by go_num⟩
  case round =>
    obtain ⟨k, hk, rfl, rfl⟩ := hrel
    by_cases hlt : k < n
    · obtain ⟨b, off, rfl, hc⟩ := (unhide HR) k hlt
      obtain ⟨q, hq⟩ : ∃ q, k0 + 3 * (k : Int) = q := ⟨_, rfl⟩
      have a0 := hc 0 (by omega)
      have a1 := hc 1 (by omega)
      have a2 := hc 2 (by omega)
      have e0 : markedP k0 k 0 = q := by unfold markedP; omega
      have e1 : markedP k0 k 1 = q + 1 := by unfold markedP; omega
      have e2 : markedP k0 k 2 = q + 1 + 1 := by unfold markedP; omega
      rw [e0, Nat.add_zero] at a0
      rw [e1] at a1
      rw [e2] at a2
      have hqb : 0 ≤ q ∧ q ≤ 2000000000 := by omega
      have HQ := hide hq
      rw [hq]
      clear hq e0 e1 e2 hc
      have n0 : (q != q) = false := by simp
      have n1 : (q + 1 != q + 1) = false := by simp
      have n2 : (q + 1 + 1 != q + 1 + 1) = false := by simp
      go_wp2
      go_round
      case rel => exact ⟨k + 1, by omega, by go_num, by have := unhide HQ; congr 1; omega⟩
      case measure => simp [intOf]; omega
    · have hkn : k = n := by omega
      subst hkn
      go_wp2
      go_ret
      exact ⟨rfl, World.grownBy.refl _ _⟩

end Go.Proofs.Ytoeehfjbnbbijai
