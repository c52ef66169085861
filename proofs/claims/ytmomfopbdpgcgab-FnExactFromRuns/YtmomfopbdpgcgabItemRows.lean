/-
  The walks of the law's own small functions on rows of items: copying, comparing, marking, looking for the marks.
-/
import Derived.Test.YtmomfopbdpgcgabRunSpec3
namespace Go.Proofs.Ytmomfopbdpgcgab
open Go.RowKit

theorem itCells_put : ∀ (I : List It) (k : Nat) (a b c : Int), k < I.length → (((itCells I).set (k * 3) (.int .i64 a)).set (k * 3 + 1) (.int .i64 b)).set (k * 3 + 2) (.int .i64 c) = itCells (I.set k (a, b, c))
  | p :: I, 0, a, b, c, _ => by simp [itCells]
  | p :: I, k + 1, a, b, c, h => by
    have ih := itCells_put I k a b c (by simpa using h)
    have e0 : (k + 1) * 3 = k * 3 + 1 + 1 + 1 := by omega
    have e1 : (k + 1) * 3 + 1 = k * 3 + 1 + 1 + 1 + 1 := by omega
    have e2 : (k + 1) * 3 + 2 = k * 3 + 2 + 1 + 1 + 1 := by omega
    rw [e1, e2, e0]
    simp only [itCells, List.set_cons_succ, ih]
/-- The items that a row is marked with, from k0 on. -/
def markT (k0 : Int) (n : Nat) : List It := (List.range n).map fun i : Nat => (k0 + 3 * (i : Int), k0 + 3 * (i : Int) + 1, k0 + 3 * (i : Int) + 1 + 1)
theorem markT_len (k0 : Int) (n : Nat) : (markT k0 n).length = n := by simp [markT]
theorem markT_at (k0 : Int) (n i : Nat) (h : i < n) : (markT k0 n).getD i (0, 0, 0) = (k0 + 3 * (i : Int), k0 + 3 * (i : Int) + 1, k0 + 3 * (i : Int) + 1 + 1) := by simp [markT, h]
/-- So far marked. -/
def overT (k0 : Int) (I : List It) (k : Nat) : List It := markT k0 k ++ I.drop k
theorem overT_set (k0 : Int) (I : List It) (k : Nat) (h : k < I.length) : (overT k0 I k).set k (k0 + 3 * (k : Int), k0 + 3 * (k : Int) + 1, k0 + 3 * (k : Int) + 1 + 1) = overT k0 I (k + 1) := by
  unfold overT
  rw [List.set_append_right _ _ (by rw [markT_len]; omega), markT_len, Nat.sub_self, List.drop_eq_getElem_cons h]
  have e : markT k0 (k + 1) = markT k0 k ++ [(k0 + 3 * (k : Int), k0 + 3 * (k : Int) + 1, k0 + 3 * (k : Int) + 1 + 1)] := by simp [markT, List.range_succ]
  rw [e, List.append_assoc]
  rfl
theorem overT_len (k0 : Int) (I : List It) (k : Nat) (h : k ≤ I.length) : (overT k0 I k).length = I.length := by unfold overT; rw [List.length_append, markT_len, List.length_drop]; omega
theorem overT_all (k0 : Int) (I : List It) : overT k0 I I.length = markT k0 I.length := by simp [overT]
theorem own_rdM {w : World} {base : Nat} {e : TypeId} {ao : Option Addr} {n cap : Nat} {k0 : Int} (h : w.ownsRow base e 3 (.slice ao n cap) n (itCells (markT k0 n))) : RdT w ao n (markT k0 n) := by
  have hl := markT_len k0 n
  have h' : w.ownsRow base e 3 (.slice ao (markT k0 n).length cap) (markT k0 n).length (itCells (markT k0 n)) := by rw [hl]; exact h
  have h2 := own_rdT h'
  rw [hl] at h2
  exact h2
theorem own_rdN {w : World} {base : Nat} {e : TypeId} {ao : Option Addr} {n cap : Nat} {I : List It} (hl : I.length = n) (h : w.ownsRow base e 3 (.slice ao n cap) n (itCells I)) : RdT w ao n I := by
  subst hl
  exact own_rdT h

set_option maxHeartbeats 800000 in
theorem eqItem (c0 c1 c2 : Int) (w : World) :
    Calls Try.prog 21 #[.agg #[.int .i64 c0, .int .i64 c1, .int .i64 c2], .agg #[.int .i64 c0, .int .i64 c1, .int .i64 c2]] w fun e w' => e = .returned (.bool true) ∧ w.grownBy w' none := by
  have h0 : (c0 != c0) = false := by simp
  have h1 : (c1 != c1) = false := by simp
  have h2 : (c2 != c2) = false := by simp
  go_enter Try.func21, Try.ntmps21
  go_wp2
  go_ret
  exact ⟨rfl, grown_alloc (grown_alloc (World.grownBy.refl _ _) _) _⟩

set_option maxHeartbeats 1600000 in
theorem eqItemS (ao bo : Option Addr) (n cap cap' : Nat) (I : List It) (w : World) (hx : RdT w ao n I) (hy : RdT w bo n I) (hn : n ≤ 4194304) :
    Calls Try.prog 9 #[.slice ao n cap, .slice bo n cap'] w fun e w' => e = .returned (.bool true) ∧ w.grownBy w' none := by
  have HX := hide hx
  have HY := hide hy
  clear hx hy
  have hne : ((n : Int) != n) = false := by simp
  go_enter Try.func9, Try.ntmps9
  go_wp2
  go_loopw [5] (fun i wr => ∃ k : Nat, k ≤ n ∧ i = .int .i64 k ∧ w.grownBy wr none) (fun i _ => n - (intOf i).toNat)
  case atStart => exact ⟨0, Nat.zero_le _, rfl, World.grownBy.refl _ _⟩
  case round =>
    obtain ⟨k, hk, rfl, hgk⟩ := hrel
    by_cases hlt : k < n
    · obtain ⟨b, off, rfl, a0, a1, a2⟩ := ((unhide HX).grown hgk).2 k hlt
      obtain ⟨b', off', rfl, b0, b1, b2⟩ := ((unhide HY).grown hgk).2 k hlt
      generalize I.getD k (0, 0, 0) = x at *
      obtain ⟨c0, c1, c2⟩ := x
      dsimp only at a0 a1 a2 b0 b1 b2
      have hik : (k : Int) < (n : Int) := by omega
      go_wp2
      go_region_with (go_at_call 21; refine (eqItem c0 c1 c2 _).mono ?_; rintro e w2 ⟨rfl, g2⟩)
      all_goals
        go_wp2
        go_roundw
        case rel => exact ⟨k + 1, by omega, by go_num, grown_trans (grown_drew hgk) g2⟩
        case measure => simp [intOf]; omega
    · go_wp2
      go_ret
      exact ⟨rfl, hgk⟩

set_option maxHeartbeats 1600000 in
theorem markItemS (ao : Option Addr) (n cap base : Nat) (I : List It) (k0 : Int) (w : World) (ho : w.ownsRow base 36 3 (.slice ao n cap) n (itCells I)) (hn : n ≤ 4194304) (h0 : 0 ≤ k0) (h1 : k0 ≤ 1073741824) :
    Calls Try.prog 10 #[.slice ao n cap, .int .i64 k0] w fun e w' => e = .returned (.int .i64 (k0 + 3 * n)) ∧
      w'.ownsRow base 36 3 (.slice ao n cap) n (itCells (markT k0 n)) ∧ w.grownBy w' (Value.slice ao n cap).ownBlock := by
  have hIl : I.length = n := by have := ho.1; rw [itCells_len] at this; omega
  have HO : Hid (w.ownsRow base 36 3 (.slice ao n cap) n (itCells (overT k0 I 0))) := ho
  have HIL := hide hIl
  clear ho hIl
  go_enter Try.func10, Try.ntmps10
  go_wp2
  go_loopw [1, 5] (fun c i wr => ∃ k : Nat, k ≤ n ∧ i = .int .i64 k ∧ c = .int .i64 (k0 + 3 * k) ∧ wr.ownsRow base 36 3 (.slice ao n cap) n (itCells (overT k0 I k)) ∧ w.grownBy wr (Value.slice ao n cap).ownBlock) (fun _ i _ => n - (intOf i).toNat)
  case atStart => exact ⟨0, Nat.zero_le _, rfl, by go_num, unhide HO, World.grownBy.refl _ _⟩
  case round =>
    obtain ⟨k, hk, rfl, rfl, hok, hgk⟩ := hrel
    by_cases hlt : k < n
    · obtain ⟨g, rfl, _, _⟩ := own_at hok (by omega)
      have hset := overT_set k0 I k (by have := unhide HIL; omega)
      have hput := itCells_put (overT k0 I k) k (k0 + 3 * (k : Int)) (k0 + 3 * (k : Int) + 1) (k0 + 3 * (k : Int) + 1 + 1) (by rw [overT_len _ _ _ (by have := unhide HIL; omega)]; have := unhide HIL; omega)
      rw [hset] at hput
      obtain ⟨q, hq⟩ : ∃ q, k0 + 3 * (k : Int) = q := ⟨_, rfl⟩
      rw [hq] at hput
      have HPUT := hide hput
      have hqb : 0 ≤ q ∧ q ≤ 2000000000 := by omega
      have HQ := hide hq
      rw [hq]
      clear hq hset hput
      have f0 := hok.frozenAt (k * 3)
      have f1 := hok.frozenAt (k * 3 + 1)
      have f2 := hok.frozenAt (k * 3 + 2)
      have hold : ∀ j, j < n * 3 → ∃ u, wr.cell? ⟨g, j, none⟩ = some u := fun j hj => by rw [hok.cellAt j hj]; exact ⟨_, List.getElem?_eq_getElem (by rw [hok.1]; omega)⟩
      obtain ⟨v0, hv0⟩ := hold (k * 3) (by omega)
      obtain ⟨v1, hv1⟩ := hold (k * 3 + 1) (by omega)
      obtain ⟨v2, hv2⟩ := hold (k * 3 + 2) (by omega)
      have s0 := hok.stored (k * 3) (.int .i64 q)
      have s1 := s0.1.stored (k * 3 + 1) (.int .i64 (q + 1))
      have s2 := s1.1.stored (k * 3 + 2) (.int .i64 (q + 1 + 1))
      have HG := hide (grown_trans hgk (grown_trans (grown_trans s0.2 s1.2) s2.2))
      have HS := hide s2.1
      rw [unhide HPUT] at HS
      clear s0 s1 s2 hok hgk hold HPUT
      go_wp2
      go_roundw
      case rel => exact ⟨k + 1, by omega, by go_num, by have := unhide HQ; congr 1; omega, unhide HS, unhide HG⟩
      case measure => simp [intOf]; omega
    · have hkn : k = n := by omega
      subst hkn
      go_wp2
      go_ret
      refine ⟨rfl, ?_, hgk⟩
      have e := overT_all k0 I
      rw [unhide HIL] at e
      rw [← e]; exact hok

set_option maxHeartbeats 400000 in
theorem toItem (a b c : Int) (w : World) :
    Calls Try.prog 16 #[.agg #[.int .i64 a, .int .i64 b, .int .i64 c]] w fun e w' => e = .returned (.agg #[.int .i64 a, .int .i64 b, .int .i64 c]) ∧ w.grownBy w' none := by
  go_enter Try.func16, Try.ntmps16
  go_wp2
  refine bodyPost_ret (v := .agg #[.int .i64 a, .int .i64 b, .int .i64 c]) (by simp [results, Try.results16, go_sem]) rfl ⟨rfl, ?_⟩
  exact grown_alloc (grown_alloc (grown_alloc (World.grownBy.refl _ _) _) _) _

/-- So far copied. -/
def partT (I : List It) (k : Nat) : List It := I.take k ++ List.replicate (I.length - k) (0, 0, 0)
theorem partT_set (I : List It) (k : Nat) (h : k < I.length) : (partT I k).set k (I.getD k (0, 0, 0)) = partT I (k + 1) := by
  unfold partT
  rw [List.set_append_right _ _ (by simp; omega), List.length_take, Nat.min_eq_left (by omega), Nat.sub_self, List.take_succ_eq_append_getElem h, List.append_assoc]
  congr 1
  have e : I.length - k = (I.length - (k + 1)) + 1 := by omega
  rw [e, List.replicate_succ]
  simp [h]
theorem partT_len (I : List It) (k : Nat) (h : k ≤ I.length) : (partT I k).length = I.length := by simp [partT]; omega
theorem partT_all (I : List It) : partT I I.length = I := by simp [partT]
theorem made_itemsT (k : Nat) : (madeCells (#[.int .i64 0, .int .i64 0, .int .i64 0] : Array Value) (k * 3)).toList = itCells (List.replicate k (0, 0, 0)) := by
  induction k with
  | zero => simp [madeCells, itCells]
  | succ k ih =>
    rw [List.replicate_succ', itCells_app, ← ih]
    have e : (k + 1) * 3 = k * 3 + 1 + 1 + 1 := by omega
    have h0 : (k * 3) % 3 = 0 := by omega
    have h1 : (k * 3 + 1) % 3 = 1 := by omega
    have h2 : (k * 3 + 1 + 1) % 3 = 2 := by omega
    rw [e]
    simp [madeCells, List.range_succ, h0, h1, h2, itCells]

set_option maxHeartbeats 1600000 in
theorem toItemS (ao : Option Addr) (n cap : Nat) (I : List It) (w : World) (hr : RdT w ao n I) (hn : n ≤ 4194304) :
    Calls Try.prog 6 #[.slice ao n cap] w fun e w' => e = .returned (.slice (some ⟨w.heap.size, 0, none⟩) n n) ∧
      w'.ownsRow w.heap.size 36 3 (.slice (some ⟨w.heap.size, 0, none⟩) n n) n (itCells I) ∧ w.grownBy w' none := by
  obtain ⟨i0, hi, hz0, hz1, hz2⟩ := info_parts info_item
  have hl := hr.1
  have HR := hide hr
  clear hr
  go_enter Try.func6, Try.ntmps6
  go_wp2_with (at_make; refine wpList_make_full _ rfl _ _ 27 rfl w.heap.size 36 i0 (.agg #[.int .i64 0, .int .i64 0, .int .i64 0]) 3 Try.underlying27 hi hz0 hz1 .i64 .i64 _ _ n rfl rfl rfl rfl (by rw [hz2]; omega) (by unfold maxLen; omega) (Nat.le_refl _) ?_)
  intro w1 hown hgrow
  have hown0 : w1.ownsRow w.heap.size 36 3 (.slice (some ⟨w.heap.size, 0, none⟩) n n) n (itCells (partT I 0)) := by
    have e : partT I 0 = List.replicate n (0, 0, 0) := by simp [partT, hl]
    rw [e, ← made_itemsT]; exact hown
  have HL := hide hl
  clear hown hi hz0 hz1 hz2 hl
  go_wp2
  go_loopw [4] (fun i wr => ∃ (k : Nat), k ≤ n ∧ i = .int .i64 k ∧ wr.ownsRow w.heap.size 36 3 (.slice (some ⟨w.heap.size, 0, none⟩) n n) n (itCells (partT I k)) ∧ w.grownBy wr none) (fun i _ => n - (intOf i).toNat)
  case atStart => exact ⟨0, Nat.zero_le _, rfl, hown0, hgrow⟩
  case round =>
    obtain ⟨k, hk, rfl, hownk, hgk⟩ := hrel
    clear hown0 hgrow
    by_cases hlt : k < n
    · obtain ⟨b, off, rfl, c0, c1, c2⟩ := ((unhide HR).grown hgk).2 k hlt
      have hset := partT_set I k (by have := unhide HL; omega)
      have hput := fun x y z => itCells_put (partT I k) k x y z (by rw [partT_len _ _ (by have := unhide HL; omega)]; have := unhide HL; omega)
      generalize I.getD k (0, 0, 0) = f at c0 c1 c2 hset
      obtain ⟨x, y, z⟩ := f
      dsimp only at c0 c1 c2
      have HPUT := hide (hput x y z)
      rw [hset] at HPUT
      clear hput hset
      go_wp2_with fail
      refine (toItem x y z _).mono ?_
      rintro e w2 ⟨rfl, g2⟩
      have ho2 := own_grown hownk g2
      have hg2 := grown_trans hgk g2
      have f0 := ho2.frozenAt (k * 3)
      have f1 := ho2.frozenAt (k * 3 + 1)
      have f2 := ho2.frozenAt (k * 3 + 2)
      have hold : ∀ j, j < n * 3 → ∃ u, w2.cell? ⟨w.heap.size, j, none⟩ = some u := fun j hj => by rw [ho2.cellAt j hj]; exact ⟨_, List.getElem?_eq_getElem (by rw [ho2.1]; omega)⟩
      obtain ⟨v0, hv0⟩ := hold (k * 3) (by omega)
      obtain ⟨v1, hv1⟩ := hold (k * 3 + 1) (by omega)
      obtain ⟨v2, hv2⟩ := hold (k * 3 + 2) (by omega)
      have s0 := ho2.stored (k * 3) (.int .i64 x)
      have s1 := s0.1.stored (k * 3 + 1) (.int .i64 y)
      have s2 := s1.1.stored (k * 3 + 2) (.int .i64 z)
      have HG := hide (grown_new hg2 (grown_trans (grown_trans s0.2 s1.2) s2.2) (by intro g e; simp at e; omega))
      have HS := hide s2.1
      rw [unhide HPUT] at HS
      clear s0 s1 s2 ho2 hg2 g2 hownk hgk hold HPUT
      go_wp2
      go_roundw
      case rel => exact ⟨k + 1, by omega, by go_num, unhide HS, unhide HG⟩
      case measure => simp [intOf]; omega
    · have hkn : k = n := by omega
      subst hkn
      go_wp2
      go_ret
      have e := partT_all I
      rw [unhide HL] at e
      rw [e] at hownk
      exact ⟨rfl, hownk, hgk⟩

theorem szItemS (ao : Option Addr) (n cap : Nat) (w : World) (hn : n ≤ 9223372036854775807) :
    Calls Try.prog 4 #[.slice ao n cap, .int .i64 1048576] w fun e w' => e = .returned (.int .i64 (if (n : Int) ≤ 1048576 then 1048576 - (n : Int) else -1)) ∧ w = w' := by
  have e1 := i64_in ((1048576 : Int) - (n : Int)) (by omega)
  by_cases h : (n : Int) ≤ 1048576
  · have hd : decide ((1048576 : Int) - (n : Int) < 0) = false := decide_eq_false (by omega)
    rw [if_pos h]
    go_enter Try.func4, Try.ntmps4
    go_wp2
    go_ret
    exact ⟨rfl, rfl⟩
  · have hd : decide ((1048576 : Int) - (n : Int) < 0) = true := decide_eq_true (by omega)
    rw [if_neg h]
    go_enter Try.func4, Try.ntmps4
    go_wp2
    go_ret
    exact ⟨rfl, rfl⟩

end Go.Proofs.Ytmomfopbdpgcgab
