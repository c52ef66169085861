/-
  The walks of the law's own small functions on rows of bins that are answers: comparing, marking, looking for the marks.
-/
import Derived.Test.YtekidfkahpaokaaBinRows
import Derived.Deep.RegionWith
namespace Go.Proofs.Ytekidfkahpaokaa
open Go.RowKit

theorem flat_set10 : ∀ (I : List (Int × Int)) (k : Nat) (a b : Int), k < I.length → ((flat I).set (k * 2) (.int .i64 a)).set (k * 2 + 1) (.int .i64 b) = flat (I.set k (a, b))
  | p :: I, 0, a, b, _ => by simp [flat]
  | p :: I, k + 1, a, b, h => by
    have ih := flat_set10 I k a b (by simpa using h)
    have e0 : (k + 1) * 2 = k * 2 + 1 + 1 := by omega
    have e1 : (k + 1) * 2 + 1 = k * 2 + 1 + 1 + 1 := by omega
    rw [e1, e0]
    simp only [flat_cons, List.set_cons_succ, ih]

/-- The bins that a row is marked with, from k0 on. -/
def markP (k0 : Int) (n : Nat) : List (Int × Int) := (List.range n).map fun i : Nat => (k0 + 2 * (i : Int), k0 + 2 * (i : Int) + 1)
theorem markP_len (k0 : Int) (n : Nat) : (markP k0 n).length = n := by simp [markP]
theorem markP_at (k0 : Int) (n i : Nat) (h : i < n) : (markP k0 n).getD i (0, 0) = (k0 + 2 * (i : Int), k0 + 2 * (i : Int) + 1) := by simp [markP, h]
/-- So far marked. -/
def overP (k0 : Int) (I : List (Int × Int)) (k : Nat) : List (Int × Int) := markP k0 k ++ I.drop k
theorem overP_set (k0 : Int) (I : List (Int × Int)) (k : Nat) (h : k < I.length) : (overP k0 I k).set k (k0 + 2 * (k : Int), k0 + 2 * (k : Int) + 1) = overP k0 I (k + 1) := by
  unfold overP
  rw [List.set_append_right _ _ (by rw [markP_len]; omega), markP_len, Nat.sub_self, List.drop_eq_getElem_cons h]
  have e : markP k0 (k + 1) = markP k0 k ++ [(k0 + 2 * (k : Int), k0 + 2 * (k : Int) + 1)] := by simp [markP, List.range_succ]
  rw [e, List.append_assoc]
  rfl
theorem overP_len (k0 : Int) (I : List (Int × Int)) (k : Nat) (h : k ≤ I.length) : (overP k0 I k).length = I.length := by unfold overP; rw [List.length_append, markP_len, List.length_drop]; omega
theorem overP_all (k0 : Int) (I : List (Int × Int)) : overP k0 I I.length = markP k0 I.length := by simp [overP]
theorem own_rdP {w : World} {base : Nat} {e : TypeId} {ao : Option Addr} {n cap : Nat} {k0 : Int} (h : w.ownsRow base e 2 (.slice ao n cap) n (flat (markP k0 n))) : RdF w ao n (markP k0 n) := own_rdF h

set_option maxHeartbeats 400000 in
theorem eqBin10 (a b : Int) (w : World) :
    Calls Try.prog 48 #[.agg #[.int .i64 a, .int .i64 b], .agg #[.int .i64 a, .int .i64 b]] w fun e w' => e = .returned (.bool true) ∧ w.grownBy w' none := by
  go_enter Try.func48, Try.ntmps48
  go_wp2
  go_ret
  exact ⟨rfl, grown_alloc (grown_alloc (World.grownBy.refl _ _) _) _⟩

set_option maxHeartbeats 800000 in
theorem eqBinS10 (ao bo : Option Addr) (n cap cap' : Nat) (fs : List (Int × Int)) (w : World) (hx : RdF w ao n fs) (hy : RdF w bo n fs) (hn : n ≤ 4194304) :
    Calls Try.prog 16 #[.slice ao n cap, .slice bo n cap'] w fun e w' => e = .returned (.bool true) ∧ w.grownBy w' none := by
  obtain ⟨hl, hc⟩ := hx
  obtain ⟨_, hd⟩ := hy
  have hne : ((n : Int) != n) = false := by simp
  go_enter Try.func16, Try.ntmps16
  go_wp2
  go_loopw [5] (fun i wr => ∃ k : Nat, k ≤ n ∧ i = .int .i64 k ∧ w.grownBy wr none) (fun i _ => n - (intOf i).toNat)
  case atStart => exact ⟨0, Nat.zero_le _, rfl, World.grownBy.refl _ _⟩
  case round =>
    obtain ⟨k, hk, rfl, hgk⟩ := hrel
    by_cases hlt : k < n
    · obtain ⟨b, off, rfl, hc1, hc2⟩ := hc k hlt
      obtain ⟨b', off', rfl, hd1, hd2⟩ := hd k hlt
      have hca := hgk.cell hc1 (by simp)
      have hcb := hgk.cell hc2 (by simp)
      have hda := hgk.cell hd1 (by simp)
      have hdb := hgk.cell hd2 (by simp)
      clear hc hd hc1 hc2 hd1 hd2
      generalize fs.getD k (0, 0) = f at hca hcb hda hdb
      obtain ⟨x, y⟩ := f
      have hik : (k : Int) < (n : Int) := by omega
      go_wp2
      go_region_with (go_at_call 48; refine (eqBin10 x y _).mono ?_; rintro e w2 ⟨rfl, g2⟩)
      all_goals
        go_wp2
        go_roundw
        case rel => exact ⟨k + 1, by omega, by go_num, grown_trans (grown_drew hgk) g2⟩
        case measure => simp [intOf]; omega
    · go_wp2
      go_ret
      exact ⟨rfl, hgk⟩

set_option maxHeartbeats 1600000 in
theorem markBinS10 (ao : Option Addr) (n cap base : Nat) (I : List (Int × Int)) (k0 : Int) (w : World) (ho : w.ownsRow base 30 2 (.slice ao n cap) n (flat I)) (hn : n ≤ 4194304) (h0 : 0 ≤ k0) (h1 : k0 ≤ 1073741824) :
    Calls Try.prog 17 #[.slice ao n cap, .int .i64 k0] w fun e w' => e = .returned (.int .i64 (k0 + 2 * n)) ∧
      w'.ownsRow base 30 2 (.slice ao n cap) n (flat (markP k0 n)) ∧ w.grownBy w' (Value.slice ao n cap).ownBlock := by
  have hIl : I.length = n := by have := ho.1; rw [flat_len] at this; omega
  have HO : Hid (w.ownsRow base 30 2 (.slice ao n cap) n (flat (overP k0 I 0))) := ho
  have HIL := hide hIl
  clear ho hIl
  go_enter Try.func17, Try.ntmps17
  go_wp2
  go_loopw [1, 5] (fun c i wr => ∃ k : Nat, k ≤ n ∧ i = .int .i64 k ∧ c = .int .i64 (k0 + 2 * k) ∧ wr.ownsRow base 30 2 (.slice ao n cap) n (flat (overP k0 I k)) ∧ w.grownBy wr (Value.slice ao n cap).ownBlock) (fun _ i _ => n - (intOf i).toNat)
  case atStart => exact ⟨0, Nat.zero_le _, rfl, by go_num, unhide HO, World.grownBy.refl _ _⟩
  case round =>
    obtain ⟨k, hk, rfl, rfl, hok, hgk⟩ := hrel
    by_cases hlt : k < n
    · obtain ⟨g, rfl, _, _⟩ := own_at hok (by omega)
      have hset := overP_set k0 I k (by have := unhide HIL; omega)
      have hput := flat_set10 (overP k0 I k) k (k0 + 2 * (k : Int)) (k0 + 2 * (k : Int) + 1) (by rw [overP_len _ _ _ (by have := unhide HIL; omega)]; have := unhide HIL; omega)
      rw [hset] at hput
      obtain ⟨q, hq⟩ : ∃ q, k0 + 2 * (k : Int) = q := ⟨_, rfl⟩
      rw [hq] at hput
      have HPUT := hide hput
      have hqb : 0 ≤ q ∧ q ≤ 2000000000 := by omega
      have HQ := hide hq
      rw [hq]
      clear hq hset hput
      have f0 := hok.frozenAt (k * 2)
      have f1 := hok.frozenAt (k * 2 + 1)
      have hold : ∀ j, j < n * 2 → ∃ u, wr.cell? ⟨g, j, none⟩ = some u := fun j hj => by rw [hok.cellAt j hj]; exact ⟨_, List.getElem?_eq_getElem (by rw [hok.1]; omega)⟩
      obtain ⟨v0, hv0⟩ := hold (k * 2) (by omega)
      obtain ⟨v1, hv1⟩ := hold (k * 2 + 1) (by omega)
      have s0 := hok.stored (k * 2) (.int .i64 q)
      have s1 := s0.1.stored (k * 2 + 1) (.int .i64 (q + 1))
      have HG := hide (grown_trans hgk (grown_trans s0.2 s1.2))
      have HS := hide s1.1
      rw [unhide HPUT] at HS
      clear s0 s1 hok hgk hold HPUT
      go_wp2
      go_roundw
      case rel => exact ⟨k + 1, by omega, by go_num, by have := unhide HQ; congr 1; omega, unhide HS, unhide HG⟩
      case measure => simp [intOf]; omega
    · have hkn : k = n := by omega
      subst hkn
      go_wp2
      go_ret
      refine ⟨rfl, ?_, hgk⟩
      have e := overP_all k0 I
      rw [unhide HIL] at e
      rw [← e]; exact hok

set_option maxHeartbeats 1600000 in
theorem heldBinS10 (ao : Option Addr) (n cap : Nat) (k0 : Int) (w : World) (hr : RdF w ao n (markP k0 n)) (hn : n ≤ 4194304) (h0 : 0 ≤ k0) (h1 : k0 ≤ 1073741824) :
    Calls Try.prog 18 #[.slice ao n cap, .int .i64 k0] w fun e w' => e = .returned (.int .i64 (k0 + 2 * n)) ∧ w.grownBy w' none := by
  have HR := hide hr
  clear hr
  go_enter Try.func18, Try.ntmps18
  go_wp2
  go_loop [1, 5] (fun c i => ∃ k : Nat, k ≤ n ∧ i = .int .i64 k ∧ c = .int .i64 (k0 + 2 * k)) (fun _ i => n - (intOf i).toNat)
  case atStart => exact ⟨0, Nat.zero_le _, rfl, by go_num⟩
  case round =>
    obtain ⟨k, hk, rfl, rfl⟩ := hrel
    by_cases hlt : k < n
    · obtain ⟨b, off, rfl, a0, a1⟩ := (unhide HR).2 k hlt
      rw [markP_at k0 n k hlt] at a0 a1
      dsimp only at a0 a1
      obtain ⟨q, hq⟩ : ∃ q, k0 + 2 * (k : Int) = q := ⟨_, rfl⟩
      rw [hq] at a0 a1
      have hqb : 0 ≤ q ∧ q ≤ 2000000000 := by omega
      have HQ := hide hq
      rw [hq]
      clear hq
      have n0 : (q != q) = false := by simp
      have n1 : (q + 1 != q + 1) = false := by simp
      go_wp2
      go_round
      case rel => exact ⟨k + 1, by omega, by go_num, by have := unhide HQ; congr 1; omega⟩
      case measure => simp [intOf]; omega
    · have hkn : k = n := by omega
      subst hkn
      go_wp2
      go_ret
      exact ⟨rfl, World.grownBy.refl _ _⟩

end Go.Proofs.Ytekidfkahpaokaa
