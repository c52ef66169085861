/-
  The walks of the law's own marking and looking for marks, on components and frames.
-/
import Derived.Test.YtgknninkfdgebaaFrameLaws
namespace Go.Proofs.Ytgknninkfdgebaa
open Go.RowKit

/-- Components that are marked all over, from k0 on. -/
def markedC (k0 : Int) : Nat → Nat → Int := fun i j => k0 + 4 * (i : Int) + (j : Int)
theorem markPart_set (C : Nat → Nat → Int) (k0 : Int) (n k : Nat) (q : Int) (hq : k0 + 4 * (k : Int) = q) :
    ((((rowsK n 4 (compCells (fun i j => if i < k then markedC k0 i j else C i j))).set (k * 4) (.int .i64 q)).set (k * 4 + 1) (.int .i64 (q + 1))).set (k * 4 + 2) (.int .i64 (q + 1 + 1))).set (k * 4 + 3) (.int .i64 (q + 1 + 1 + 1)) = rowsK n 4 (compCells (fun i j => if i < k + 1 then markedC k0 i j else C i j)) := by
  have e0 := rowsK_set n 4 (compCells (fun i j => if i < k then markedC k0 i j else C i j)) k 0 (.int .i64 q) (by omega)
  rw [Nat.add_zero] at e0
  rw [e0, rowsK_set _ _ _ k 1 _ (by omega), rowsK_set _ _ _ k 2 _ (by omega), rowsK_set _ _ _ k 3 _ (by omega)]
  apply rowsK_congr
  intro i j _ hj
  have hj4 : j = 0 ∨ j = 1 ∨ j = 2 ∨ j = 3 := by omega
  by_cases e1 : i = k
  · subst e1
    rcases hj4 with rfl | rfl | rfl | rfl <;> simp [compCells, markedC, hq] <;> omega
  · by_cases e2 : i < k
    · rcases hj4 with rfl | rfl | rfl | rfl <;> simp [compCells, e1, e2, show i < k + 1 by omega]
    · rcases hj4 with rfl | rfl | rfl | rfl <;> simp [compCells, e1, e2, show ¬ i < k + 1 by omega]

set_option maxHeartbeats 1600000 in
theorem markCompS (ao : Option Addr) (n cap base : Nat) (C : Nat → Nat → Int) (k0 : Int) (w : World) (ho : w.ownsRow base 62 4 (.slice ao n cap) n (rowsK n 4 (compCells C))) (hn : n ≤ 4194304) (h0 : 0 ≤ k0) (h1 : k0 ≤ 1073741824) :
    Calls Try.prog 49 #[.slice ao n cap, .int .i64 k0] w fun e w' => e = .returned (.int .i64 (k0 + 4 * n)) ∧
      w'.ownsRow base 62 4 (.slice ao n cap) n (rowsK n 4 (compCells (markedC k0))) ∧ w.grownBy w' (Value.slice ao n cap).ownBlock := by
  have ho' : w.ownsRow base 62 4 (.slice ao n cap) n (rowsK n 4 (compCells (fun i j => if i < 0 then markedC k0 i j else C i j))) := by
    have e : rowsK n 4 (compCells (fun i j => if i < 0 then markedC k0 i j else C i j)) = rowsK n 4 (compCells C) := rowsK_congr (fun i j _ _ => by simp [compCells])
    rw [e]; exact ho
  clear ho
  have HO := hide ho'
  clear ho'
  go_enter Try.func49, Try.ntmps49
  go_wp2
  go_loopw [1, 5] (fun c i wr => ∃ k : Nat, k ≤ n ∧ i = .int .i64 k ∧ c = .int .i64 (k0 + 4 * k) ∧ wr.ownsRow base 62 4 (.slice ao n cap) n (rowsK n 4 (compCells (fun i j => if i < k then markedC k0 i j else C i j))) ∧ w.grownBy wr (Value.slice ao n cap).ownBlock) (fun _ i _ => n - (intOf i).toNat)
  case atStart => exact ⟨0, Nat.zero_le _, rfl, by go_num, unhide HO, World.grownBy.refl _ _⟩
  case round =>
    obtain ⟨k, hk, rfl, rfl, hok, hgk⟩ := hrel
    by_cases hlt : k < n
    · obtain ⟨g, rfl, _, _⟩ := own_at hok (by omega)
      obtain ⟨q, hq⟩ : ∃ q, k0 + 4 * (k : Int) = q := ⟨_, rfl⟩
      have HSET := hide (markPart_set C k0 n k q hq)
      have hqb : 0 ≤ q ∧ q ≤ 2000000000 := by omega
      have HQ := hide hq
      rw [hq]
      clear hq
      have f0 := hok.frozenAt (k * 4)
      have f1 := hok.frozenAt (k * 4 + 1)
      have f2 := hok.frozenAt (k * 4 + 2)
      have f3 := hok.frozenAt (k * 4 + 3)
      have hold : ∀ j, j < n * 4 → ∃ u, wr.cell? ⟨g, j, none⟩ = some u := fun j hj => by rw [hok.cellAt j hj]; exact ⟨_, List.getElem?_eq_getElem (by rw [hok.1]; omega)⟩
      obtain ⟨v0, hv0⟩ := hold (k * 4) (by omega)
      obtain ⟨v1, hv1⟩ := hold (k * 4 + 1) (by omega)
      obtain ⟨v2, hv2⟩ := hold (k * 4 + 2) (by omega)
      obtain ⟨v3, hv3⟩ := hold (k * 4 + 3) (by omega)
      have s0 := hok.stored (k * 4) (.int .i64 q)
      have s1 := s0.1.stored (k * 4 + 1) (.int .i64 (q + 1))
      have s2 := s1.1.stored (k * 4 + 2) (.int .i64 (q + 1 + 1))
      have s3 := s2.1.stored (k * 4 + 3) (.int .i64 (q + 1 + 1 + 1))
      have HG := hide (grown_trans hgk (grown_trans (grown_trans (grown_trans s0.2 s1.2) s2.2) s3.2))
      have HS := hide s3.1
      rw [unhide HSET] at HS
      clear s0 s1 s2 s3 hok hgk hold HSET
      go_wp2
      go_roundw
      case rel => exact ⟨k + 1, by omega, by go_num, by have := unhide HQ; congr 1; omega, unhide HS, unhide HG⟩
      case measure => simp [intOf]; omega
    · have hkn : k = n := by omega
      subst hkn
      go_wp2
      go_ret
      refine ⟨rfl, ?_, hgk⟩
      have e : rowsK k 4 (compCells (markedC k0)) = rowsK k 4 (compCells (fun i j => if i < k then markedC k0 i j else C i j)) := rowsK_congr (fun i j hi' _ => by simp [compCells, hi'])
      rw [e]; exact hok

set_option maxHeartbeats 1600000 in
theorem markFrame (p wd ht rs : Int) (ao : Option Addr) (n cap base : Nat) (C : Nat → Nat → Int) (k0 : Int) (w : World) (ho : w.ownsRow base 62 4 (.slice ao n cap) n (rowsK n 4 (compCells C))) (hn : n ≤ 4194304) (h0 : 0 ≤ k0) (h1 : k0 ≤ 1073741824) :
    Calls Try.prog 25 #[.agg #[.int .i64 p, .int .i64 wd, .int .i64 ht, .int .i64 rs, .slice ao n cap], .int .i64 k0] w fun e w' => e = .returned (.int .i64 (k0 + 4 * n)) ∧
      w'.ownsRow base 62 4 (.slice ao n cap) n (rowsK n 4 (compCells (markedC k0))) ∧ w.grownBy w' (Value.slice ao n cap).ownBlock := by
  have HO := hide (own_grown ho (grown_alloc (World.grownBy.refl w none) (.cells #[.int .i64 p, .int .i64 wd, .int .i64 ht, .int .i64 rs, .slice ao n cap] 45)))
  have G : Hid (w.grownBy (w.alloc (.cells #[.int .i64 p, .int .i64 wd, .int .i64 ht, .int .i64 rs, .slice ao n cap] 45)) (Value.slice ao n cap).ownBlock) := grown_any (grown_alloc (World.grownBy.refl _ _) _)
  clear ho
  go_enter Try.func25, Try.ntmps25
  go_wp2_with fail
  refine (markCompS ao n cap base C k0 _ (unhide HO) hn h0 h1).mono ?_
  rintro e w1 ⟨rfl, o1, g1⟩
  have O1 := hide o1
  have G1 := hide (grown_trans (unhide G) g1)
  clear o1 g1
  go_wp2
  go_ret
  exact ⟨rfl, unhide O1, unhide G1⟩

set_option maxHeartbeats 1600000 in
theorem heldCompS (ao : Option Addr) (n cap : Nat) (k0 : Int) (w : World) (hr : RdC w ao n (markedC k0)) (hn : n ≤ 4194304) (h0 : 0 ≤ k0) (h1 : k0 ≤ 1073741824) :
    Calls Try.prog 50 #[.slice ao n cap, .int .i64 k0] w fun e w' => e = .returned (.int .i64 (k0 + 4 * n)) ∧ w.grownBy w' none := by
  have HR := hide hr
  clear hr
  go_enter Try.func50, Try.ntmps50
  go_wp2
  go_loop [1, 5] (fun c i => ∃ k : Nat, k ≤ n ∧ i = .int .i64 k ∧ c = .int .i64 (k0 + 4 * k)) (fun _ i => n - (intOf i).toNat)
  case atStart => exact ⟨0, Nat.zero_le _, rfl, by go_num⟩
  case round =>
    obtain ⟨k, hk, rfl, rfl⟩ := hrel
    by_cases hlt : k < n
    · obtain ⟨b, off, rfl, hc⟩ := (unhide HR) k hlt
      obtain ⟨q, hq⟩ : ∃ q, k0 + 4 * (k : Int) = q := ⟨_, rfl⟩
      have a0 := hc 0 (by omega)
      have a1 := hc 1 (by omega)
      have a2 := hc 2 (by omega)
      have a3 := hc 3 (by omega)
      have e0 : markedC k0 k 0 = q := by unfold markedC; omega
      have e1 : markedC k0 k 1 = q + 1 := by unfold markedC; omega
      have e2 : markedC k0 k 2 = q + 1 + 1 := by unfold markedC; omega
      have e3 : markedC k0 k 3 = q + 1 + 1 + 1 := by unfold markedC; omega
      rw [e0, Nat.add_zero] at a0
      rw [e1] at a1
      rw [e2] at a2
      rw [e3] at a3
      have hqb : 0 ≤ q ∧ q ≤ 2000000000 := by omega
      have HQ := hide hq
      rw [hq]
      clear hq e0 e1 e2 e3 hc
      have n0 : (q != q) = false := by simp
      have n1 : (q + 1 != q + 1) = false := by simp
      have n2 : (q + 1 + 1 != q + 1 + 1) = false := by simp
      have n3 : (q + 1 + 1 + 1 != q + 1 + 1 + 1) = false := by simp
      go_wp2
      go_round
      case rel => exact ⟨k + 1, by omega, by go_num, by have := unhide HQ; congr 1; omega⟩
      case measure => simp [intOf]; omega
    · have hkn : k = n := by omega
      subst hkn
      go_wp2
      go_ret
      exact ⟨rfl, World.grownBy.refl _ _⟩

set_option maxHeartbeats 1600000 in
theorem heldFrame (p wd ht rs : Int) (ao : Option Addr) (n cap : Nat) (k0 : Int) (w : World) (hr : RdC w ao n (markedC k0)) (hn : n ≤ 4194304) (h0 : 0 ≤ k0) (h1 : k0 ≤ 1073741824) :
    Calls Try.prog 26 #[.agg #[.int .i64 p, .int .i64 wd, .int .i64 ht, .int .i64 rs, .slice ao n cap], .int .i64 k0] w fun e w' => e = .returned (.int .i64 (k0 + 4 * n)) ∧ w.grownBy w' none := by
  have G : Hid (w.grownBy (w.alloc (.cells #[.int .i64 p, .int .i64 wd, .int .i64 ht, .int .i64 rs, .slice ao n cap] 45)) none) := grown_alloc (World.grownBy.refl _ _) _
  have HR := hide (hr.grown (unhide G))
  clear hr
  have hneg : decide (k0 + 4 * (n : Int) < 0) = false := decide_eq_false (by omega)
  go_enter Try.func26, Try.ntmps26
  go_wp2_with fail
  refine (heldCompS ao n cap k0 _ (unhide HR) hn h0 h1).mono ?_
  rintro e w1 ⟨rfl, g1⟩
  have G1 := hide (grown_trans (unhide G) g1)
  clear g1
  go_wp2
  go_ret
  exact ⟨rfl, unhide G1⟩

end Go.Proofs.Ytgknninkfdgebaa
