/-
  The walks of the laws' own small functions on codes.
-/
import Derived.Test.YtemfonnkaddmfaaRows
import Derived.Test.YtemfonnkaddmfaaKit
namespace Go.Proofs.Ytemfonnkaddmfaa
open Go.RowKit

theorem lawBig (ao : Option Addr) (n cap : Nat) (t : Bool) (w : World) (h : Hid (decide ((1048576 : Int) < (n : Int)) = t)) :
    Calls Try.prog 7 #[.slice ao n cap] w fun e w' => e = .returned (.bool t) ∧ w = w' := by
  go_enter Try.func7, Try.ntmps7
  go_wp2
  go_ret
  exact ⟨ret_bool (by rw [← unhide h]), rfl⟩

set_option maxHeartbeats 800000 in
theorem lawPick (ao : Option Addr) (n cap a : Nat) (k : Int) (zs : List Int) (w : World) (hr : Rd .u8 w ao n zs) (hb : ∀ i, 0 ≤ zs.getD i 0 ∧ zs.getD i 0 ≤ 255) (hn : n ≤ 1048576) (ha : a ≤ 1000000) (hk : 2 ≤ k) (hk3 : k ≤ 2147483648) :
    Calls Try.prog 13 #[.slice ao n cap, .int .i64 a, .int .i64 k] w fun e w' => (∃ x : Int, e = .returned (.int .i64 x) ∧ 0 ≤ x ∧ x < k) ∧ w = w' := by
  obtain ⟨hl, hc⟩ := hr
  by_cases hn0 : n = 0
  · subst hn0
    go_enter Try.func13, Try.ntmps13
    go_wp2
    go_ret
    exact ⟨⟨0, rfl, by omega, by omega⟩, rfl⟩
  · have h0 : ((n : Int) == 0) = false := by simp; omega
    have h2 : decide (k < 2) = false := by simp; omega
    go_enter Try.func13, Try.ntmps13
    go_wp2
    go_loop [7, 8] (fun v i => ∃ (x : Int) (j : Nat), j ≤ 3 ∧ i = .int .i64 j ∧ v = .int .i64 x ∧ 0 ≤ x ∧ x ≤ 253215 ∧ (j ≤ 2 → x ≤ 8160) ∧ (j ≤ 1 → x ≤ 255) ∧ (j ≤ 0 → x ≤ 0)) (fun _ i => 3 - (intOf i).toNat)
    case atStart => exact ⟨0, 0, by omega, rfl, rfl, by omega, by omega, by omega, by omega, by omega⟩
    case round =>
      obtain ⟨x, j, hj, rfl, rfl, hx0, hx1, hx2, hx3, hx4⟩ := hrel
      by_cases hlt : j < 3
      · have hm : (a + j) % n < n := Nat.mod_lt _ (by omega)
        obtain ⟨b, off, rfl, hcb⟩ := hc ((a + j) % n) hm
        have hbb := hb ((a + j) % n)
        generalize zs.getD ((a + j) % n) 0 = y at hcb hbb
        obtain ⟨hy0, hy1⟩ := hbb
        have hmi : (((a : Int) + (j : Int)) % (n : Int)) < (n : Int) := Int.emod_lt_of_pos _ (by omega)
        have hmi0 : 0 ≤ (((a : Int) + (j : Int)) % (n : Int)) := Int.emod_nonneg _ (by omega)
        have H2 := hide hx2
        have H3 := hide hx3
        have H4 := hide hx4
        have hx8 : x ≤ 8160 := hx2 (by omega)
        clear hc hb hx2 hx3 hx4
        go_wp2
        go_round
        case rel => exact ⟨31 * x + y, j + 1, by omega, by go_num, rfl, by omega, by omega, by have := unhide H3; omega, by have := unhide H4; omega, by omega⟩
        case measure => simp [intOf]; omega
      · go_wp2
        go_ret
        exact ⟨⟨(x + (a : Int)) % k, rfl, Int.emod_nonneg _ (by omega), Int.emod_lt_of_pos _ (by omega)⟩, rfl⟩

/-- What a new row of cells holds. -/
theorem cells_new (w : World) (cs : List Value) (t : TypeId) : ∀ j u, cs[j]? = some u → (w.alloc (.cells cs.toArray t)).cell? ((⟨w.heap.size, 0, none⟩ : Addr).add j) = some u := by
  intro j u h
  rw [Addr.add_lit, Nat.zero_add, cell_of_row _ w.heap.size j _ _ (0, 0) (heap_alloc_new w _)]
  simpa using h

end Go.Proofs.Ytemfonnkaddmfaa
