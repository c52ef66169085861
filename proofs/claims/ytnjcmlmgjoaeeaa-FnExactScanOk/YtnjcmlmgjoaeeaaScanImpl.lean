/-
  ScanOk in the program.
-/
import Derived.Test.YtnjcmlmgjoaeeaaPassOk
namespace Go.Proofs.Ytnjcmlmgjoaeeaa
open Go.RowKit

set_option maxRecDepth 20000 in
set_option maxHeartbeats 1600000 in
theorem scanOk (X : Array Value) (hs : X.size = 21) (n : Nat) (F : Hid (∀ (c : Int) (w : World), Calls Try.prog 87 #[.agg X, .int .i64 c] w fun e w' => e = .returned (.bool (decide (0 ≤ c ∧ c ≤ (n : Int) - 1))) ∧ w.grownBy w' none))
    (w : World) (vo : Option Addr) (vn vc : Nat) (a : Scn) (hv : Rd .i64 w vo vn a.cs) (hvn : vn ≤ 4194304) (t : Bool) (HT : Hid ((okComps n a.cs && passB a) = t)) :
    Calls Try.prog 58 #[.agg X, scV (.slice vo vn vc) a] w fun e w' => e = .returned (.bool t) ∧ w.grownBy w' none := by
  obtain ⟨b3, HB3⟩ : ∃ b, Hid (passB a = b) := ⟨_, rfl⟩
  obtain ⟨b2, HB2⟩ : ∃ b, Hid (okComps n a.cs = b) := ⟨_, rfl⟩
  have HP := hide (fun w => passOk w (.slice vo vn vc) a b3 HB3)
  have HC := hide (fun W (g : w.grownBy W none) => hasComps X hs n F vo vn vc a.cs W (hv.grown g) hvn)
  rw [unhide HB2] at HC
  have hp := unhide HT
  rw [unhide HB2, unhide HB3] at hp
  obtain ⟨cs, fr, to, hi, lo⟩ := a
  unfold scV at HP ⊢
  dsimp only at hv HP ⊢
  have HG0 : Hid (w.grownBy ((w.alloc (.cells X 71)).alloc (.cells #[.slice vo vn vc, .int .i64 fr, .int .i64 to, .int .i64 hi, .int .i64 lo] 38)) none) := grown_alloc (grown_alloc (World.grownBy.refl _ _) _) _
  have HB0 : Hid (((w.alloc (.cells X 71)).alloc (.cells #[.slice vo vn vc, .int .i64 fr, .int .i64 to, .int .i64 hi, .int .i64 lo] 38)).heap[w.heap.size]? = some (.cells X 71 (0, 0))) := at_rowS (World.grownBy_alloc _ _ none) (heap_alloc_new w _) (by simp)
  have HB1 : Hid (((w.alloc (.cells X 71)).alloc (.cells #[.slice vo vn vc, .int .i64 fr, .int .i64 to, .int .i64 hi, .int .i64 lo] 38)).heap[w.heap.size + 1]? = some (.cells #[.slice vo vn vc, .int .i64 fr, .int .i64 to, .int .i64 hi, .int .i64 lo] 38 (0, 0))) := by
    have := heap_alloc_new (w.alloc (.cells X 71)) (.cells #[.slice vo vn vc, .int .i64 fr, .int .i64 to, .int .i64 hi, .int .i64 lo] 38)
    unfold Hid
    simpa using this
  obtain ⟨W2, HW2⟩ : ∃ W2, Hid (((w.alloc (.cells X 71)).alloc (.cells #[.slice vo vn vc, .int .i64 fr, .int .i64 to, .int .i64 hi, .int .i64 lo] 38)) = W2) := ⟨_, rfl⟩
  rw [unhide HW2] at HG0 HB0 HB1
  obtain ⟨c0, c1, c2, c3, c4⟩ := scanCells (unhide HB1)
  have HS := hide hs
  clear hv HT F hs
  go_enter Try.func58, Try.ntmps58
  go_wp2_with (rw [unhide HW2]; refine wpList_load_row rfl 71 _ rfl w.heap.size rfl X 71 (unhide HB0) _ Try.underlying71 rfl (by rw [unhide HS]; kernel_rfl) ?_)
  clear HW2
  refine (unhide HC _ (unhide HG0)).mono ?_
  rintro e w3 ⟨rfl, g3⟩
  have HG3 := hide (grown_trans (unhide HG0) g3)
  have hB3 := at_rowS g3 (unhide HB1) (by simp)
  clear c0 c1 c2 c3 c4 g3
  cases b2 with
  | false =>
    obtain rfl : t = false := by rw [← hp]; rfl
    clear hB3
    go_wp2
    go_ret
    exact ⟨rfl, unhide HG3⟩
  | true =>
    obtain rfl : t = b3 := by rw [← hp]; rfl
    obtain ⟨c0, c1, c2, c3, c4⟩ := scanCells hB3
    clear hB3
    go_wp2_with fail
    refine (unhide HP _).mono ?_
    rintro e w4 ⟨rfl, g4⟩
    have HG4 := hide (grown_trans (unhide HG3) g4)
    clear g4 c0 c1 c2 c3 c4
    go_wp2
    go_ret
    exact ⟨rfl, unhide HG4⟩

end Go.Proofs.Ytnjcmlmgjoaeeaa
