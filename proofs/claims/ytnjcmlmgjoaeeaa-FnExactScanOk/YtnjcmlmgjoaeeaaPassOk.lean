/-
  ScanOk in the program.
-/
import Derived.Test.YtnjcmlmgjoaeeaaPassImpl
import Derived.Test.YtnjcmlmgjoaeeaaScriptGive
namespace Go.Proofs.Ytnjcmlmgjoaeeaa
open Go.RowKit

theorem bits_pass (a : Scn) (h1 : 0 ≤ a.fr) (h2 : a.fr ≤ a.to) (h3 : a.to ≤ 63) : passB a = bitsB a := by
  unfold passB bitsB
  rw [decide_eq_true (⟨h1, h2⟩ : 0 ≤ a.fr ∧ a.fr ≤ a.to), decide_eq_true h3, Bool.true_and, Bool.true_and]
theorem pass_neq (a : Scn) (w : World) : (binOp .neq 113 (pVN a) .nilIface).run Try.prog w = .ok (.bool (bitsB a)) w := by
  unfold pVN
  cases h : bitsB a with
  | false => exact nilP w
  | true =>
    rw [if_pos rfl]
    unfold pV
    split
    · exact notNilP _ _ w
    · exact notNilP _ _ w
theorem pass_guard (a : Scn) (x : Operand) (w : World) : (eqGuard .neq 113 x (.const .nilIface) (pVN a) .nilIface).run Try.prog w = .ok () w := by
  unfold pVN
  cases h : bitsB a with
  | false => cases x <;> kernel_rfl
  | true =>
    rw [if_pos rfl]
    unfold pV
    split
    · kernel_rfl
    · kernel_rfl

set_option maxRecDepth 20000 in
set_option maxHeartbeats 1600000 in
theorem passOk (w : World) (v0 : Value) (a : Scn) (t : Bool) (HT : Hid (passB a = t)) :
    Calls Try.prog 77 #[scV v0 a] w fun e w' => e = .returned (.bool t) ∧ w.grownBy w' none := by
  have HP := hide (fun w => passOf w v0 a (pVN a) rfl)
  have HN := hide (fun w => pass_neq a w)
  have HE := hide (fun x w => pass_guard a x w)
  have hb := bits_pass a
  have hp : passB a = t := unhide HT
  obtain ⟨pv, HV⟩ : ∃ pv, Hid (pVN a = pv) := ⟨_, rfl⟩
  obtain ⟨bb, HBB⟩ : ∃ bb, Hid (bitsB a = bb) := ⟨_, rfl⟩
  rw [unhide HV] at HP HN HE
  rw [unhide HBB] at hb HN
  obtain ⟨cs, fr, to, hi, lo⟩ := a
  unfold scV at HP ⊢
  dsimp only at hb HP ⊢
  have HG0 : Hid (w.grownBy (w.alloc (.cells #[v0, .int .i64 fr, .int .i64 to, .int .i64 hi, .int .i64 lo] 38)) none) := World.grownBy_alloc _ _ _
  have HB0 := hide (heap_alloc_new w (.cells #[v0, .int .i64 fr, .int .i64 to, .int .i64 hi, .int .i64 lo] 38))
  obtain ⟨c0, c1, c2, c3, c4⟩ := scanCells (unhide HB0)
  have hno : ¬ (0 ≤ fr ∧ fr ≤ to) ∨ ¬ to ≤ 63 → t = false := fun h => by
    rw [← hp]
    unfold passB
    dsimp only
    rcases h with h | h
    · rw [decide_eq_false h]; rfl
    · rw [decide_eq_false h, Bool.and_false]; rfl
  have hyes : 0 ≤ fr → fr ≤ to → to ≤ 63 → t = bb := fun h1 h2 h3 => by rw [← hp]; exact hb h1 h2 h3
  have HNO := hide hno
  have HYES := hide hyes
  clear HT hp hb hno hyes HV HBB
  by_cases h1 : 0 ≤ fr
  · have d1 := decide_eq_true h1
    by_cases h2 : fr ≤ to
    · have d2 := decide_eq_true h2
      by_cases h3 : to ≤ 63
      · have d3 := decide_eq_true h3
        obtain rfl := unhide HYES h1 h2 h3
        clear HNO HYES h1 h2 h3
        have hn := fun w => unhide HN w
        have he := fun x w => unhide HE x w
        go_enter Try.func77, Try.ntmps77
        go_wp2_with fail
        refine (unhide HP _).mono ?_
        rintro e w2 ⟨rfl, g2⟩
        have HG2 := hide (grown_trans (unhide HG0) g2)
        clear g2 c0 c1 c2 c3 c4
        go_wp2
        go_ret
        exact ⟨rfl, unhide HG2⟩
      · have d3 := decide_eq_false h3
        obtain rfl := unhide HNO (.inr h3)
        clear HNO HYES h1 h2 h3
        go_enter Try.func77, Try.ntmps77
        go_wp2
        go_ret
        exact ⟨rfl, unhide HG0⟩
    · have d2 := decide_eq_false h2
      obtain rfl := unhide HNO (.inl (fun h => h2 h.2))
      clear HNO HYES h1 h2
      go_enter Try.func77, Try.ntmps77
      go_wp2
      go_ret
      exact ⟨rfl, unhide HG0⟩
  · have d1 := decide_eq_false h1
    obtain rfl := unhide HNO (.inl (fun h => h1 h.1))
    clear HNO HYES h1
    go_enter Try.func77, Try.ntmps77
    go_wp2
    go_ret
    exact ⟨rfl, unhide HG0⟩

end Go.Proofs.Ytnjcmlmgjoaeeaa
