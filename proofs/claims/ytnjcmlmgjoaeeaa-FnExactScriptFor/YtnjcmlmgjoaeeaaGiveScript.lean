/-
  The program's ScriptFor, as the laws need it.
-/
import Derived.Test.YtnjcmlmgjoaeeaaScriptImpl
import Derived.Test.YtnjcmlmgjoaeeaaScriptGive
import Derived.Test.YtnjcmlmgjoaeeaaFrameImpl3
namespace Go.Proofs.Ytnjcmlmgjoaeeaa
open Go.RowKit

set_option maxRecDepth 20000 in
set_option maxHeartbeats 3200000 in
theorem giveScript : ImplScript := by
  intro p wd ht rs fo n fc C kind w hr hn fb HFB L HL
  have HG0 : Hid (w.grownBy (w.alloc (.cells #[.int .i64 p, .int .i64 wd, .int .i64 ht, .int .i64 rs, .slice fo n fc] 26)) none) := World.grownBy_alloc _ _ _
  have HFIX := hide (fixFrame p wd ht rs fo n fc C _ (hr.grown (unhide HG0)) hn fb HFB)
  clear hr
  go_enter Try.func10, Try.ntmps10
  go_wp2_with fail
  refine (unhide HFIX).mono ?_
  rintro e w1 ⟨X, rfl, h1, h2, g1⟩
  have HG1 := hide (grown_trans (unhide HG0) g1)
  have HS : Hid (X.size = 21) := by
    unfold Hid
    cases fb
    · rw [h1 rfl]; rfl
    · obtain ⟨D, hF, _⟩ := h2 rfl; exact hF.size
  have HOX : Hid (X.all (·.oneCell') = true) := by
    unfold Hid
    cases fb
    · rw [h1 rfl]; simp [Value.oneCell']
    · obtain ⟨D, hF, _⟩ := h2 rfl
      exact hF.one
  have H1 := hide h1
  have H2 := hide h2
  have HZ0 := hide (heap_alloc_new w1 (.cells #[.int .i64 0, .int .i64 0, .int .i64 0, .int .i64 0, .int .i64 0, .int .i64 0, .int .i64 0, .int .i64 0, .int .i64 0, .int .i64 0, .int .i64 0, .int .i64 0, .int .i64 0, .int .i64 0, .int .i64 0, .int .i64 0, .int .i64 0, .int .i64 0, .int .i64 0, .int .i64 0, .int .i64 0] 71))
  have HGA := hide (grown_alloc (unhide HG1) (.cells #[.int .i64 0, .int .i64 0, .int .i64 0, .int .i64 0, .int .i64 0, .int .i64 0, .int .i64 0, .int .i64 0, .int .i64 0, .int .i64 0, .int .i64 0, .int .i64 0, .int .i64 0, .int .i64 0, .int .i64 0, .int .i64 0, .int .i64 0, .int .i64 0, .int .i64 0, .int .i64 0, .int .i64 0] 71))
  have hw1 := (unhide HG1).size
  clear h1 h2 g1 HFIX HG0
  go_wp2_with (first | (refine store_row rfl 71 _ _ rfl w1.heap.size rfl X rfl #[.int .i64 0, .int .i64 0, .int .i64 0, .int .i64 0, .int .i64 0, .int .i64 0, .int .i64 0, .int .i64 0, .int .i64 0, .int .i64 0, .int .i64 0, .int .i64 0, .int .i64 0, .int .i64 0, .int .i64 0, .int .i64 0, .int .i64 0, .int .i64 0, .int .i64 0, .int .i64 0, .int .i64 0] 71 (unhide HZ0) (by rw [unhide HS]; rfl) (by rw [unhide HS]; kernel_rfl) (unhide HOX) ?_; intro w3 hB3 g3; replace hB3 := hide hB3; replace g3 := hide (grown_new (unhide HGA) g3 (fun q e => by injection e with e; omega))) | (refine load_row rfl 71 _ rfl w1.heap.size rfl X 71 (unhide hB3) _ Try.underlying71 rfl (by rw [unhide HS]; kernel_rfl) ?_))
  cases fb with
  | false =>
    have eX := unhide H1 rfl
    have HN := hide (isNone_yes w3)
    rw [← eX] at HN
    have e : L = [] := by rw [← unhide HL]; rfl
    subst e
    refine (unhide HN).mono ?_
    rintro e w4 ⟨rfl, g4⟩
    have HG4 := hide (grown_trans (unhide g3) g4)
    clear g4 HN eX
    go_wp2
    go_ret
    exact ⟨_, [], rfl, OwG.nil _ _ _ _, by simp, (fun g hg => by cases hg), unhide HG4⟩
  | true =>
    obtain ⟨D, hF, _⟩ := unhide H2 rfl
    have hg := geo_of (unhide HFB)
    have hp : (p == 0) = false := by
      have hf := unhide HFB
      unfold frameB at hf
      rw [Bool.and_eq_true] at hf
      rcases (headB_facts hf.1).1 with h | h <;> (rw [h]; rfl)
    have HN := hide (isNone_no X p wd ht rs n D hF hp w3)
    have HC : Hid (Cnt X n) := ⟨hF.size, hF.c4, hg.n4⟩
    have hn1 := hg.n1
    clear hF hg hp
    refine (unhide HN).mono ?_
    rintro e w4 ⟨rfl, g4⟩
    have HG4 := hide (grown_trans (unhide g3) g4)
    have HB4 := hide (at_rowS g4 (unhide hB3) (by simp))
    have HSC := hide (scriptAll X n (unhide HC) hn1 kind w4 L HL)
    clear g4 HN hB3 g3
    go_wp2_with (refine load_row rfl 71 _ rfl w1.heap.size rfl X 71 (unhide HB4) _ Try.underlying71 rfl (by rw [unhide HS]; kernel_rfl) ?_)
    refine (unhide HSC).mono ?_
    rintro e w5 ⟨u, F, rfl, o5, n5, l5, g5⟩
    have hs4 := (unhide HG4).size
    have HR : Hid (∃ F, OwSs w5 u L F ∧ F.Nodup ∧ (∀ g ∈ F, w.heap.size ≤ g) ∧ w.grownBy w5 none) := ⟨F, o5, n5, fun g hg => by have := l5 g hg; omega, grown_trans (unhide HG4) g5⟩
    clear o5 n5 l5 g5 HSC
    go_wp2
    go_ret
    obtain ⟨F, h⟩ := unhide HR
    exact ⟨_, F, rfl, h⟩

end Go.Proofs.Ytnjcmlmgjoaeeaa
