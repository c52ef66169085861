/-
  OrderOf in the program, whatever it is asked (for laws beside the exact one).
-/
import Derived.Test.YtoeehfjbnbbijaaOrderImpl2
import Derived.Test.YtoeehfjbnbbijaaGeoOrderOfSpec
namespace Go.Proofs.Ytoeehfjbnbbijaa
open Go.RowKit Go.Shelf

set_option maxRecDepth 20000 in
set_option maxHeartbeats 3200000 in
theorem implOrder_no (p wd ht rs : Int) (ao : Option Addr) (n cap : Nat) (C : Nat → Nat → Int) (w : World) (hr : RdC w ao n C) (hn : n ≤ 4194304) (b : Bool) (HFB : Hid (frameB p wd ht rs n C = b)) (co : Option Addr) (m ccap : Nat) (cs : List Int) (hcs : Rd .i64 w co m cs) (hm : m ≤ 4194304) (hno : b = true → okComps n cs = false) :
    Calls Try.prog 29 #[.agg #[.int .i64 p, .int .i64 wd, .int .i64 ht, .int .i64 rs, .slice ao n cap], .slice co m ccap] w fun e w' => e = .returned (.slice none 0 0) ∧ w.grownBy w' none := by
  have HR := hide hr
  have HCS := hide hcs
  have hml := hcs.1
  clear hr hcs
  have G0 : Hid (w.grownBy (w.alloc (.cells #[.int .i64 p, .int .i64 wd, .int .i64 ht, .int .i64 rs, .slice ao n cap] 40)) none) := grown_alloc (World.grownBy.refl _ _) _
  go_enter Try.func29, Try.ntmps29
  go_wp2_with fail
  refine (fixFrame p wd ht rs ao n cap C _ ((unhide HR).grown (unhide G0)) hn b HFB).mono ?_
  generalize (w.alloc (.cells #[.int .i64 p, .int .i64 wd, .int .i64 ht, .int .i64 rs, .slice ao n cap] 40)) = wx at *
  rintro e w1 ⟨X, rfl, h1, h2, g1⟩
  have H1 := hide h1
  have H2 := hide h2
  have G1 := grown_trans (unhide G0) g1
  have hsX : X.size = 21 := by
    cases b
    · rw [h1 rfl]; rfl
    · obtain ⟨D, hF, _⟩ := h2 rfl; exact hF.size
  have HOX : Hid (X.all (·.oneCell') = true) := by
    cases b
    · rw [h1 rfl]; exact fzOne
    · obtain ⟨D, hF, _⟩ := h2 rfl; exact hF.one
  have HB2 := hide (heap_alloc_new w1 (.cells #[.int .i64 0, .int .i64 0, .int .i64 0, .int .i64 0, .int .i64 0, .int .i64 0, .int .i64 0, .int .i64 0, .int .i64 0, .int .i64 0, .int .i64 0, .int .i64 0, .int .i64 0, .int .i64 0, .int .i64 0, .int .i64 0, .int .i64 0, .int .i64 0, .int .i64 0, .int .i64 0, .int .i64 0] 80))
  have HG2 : Hid (w1.grownBy (w1.alloc (.cells #[.int .i64 0, .int .i64 0, .int .i64 0, .int .i64 0, .int .i64 0, .int .i64 0, .int .i64 0, .int .i64 0, .int .i64 0, .int .i64 0, .int .i64 0, .int .i64 0, .int .i64 0, .int .i64 0, .int .i64 0, .int .i64 0, .int .i64 0, .int .i64 0, .int .i64 0, .int .i64 0, .int .i64 0] 80)) none) := grown_alloc (World.grownBy.refl _ _) _
  clear h1 h2 g1
  go_wp2_with (first | (refine wpList_load_row rfl 80 _ rfl w1.heap.size rfl X 80 hB2 _ Try.underlying80 rfl (by rw [hsX]; kernel_rfl) ?_) | (refine wpList_store_row rfl 80 _ _ rfl w1.heap.size rfl X rfl #[.int .i64 0, .int .i64 0, .int .i64 0, .int .i64 0, .int .i64 0, .int .i64 0, .int .i64 0, .int .i64 0, .int .i64 0, .int .i64 0, .int .i64 0, .int .i64 0, .int .i64 0, .int .i64 0, .int .i64 0, .int .i64 0, .int .i64 0, .int .i64 0, .int .i64 0, .int .i64 0, .int .i64 0] 80 (unhide HB2) (by rw [hsX]; rfl) (by rw [hsX]; kernel_rfl) (unhide HOX) ?_; intro w2 hB2 g2))
  have G2 : w.grownBy w2 none := grown_new (grown_trans G1 (unhide HG2)) g2 (fun g e => by simp at e; have := G1.size; omega)
  clear g2 HG2 HB2
  cases b
  · rw [unhide H1 rfl]
    refine (hasComps #[.int .i64 0, .int .i64 0, .int .i64 0, .int .i64 0, .int .i64 0, .int .i64 0, .int .i64 0, .int .i64 0, .int .i64 0, .int .i64 0, .int .i64 0, .int .i64 0, .int .i64 0, .int .i64 0, .int .i64 0, .int .i64 0, .int .i64 0, .int .i64 0, .int .i64 0, .int .i64 0, .int .i64 0] rfl 0 (fun c w => (hasComp_none c w).mono (fun e w' h => by rw [show decide (0 ≤ c ∧ c ≤ ((0 : Nat) : Int) - 1) = false from decide_eq_false (by omega)]; exact h)) co m ccap cs _ ((unhide HCS).grown G2) hm).mono ?_
    rintro e w3 ⟨rfl, g3⟩
    have hf : okComps 0 cs = false := by
      cases hk : okComps 0 cs with
      | false => rfl
      | true =>
        simp only [okComps, Bool.and_eq_true, decide_eq_true_eq] at hk
        have := compsTo_len hk.1
        omega
    rw [hf]
    go_wp2
    go_ret
    exact ⟨rfl, grown_trans G2 g3⟩
  · obtain ⟨D, hF, hD⟩ := unhide H2 rfl
    have hn4 := ((geo_of (unhide HFB)).congr hD).n4
    have HF := hide hF
    clear hF hD
    refine (hasComps X hsX n (fun c w => hasComp X p wd ht rs n D (unhide HF) hn4 c _ rfl w) co m ccap cs _ ((unhide HCS).grown G2) hm).mono ?_
    rintro e w3 ⟨rfl, g3⟩
    rw [hno rfl]
    go_wp2
    go_ret
    exact ⟨rfl, grown_trans G2 g3⟩

theorem implOrderAll (p wd ht rs : Int) (ao : Option Addr) (n cap : Nat) (C : Nat → Nat → Int) (w : World) (hr : RdC w ao n C) (hn : n ≤ 4194304) (b : Bool) (HFB : Hid (frameB p wd ht rs n C = b)) (co : Option Addr) (m ccap : Nat) (cs : List Int) (hcs : Rd .i64 w co m cs) (hm : m ≤ 4194304) :
    Calls Try.prog 29 #[.agg #[.int .i64 p, .int .i64 wd, .int .i64 ht, .int .i64 rs, .slice ao n cap], .slice co m ccap] w fun e w' => ∃ x, e = .returned x ∧ w'.ownsRow w.heap.size 57 3 x (orderG b wd ht n C cs).flatten.length (plCells (orderG b wd ht n C cs).flatten) ∧ w.grownBy w' none := by
  by_cases hT : b = true ∧ okComps n cs = true
  · obtain ⟨rfl, hT⟩ := hT
    have e : orderG true wd ht n C cs = unitsG wd ht n C cs := by simp [orderG, hT]
    rw [e]
    exact implOrder_yes p wd ht rs ao n cap C w hr hn HFB co m ccap cs hcs hm hT
  · have hno : b = true → okComps n cs = false := fun hb => by
      cases hk : okComps n cs with
      | false => rfl
      | true => exact absurd ⟨hb, hk⟩ hT
    have e : orderG b wd ht n C cs = [] := by
      cases b with
      | false => simp [orderG]
      | true => simp [orderG, hno rfl]
    rw [e]
    refine (implOrder_no p wd ht rs ao n cap C w hr hn b HFB co m ccap cs hcs hm hno).mono ?_
    rintro e w' ⟨rfl, g⟩
    exact ⟨_, rfl, World.ownsRow_nil _ _ _ _, g⟩

end Go.Proofs.Ytoeehfjbnbbijaa
