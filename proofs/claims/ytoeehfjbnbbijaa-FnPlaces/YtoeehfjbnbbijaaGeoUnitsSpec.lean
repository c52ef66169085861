/-
  How many units there are, in the specification.
-/
import Derived.Test.YtoeehfjbnbbijaaGeoOrderSpec2
namespace Go.Proofs.Ytoeehfjbnbbijaa
open Go.RowKit

/-- The order in the specification, of whatever components are ok. -/
theorem specOrderG (p wd ht rs : Int) (ao : Option Addr) (n cap : Nat) (C : Nat → Nat → Int) (w : World) (hr : RdC w ao n C) (hg : Geo wd ht n C (mostA 1 C 1 n) (mostA 1 C 2 n)) (co : Option Addr) (m ccap : Nat) (cs : List Int) (hcs : Rd .i64 w co m cs) (hc : okComps n cs = true) :
    Calls Try.prog 59 #[.agg #[.int .i64 p, .int .i64 wd, .int .i64 ht, .int .i64 rs, .slice ao n cap], .slice co m ccap] w fun e w' => ∃ x, e = .returned x ∧ OwnL w' w.heap.size w'.heap.size x (unitsG wd ht n C cs) ∧ w.grownBy w' none := by
  have hml := hcs.1
  have hc' := hc
  simp only [okComps, Bool.and_eq_true, decide_eq_true_eq] at hc'
  obtain ⟨h1, h2⟩ := hc'
  obtain ⟨⟨h3, h4⟩, _⟩ := compsTo_at h1 0 (by omega)
  by_cases hm1 : m = 1
  · subst hm1
    obtain ⟨c, hcE⟩ := Int.eq_ofNat_of_zero_le h3
    have hcl : cs = [(c : Int)] := by
      match cs, hml with
      | [x], _ => simp at hcE; rw [hcE]
    have hu : unitsG wd ht n C cs = r1To (c : Int) (upI (upI (wd * C c 1) (mostA 1 C 1 n)) 8).toNat (upI (upI (ht * C c 2) (mostA 1 C 2 n)) 8).toNat := by
      rw [unitsG, if_pos hml, hcE, Int.toNat_natCast]
    rw [hu]
    rw [hcl] at hcs
    exact specOrder1 p wd ht rs ao n cap C w hr hg co ccap c hcs (by omega) _ _ _ _ rfl rfl rfl rfl
  · have hu : unitsG wd ht n C cs = rTo C cs (upI wd (8 * mostA 1 C 1 n)).toNat (upI ht (8 * mostA 1 C 2 n)).toNat := by
      rw [unitsG, if_neg (by omega)]
    rw [hu]
    rw [hml] at h1
    exact specOrderN p wd ht rs ao n cap C w hr hg co m ccap cs hcs h1 hm1 _ _ rfl rfl

set_option maxRecDepth 20000 in
set_option maxHeartbeats 1600000 in
theorem specUnitsOf (p wd ht rs : Int) (ao : Option Addr) (n cap : Nat) (C : Nat → Nat → Int) (w : World) (hr : RdC w ao n C) (hn : n ≤ 4194304) (b : Bool) (HFB : Hid (frameB p wd ht rs n C = b)) (co : Option Addr) (m ccap : Nat) (cs : List Int) (hcs : Rd .i64 w co m cs) (hm : m ≤ 4194304) :
    Calls Try.prog 32 #[.agg #[.int .i64 p, .int .i64 wd, .int .i64 ht, .int .i64 rs, .slice ao n cap], .slice co m ccap] w fun e w' => e = .returned (.int .i64 (orderG b wd ht n C cs).length) ∧ w.grownBy w' none := by
  have G0 : Hid (w.grownBy (w.alloc (.cells #[.int .i64 p, .int .i64 wd, .int .i64 ht, .int .i64 rs, .slice ao n cap] 40)) none) := grown_alloc (World.grownBy.refl _ _) _
  have HB := hide (heap_alloc_new w (.cells #[.int .i64 p, .int .i64 wd, .int .i64 ht, .int .i64 rs, .slice ao n cap] 40))
  have hgs : w.heap.size < (w.alloc (.cells #[.int .i64 p, .int .i64 wd, .int .i64 ht, .int .i64 rs, .slice ao n cap] 40)).heap.size := by simp
  have HR := hide (hr.grown (unhide G0))
  have HC := hide (hcs.grown (unhide G0))
  clear hr hcs
  go_enter Try.func32, Try.ntmps32
  go_wp2_with fail
  refine (specFrameOk p wd ht rs ao n cap C _ (unhide HR) b HFB).mono ?_
  generalize (w.alloc (.cells #[.int .i64 p, .int .i64 wd, .int .i64 ht, .int .i64 rs, .slice ao n cap] 40)) = wx at *
  rintro e w1 ⟨rfl, g1⟩
  have kf := frameCells' ((g1.block w.heap.size hgs (by simp)).trans (unhide HB))
  cases b
  · have HL : Hid ((orderG false wd ht n C cs).length = 0) := by simp [Hid, orderG]
    go_wp2
    go_ret
    exact ⟨by rw [unhide HL]; rfl, grown_trans (unhide G0) g1⟩
  · go_wp2_with fail
    refine (specComps p wd ht rs ao n cap hn co m ccap cs w1 ((unhide HC).grown g1) hm).mono ?_
    rintro e w2 ⟨rfl, g2⟩
    have kf2 := frameCells' (((grown_trans g1 g2).block w.heap.size hgs (by simp)).trans (unhide HB))
    have X2 := grown_trans g1 g2
    clear kf g1 g2
    obtain ⟨t, HT⟩ : ∃ t, Hid (okComps n cs = t) := ⟨_, rfl⟩
    rw [unhide HT]
    cases t
    · have HL : Hid ((orderG true wd ht n C cs).length = 0) := by unfold Hid; rw [orderG, unhide HT]; simp
      go_wp2
      go_ret
      exact ⟨by rw [unhide HL]; rfl, grown_trans (unhide G0) X2⟩
    · have HL : Hid ((orderG true wd ht n C cs).length = (unitsG wd ht n C cs).length) := by unfold Hid; rw [orderG, unhide HT]; simp
      go_wp2_with fail
      refine (specOrderG p wd ht rs ao n cap C w2 ((unhide HR).grown X2) (geo_of (unhide HFB)) co m ccap cs ((unhide HC).grown X2) (unhide HT)).mono ?_
      rintro e w3 ⟨x, rfl, ho, g3⟩
      obtain ⟨vs, ho1, _⟩ := ho
      obtain ⟨so, sc, rfl⟩ := own_form ho1
      go_wp2
      go_ret
      exact ⟨by rw [unhide HL]; rfl, grown_trans (unhide G0) (grown_trans X2 g3)⟩

end Go.Proofs.Ytoeehfjbnbbijaa
