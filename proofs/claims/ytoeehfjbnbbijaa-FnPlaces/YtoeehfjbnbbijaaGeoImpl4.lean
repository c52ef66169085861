/-
  Geometry in the program: SizeOf and BlocksOf.
-/
import Derived.Test.YtoeehfjbnbbijaaGeoImpl3
namespace Go.Proofs.Ytoeehfjbnbbijaa
open Go.RowKit

theorem fzOne : (#[.int .i64 0, .int .i64 0, .int .i64 0, .int .i64 0, .int .i64 0, .int .i64 0, .int .i64 0, .int .i64 0, .int .i64 0, .int .i64 0, .int .i64 0, .int .i64 0, .int .i64 0, .int .i64 0, .int .i64 0, .int .i64 0, .int .i64 0, .int .i64 0, .int .i64 0, .int .i64 0, .int .i64 0] : Array Value).all (·.oneCell') = true := by simp [Value.oneCell']

/-- The size of a component's plane, as both sides tell it. -/
def sizeG (b : Bool) (wd ht : Int) (n : Nat) (C : Nat → Nat → Int) (c : Int) : Int × Int :=
  if b && decide (0 ≤ c ∧ c ≤ (n : Int) - 1) then (upI (wd * C c.toNat 1) (mostA 1 C 1 n), upI (ht * C c.toNat 2) (mostA 1 C 2 n)) else (0, 0)
def blocksG (b : Bool) (wd ht : Int) (n : Nat) (C : Nat → Nat → Int) (c : Int) : Int × Int :=
  if b && decide (0 ≤ c ∧ c ≤ (n : Int) - 1) then (upI wd (8 * mostA 1 C 1 n) * C c.toNat 1, upI ht (8 * mostA 1 C 2 n) * C c.toNat 2) else (0, 0)

set_option maxRecDepth 20000 in
set_option maxHeartbeats 3200000 in
theorem implSizeOf (p wd ht rs : Int) (ao : Option Addr) (n cap : Nat) (C : Nat → Nat → Int) (w : World) (hr : RdC w ao n C) (hn : n ≤ 4194304) (b : Bool) (HFB : Hid (frameB p wd ht rs n C = b)) (c x y : Int) (HS : Hid (sizeG b wd ht n C c = (x, y))) :
    Calls Try.prog 35 #[.agg #[.int .i64 p, .int .i64 wd, .int .i64 ht, .int .i64 rs, .slice ao n cap], .int .i64 c] w fun e w' => e = .returned (.tuple #[.int .i64 x, .int .i64 y]) ∧ w.grownBy w' none := by
  have HR := hide hr
  clear hr
  have G0 : Hid (w.grownBy (w.alloc (.cells #[.int .i64 p, .int .i64 wd, .int .i64 ht, .int .i64 rs, .slice ao n cap] 40)) none) := grown_alloc (World.grownBy.refl _ _) _
  go_enter Try.func35, Try.ntmps35
  go_wp2_with fail
  refine (fixFrame p wd ht rs ao n cap C _ ((unhide HR).grown (unhide G0)) hn b HFB).mono ?_
  generalize (w.alloc (.cells #[.int .i64 p, .int .i64 wd, .int .i64 ht, .int .i64 rs, .slice ao n cap] 40)) = wx at *
  rintro e w1 ⟨X, rfl, h1, h2, g1⟩
  have H1 := hide h1
  have H2 := hide h2
  have G1 := grown_trans (unhide G0) g1
  have hsX : X.size = 21 := by
    cases b
    · rw [h1 rfl]; rfl
    · obtain ⟨D, hF, _⟩ := h2 rfl; exact hF.size
  have HOX : Hid (X.all (·.oneCell') = true) := by
    cases b
    · rw [h1 rfl]; exact fzOne
    · obtain ⟨D, hF, _⟩ := h2 rfl; exact hF.one
  have HB2 := hide (heap_alloc_new w1 (.cells #[.int .i64 0, .int .i64 0, .int .i64 0, .int .i64 0, .int .i64 0, .int .i64 0, .int .i64 0, .int .i64 0, .int .i64 0, .int .i64 0, .int .i64 0, .int .i64 0, .int .i64 0, .int .i64 0, .int .i64 0, .int .i64 0, .int .i64 0, .int .i64 0, .int .i64 0, .int .i64 0, .int .i64 0] 80))
  have HG2 : Hid (w1.grownBy (w1.alloc (.cells #[.int .i64 0, .int .i64 0, .int .i64 0, .int .i64 0, .int .i64 0, .int .i64 0, .int .i64 0, .int .i64 0, .int .i64 0, .int .i64 0, .int .i64 0, .int .i64 0, .int .i64 0, .int .i64 0, .int .i64 0, .int .i64 0, .int .i64 0, .int .i64 0, .int .i64 0, .int .i64 0, .int .i64 0] 80)) none) := grown_alloc (World.grownBy.refl _ _) _
  clear h1 h2 g1
  go_wp2_with (first | (refine wpList_load_row rfl 80 _ rfl w1.heap.size rfl X 80 hB2 _ Try.underlying80 rfl (by rw [hsX]; kernel_rfl) ?_) | (refine wpList_store_row rfl 80 _ _ rfl w1.heap.size rfl X rfl #[.int .i64 0, .int .i64 0, .int .i64 0, .int .i64 0, .int .i64 0, .int .i64 0, .int .i64 0, .int .i64 0, .int .i64 0, .int .i64 0, .int .i64 0, .int .i64 0, .int .i64 0, .int .i64 0, .int .i64 0, .int .i64 0, .int .i64 0, .int .i64 0, .int .i64 0, .int .i64 0, .int .i64 0] 80 (unhide HB2) (by rw [hsX]; rfl) (by rw [hsX]; kernel_rfl) (unhide HOX) ?_; intro w2 hB2 g2))
  have G2 : w.grownBy w2 none := grown_new (grown_trans G1 (unhide HG2)) g2 (fun g e => by simp at e; have := G1.size; omega)
  have hg2 : w1.heap.size < w2.heap.size := (Array.getElem?_eq_some_iff.1 hB2).1
  clear g2 HG2 HB2
  cases b
  · have hxy : x = 0 ∧ y = 0 := by have := unhide HS; simp [sizeG] at this; exact ⟨this.1.symm, this.2.symm⟩
    obtain ⟨rfl, rfl⟩ := hxy
    rw [unhide H1 rfl]
    refine (hasComp_none c _).mono ?_
    rintro e w3 ⟨rfl, g3⟩
    go_wp2
    refine bodyPost_ret (v := .tuple #[.int .i64 0, .int .i64 0]) (by simp [results, Try.results35, go_sem]) rfl ⟨rfl, grown_trans G2 g3⟩
  · obtain ⟨D, hF, hD⟩ := unhide H2 rfl
    have hG := (geo_of (unhide HFB)).congr hD
    have hn4 := hG.n4
    have HF := hide hF
    have HG := hide hG
    obtain ⟨t, HT⟩ : ∃ t, Hid (decide (0 ≤ c ∧ c ≤ (n : Int) - 1) = t) := ⟨_, rfl⟩
    clear hF hG
    refine (hasComp X p wd ht rs n D (unhide HF) hn4 c t HT _).mono ?_
    rintro e w3 ⟨rfl, g3⟩
    cases t
    · have hxy : x = 0 ∧ y = 0 := by
        have e1 := unhide HS
        rw [sizeG, unhide HT] at e1
        simp at e1
        exact ⟨e1.1.symm, e1.2.symm⟩
      obtain ⟨rfl, rfl⟩ := hxy
      go_wp2
      refine bodyPost_ret (v := .tuple #[.int .i64 0, .int .i64 0]) (by simp [results, Try.results35, go_sem]) rfl ⟨rfl, grown_trans G2 g3⟩
    · have hc := of_decide_eq_true (unhide HT)
      obtain ⟨k, rfl⟩ := Int.eq_ofNat_of_zero_le hc.1
      have hk : k < n := by omega
      have HE : Hid (upI (wd * D k 1) (mostA 1 C 1 n) = x ∧ upI (ht * D k 2) (mostA 1 C 2 n) = y) := by
        have e1 := unhide HS
        rw [sizeG, unhide HT] at e1
        simp at e1
        unfold Hid
        rw [hD k hk]
        exact e1
      have hB3 := (g3.block w1.heap.size hg2 (by simp)).trans hB2
      have G3 := grown_trans G2 g3
      clear HT hc hB2 g3
      go_wp2_with (first | (refine wpList_load_row rfl 80 _ rfl w1.heap.size rfl X 80 hB3 _ Try.underlying80 rfl (by rw [hsX]; kernel_rfl) ?_))
      refine (plane X p wd ht rs n D (unhide HF) _ _ (unhide HG) k hk x y (unhide HE).1 (unhide HE).2 _).mono ?_
      rintro e w4 ⟨rfl, g4⟩
      have G4 := grown_trans G3 g4
      obtain ⟨w5, hw5⟩ : ∃ w5, w4.alloc (.cells #[.int .i64 x, .int .i64 y] 98) = w5 := ⟨_, rfl⟩
      have G5 : w.grownBy w5 none := by rw [← hw5]; exact grown_alloc G4 _
      obtain ⟨c0, c1, _, _⟩ := areaCells (show w5.heap[w4.heap.size]? = some (.cells #[.int .i64 x, .int .i64 y] 98 (0, 0)) from by rw [← hw5]; exact heap_alloc_new _ _)
      have HW5 := hide hw5
      clear hw5
      go_wp2
      rw [unhide HW5]
      clear HW5
      go_region_held3 (fun w' => w'.cell? ⟨w4.heap.size, 0, none⟩ = some (.int .i64 x) ∧ w'.cell? ⟨w4.heap.size, 1, none⟩ = some (.int .i64 y)) (exact ⟨c0, c1⟩) (fail)
      all_goals
        go_wp2
        refine bodyPost_ret (v := .tuple #[.int .i64 x, .int .i64 y]) (by simp [results, Try.results35, go_sem]) rfl ⟨rfl, grown_drew G5⟩

set_option maxRecDepth 20000 in
set_option maxHeartbeats 3200000 in
theorem implBlocksOf (p wd ht rs : Int) (ao : Option Addr) (n cap : Nat) (C : Nat → Nat → Int) (w : World) (hr : RdC w ao n C) (hn : n ≤ 4194304) (b : Bool) (HFB : Hid (frameB p wd ht rs n C = b)) (c x y : Int) (HS : Hid (blocksG b wd ht n C c = (x, y))) :
    Calls Try.prog 33 #[.agg #[.int .i64 p, .int .i64 wd, .int .i64 ht, .int .i64 rs, .slice ao n cap], .int .i64 c] w fun e w' => e = .returned (.tuple #[.int .i64 x, .int .i64 y]) ∧ w.grownBy w' none := by
  have HR := hide hr
  clear hr
  have G0 : Hid (w.grownBy (w.alloc (.cells #[.int .i64 p, .int .i64 wd, .int .i64 ht, .int .i64 rs, .slice ao n cap] 40)) none) := grown_alloc (World.grownBy.refl _ _) _
  go_enter Try.func33, Try.ntmps33
  go_wp2_with fail
  refine (fixFrame p wd ht rs ao n cap C _ ((unhide HR).grown (unhide G0)) hn b HFB).mono ?_
  generalize (w.alloc (.cells #[.int .i64 p, .int .i64 wd, .int .i64 ht, .int .i64 rs, .slice ao n cap] 40)) = wx at *
  rintro e w1 ⟨X, rfl, h1, h2, g1⟩
  have H1 := hide h1
  have H2 := hide h2
  have G1 := grown_trans (unhide G0) g1
  have hsX : X.size = 21 := by
    cases b
    · rw [h1 rfl]; rfl
    · obtain ⟨D, hF, _⟩ := h2 rfl; exact hF.size
  have HOX : Hid (X.all (·.oneCell') = true) := by
    cases b
    · rw [h1 rfl]; exact fzOne
    · obtain ⟨D, hF, _⟩ := h2 rfl; exact hF.one
  have HB2 := hide (heap_alloc_new w1 (.cells #[.int .i64 0, .int .i64 0, .int .i64 0, .int .i64 0, .int .i64 0, .int .i64 0, .int .i64 0, .int .i64 0, .int .i64 0, .int .i64 0, .int .i64 0, .int .i64 0, .int .i64 0, .int .i64 0, .int .i64 0, .int .i64 0, .int .i64 0, .int .i64 0, .int .i64 0, .int .i64 0, .int .i64 0] 80))
  have HG2 : Hid (w1.grownBy (w1.alloc (.cells #[.int .i64 0, .int .i64 0, .int .i64 0, .int .i64 0, .int .i64 0, .int .i64 0, .int .i64 0, .int .i64 0, .int .i64 0, .int .i64 0, .int .i64 0, .int .i64 0, .int .i64 0, .int .i64 0, .int .i64 0, .int .i64 0, .int .i64 0, .int .i64 0, .int .i64 0, .int .i64 0, .int .i64 0] 80)) none) := grown_alloc (World.grownBy.refl _ _) _
  clear h1 h2 g1
  go_wp2_with (first | (refine wpList_load_row rfl 80 _ rfl w1.heap.size rfl X 80 hB2 _ Try.underlying80 rfl (by rw [hsX]; kernel_rfl) ?_) | (refine wpList_store_row rfl 80 _ _ rfl w1.heap.size rfl X rfl #[.int .i64 0, .int .i64 0, .int .i64 0, .int .i64 0, .int .i64 0, .int .i64 0, .int .i64 0, .int .i64 0, .int .i64 0, .int .i64 0, .int .i64 0, .int .i64 0, .int .i64 0, .int .i64 0, .int .i64 0, .int .i64 0, .int .i64 0, .int .i64 0, .int .i64 0, .int .i64 0, .int .i64 0] 80 (unhide HB2) (by rw [hsX]; rfl) (by rw [hsX]; kernel_rfl) (unhide HOX) ?_; intro w2 hB2 g2))
  have G2 : w.grownBy w2 none := grown_new (grown_trans G1 (unhide HG2)) g2 (fun g e => by simp at e; have := G1.size; omega)
  have hg2 : w1.heap.size < w2.heap.size := (Array.getElem?_eq_some_iff.1 hB2).1
  clear g2 HG2 HB2
  cases b
  · have hxy : x = 0 ∧ y = 0 := by have := unhide HS; simp [blocksG] at this; exact ⟨this.1.symm, this.2.symm⟩
    obtain ⟨rfl, rfl⟩ := hxy
    rw [unhide H1 rfl]
    refine (hasComp_none c _).mono ?_
    rintro e w3 ⟨rfl, g3⟩
    go_wp2
    refine bodyPost_ret (v := .tuple #[.int .i64 0, .int .i64 0]) (by simp [results, Try.results33, go_sem]) rfl ⟨rfl, grown_trans G2 g3⟩
  · obtain ⟨D, hF, hD⟩ := unhide H2 rfl
    have hG := (geo_of (unhide HFB)).congr hD
    have hn4 := hG.n4
    have HF := hide hF
    have HG := hide hG
    obtain ⟨t, HT⟩ : ∃ t, Hid (decide (0 ≤ c ∧ c ≤ (n : Int) - 1) = t) := ⟨_, rfl⟩
    clear hF hG
    refine (hasComp X p wd ht rs n D (unhide HF) hn4 c t HT _).mono ?_
    rintro e w3 ⟨rfl, g3⟩
    cases t
    · have hxy : x = 0 ∧ y = 0 := by
        have e1 := unhide HS
        rw [blocksG, unhide HT] at e1
        simp at e1
        exact ⟨e1.1.symm, e1.2.symm⟩
      obtain ⟨rfl, rfl⟩ := hxy
      go_wp2
      refine bodyPost_ret (v := .tuple #[.int .i64 0, .int .i64 0]) (by simp [results, Try.results33, go_sem]) rfl ⟨rfl, grown_trans G2 g3⟩
    · have hc := of_decide_eq_true (unhide HT)
      obtain ⟨k, rfl⟩ := Int.eq_ofNat_of_zero_le hc.1
      have hk : k < n := by omega
      have HE : Hid (D k 1 * upI wd (8 * mostA 1 C 1 n) = x ∧ D k 2 * upI ht (8 * mostA 1 C 2 n) = y) := by
        have e1 := unhide HS
        rw [blocksG, unhide HT] at e1
        simp at e1
        unfold Hid
        rw [hD k hk, Int.mul_comm, Int.mul_comm (C k 2)]
        exact e1
      have hB3 := (g3.block w1.heap.size hg2 (by simp)).trans hB2
      have G3 := grown_trans G2 g3
      clear HT hc hB2 g3
      go_wp2_with (first | (refine wpList_load_row rfl 80 _ rfl w1.heap.size rfl X 80 hB3 _ Try.underlying80 rfl (by rw [hsX]; kernel_rfl) ?_))
      refine (blocks X p wd ht rs n D (unhide HF) _ _ (unhide HG) k hk _ _ rfl rfl _).mono ?_
      rw [(unhide HE).1, (unhide HE).2]
      rintro e w4 ⟨rfl, g4⟩
      have G4 := grown_trans G3 g4
      obtain ⟨w5, hw5⟩ : ∃ w5, w4.alloc (.cells #[.int .i64 x, .int .i64 y] 98) = w5 := ⟨_, rfl⟩
      have G5 : w.grownBy w5 none := by rw [← hw5]; exact grown_alloc G4 _
      obtain ⟨c0, c1, _, _⟩ := areaCells (show w5.heap[w4.heap.size]? = some (.cells #[.int .i64 x, .int .i64 y] 98 (0, 0)) from by rw [← hw5]; exact heap_alloc_new _ _)
      have HW5 := hide hw5
      clear hw5
      go_wp2
      rw [unhide HW5]
      clear HW5
      go_region_held3 (fun w' => w'.cell? ⟨w4.heap.size, 0, none⟩ = some (.int .i64 x) ∧ w'.cell? ⟨w4.heap.size, 1, none⟩ = some (.int .i64 y)) (exact ⟨c0, c1⟩) (fail)
      all_goals
        go_wp2
        refine bodyPost_ret (v := .tuple #[.int .i64 x, .int .i64 y]) (by simp [results, Try.results33, go_sem]) rfl ⟨rfl, grown_drew G5⟩

end Go.Proofs.Ytoeehfjbnbbijaa
