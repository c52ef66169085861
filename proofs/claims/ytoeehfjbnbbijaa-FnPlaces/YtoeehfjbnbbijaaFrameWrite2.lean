/-
  The walks of the program's WriteFrame.
-/
import Derived.Test.YtoeehfjbnbbijaaFrameWrite
namespace Go.Proofs.Ytoeehfjbnbbijaa
open Go.RowKit

set_option maxHeartbeats 800000 in
theorem sizeFx (X : Array Value) (p wd ht rs n : Int) (C : Nat → Nat → Int) (hX : Fx X p wd ht rs n C) (hn : 0 ≤ n ∧ n ≤ 255) (w : World) :
    Calls Try.prog 71 #[.agg X] w fun e w' => e = .returned (.int .i64 (5 + 3 * n)) ∧ w.grownBy w' none := by
  have hs := hX.size
  have h4 := hX.c4
  have h4' : X[4] = .int .i64 n := by rw [Array.getElem?_eq_getElem (by omega)] at h4; simpa using h4
  go_enter Try.func71, Try.ntmps71
  go_wp2
  go_ret
  exact ⟨rfl, grown_alloc (World.grownBy.refl _ _) _⟩

/-- The first cells of a frame, where it lies. -/
theorem fx_heads {X : Array Value} {p wd ht rs n : Int} {C : Nat → Nat → Int} (hX : Fx X p wd ht rs n C) {w : World} {g : Nat} {t : TypeId} (hb : w.heap[g]? = some (.cells X t (0, 0))) :
    w.cell? ⟨g, 0, none⟩ = some (.int .i64 p) ∧ w.cell? ⟨g, 1, none⟩ = some (.int .i64 wd) ∧ w.cell? ⟨g, 2, none⟩ = some (.int .i64 ht) ∧ w.cell? ⟨g, 3, none⟩ = some (.int .i64 rs) ∧ w.cell? ⟨g, 4, none⟩ = some (.int .i64 n) :=
  ⟨by rw [cell_of_row w _ 0 _ _ (0, 0) hb]; exact hX.c0, by rw [cell_of_row w _ 1 _ _ (0, 0) hb]; exact hX.c1, by rw [cell_of_row w _ 2 _ _ (0, 0) hb]; exact hX.c2, by rw [cell_of_row w _ 3 _ _ (0, 0) hb]; exact hX.c3, by rw [cell_of_row w _ 4 _ _ (0, 0) hb]; exact hX.c4⟩

set_option maxHeartbeats 3200000 in
theorem bytesFx (X : Array Value) (p wd ht rs : Int) (n : Nat) (C : Nat → Nat → Int) (hX : Fx X p wd ht rs n C) (HFB : Hid (frameB p wd ht rs n C = true)) (w : World) :
    Calls Try.prog 48 #[.agg X] w fun e w' => ∃ bo cap', e = .returned (.slice bo (5 + 3 * n) cap') ∧
      w'.ownsRow w.heap.size 5 1 (.slice bo (5 + 3 * n) cap') (5 + 3 * n) ((frameBs p wd ht rs n C n).map (Value.int .u8)) ∧ w.grownBy w' none := by
  obtain ⟨i0, hi, hz0, hz1, hz2⟩ := info_parts Try.info5
  have HX := hide hX
  have hs := hX.size
  have HB := hide (heap_alloc_new w (.cells X 80))
  have G0 : Hid (w.grownBy (w.alloc (.cells X 80)) none) := grown_alloc (World.grownBy.refl _ _) _
  have hgs : w.heap.size < (w.alloc (.cells X 80)).heap.size := by simp
  obtain ⟨⟨hp, hwd, hht, _, hrs⟩, hn, hcs⟩ := frameB_facts (unhide HFB)
  have hpb : 0 ≤ p ∧ p ≤ 255 := by omega
  have hnb : 0 ≤ (n : Int) ∧ (n : Int) ≤ 255 := by omega
  have hn4 : n ≤ 4 := hn.2
  have HCS := hide hcs
  clear hp hcs hX
  go_enter Try.func48, Try.ntmps48
  go_wp2_with (refine wpList_load_row rfl 80 _ rfl w.heap.size rfl X 80 (unhide HB) _ Try.underlying80 rfl (by rw [hs]; kernel_rfl) ?_)
  generalize (w.alloc (.cells X 80)) = wx at *
  refine (sizeFx X p wd ht rs n C (unhide HX) hnb _).mono ?_
  rintro e w1 ⟨rfl, g1⟩
  have hsz1 := g1.size
  go_wp2_with (at_make; refine wpList_make_own _ rfl _ _ 22 rfl w1.heap.size 5 i0 (.int .u8 0) 1 Try.underlying22 hi hz0 hz1 .i64 .i64 (5 + 3 * (n : Int)) (5 + 3 * n) rfl rfl (by omega) (by rw [hz2]; omega) (by unfold maxLen; omega) (Nat.le_refl _) ?_)
  intro w2 hown2 hg2
  have g2 := grown_trans g1 hg2
  have ca := fx_heads (unhide HX) ((g2.block w.heap.size hgs (by simp)).trans (unhide HB))
  have ho2 := own_base hown2 hsz1
  have hsz2 := g2.size
  clear hown2 hg2 g1
  go_wp2_with (at_builtin; refine wpList_append_own _ rfl _ _ 22 rfl wx.heap.size 5 i0 (.int .u8 0) 1 1 Try.underlying22 hi hz0 hz1 hz2 rfl (by decide) _ _ _ rfl (ho2.alloc _) ⟨w2.heap.size, 0, none⟩ 5 5 [.int .u8 p, .int .u8 (wd - 1), .int .u8 (ht - 1), .int .u8 rs, .int .u8 n] rfl rfl ?a1 ?a2 ?a3 ?a4 ?a5 ?_)
  case a1 => have := new_cells w2 #[.int .u8 p, .int .u8 (wd - 1), .int .u8 (ht - 1), .int .u8 rs, .int .u8 n] 5; simpa using this
  case a2 => intro u hu; simp at hu; rcases hu with rfl | rfl | rfl | rfl | rfl <;> rfl
  case a3 => unfold maxLen; omega
  case a4 => omega
  case a5 => simp; omega
  intro v3 w3 hown3 hgrow3 _
  have g3 := grown_new (grown_alloc g2 _) hgrow3 (fun g e => (ho2.lt g e).1)
  have O3 := hide (own_as hown3 (n' := 5 + 3 * 0) (xs' := (frameBs p wd ht rs n C 0).map (Value.int .u8)) (by omega) rfl)
  have cb := fx_heads (unhide HX) ((g3.block w.heap.size hgs (by simp)).trans (unhide HB))
  clear hown3 hgrow3 ho2 ca g2
  go_wp2
  go_loopw [3, 31] (fun v i wr => ∃ k : Nat, k ≤ n ∧ i = .int .i64 k ∧ wr.ownsRow wx.heap.size 5 1 v (5 + 3 * k) ((frameBs p wd ht rs n C k).map (Value.int .u8)) ∧ wx.grownBy wr none) (fun _ i _ => n - (intOf i).toNat)
  case atStart => exact ⟨0, Nat.zero_le _, rfl, unhide O3, g3⟩
  case round =>
    obtain ⟨k, hk, rfl, hob, hgk⟩ := hrel
    clear cb
    have hB := (hgk.block w.heap.size hgs (by simp)).trans (unhide HB)
    by_cases hlt : k < n
    · have h0 := fx_cell (unhide HX) hB k 0 (by omega) (by omega)
      have h1 := fx_cell (unhide HX) hB k 1 (by omega) (by omega)
      have h2 := fx_cell (unhide HX) hB k 2 (by omega) (by omega)
      have h3 := fx_cell (unhide HX) hB k 3 (by omega) (by omega)
      rw [Nat.add_zero] at h0
      clear hB
      obtain ⟨hb0, hb1, hb2, hb3⟩ := compB_bounds (unhide HCS k hlt)
      have HS := hide (frameBs_succ p wd ht rs n C k)
      generalize C k 0 = c0 at *
      generalize C k 1 = c1 at *
      generalize C k 2 = c2 at *
      generalize C k 3 = c3 at *
      generalize frameBs p wd ht rs n C k = acc at *
      have hsz : wx.heap.size ≤ wr.heap.size := hgk.size
      have ho1 := hob.alloc (.cells #[.int .i64 c0, .int .i64 c1, .int .i64 c2, .int .i64 c3] 77)
      go_wp2_with (at_builtin; refine wpList_append_own _ rfl _ _ 22 rfl wx.heap.size 5 i0 (.int .u8 0) 1 1 Try.underlying22 hi hz0 hz1 hz2 rfl (by decide) _ _ _ rfl (ho1.alloc _) ⟨wr.heap.size + 1, 0, none⟩ 3 3 [.int .u8 c0, .int .u8 (16 * c1 + c2), .int .u8 c3] rfl rfl ?a1 ?a2 ?a3 ?a4 ?a5 ?_)
      case a1 => have := new_cells (wr.alloc (.cells #[.int .i64 c0, .int .i64 c1, .int .i64 c2, .int .i64 c3] 77)) #[.int .u8 c0, .int .u8 (16 * c1 + c2), .int .u8 c3] 5; simpa using this
      case a2 => intro u hu; simp at hu; rcases hu with rfl | rfl | rfl <;> rfl
      case a3 => unfold maxLen; omega
      case a4 => omega
      case a5 => simp; omega
      intro v4 w4 hown4 hgrow4 _
      have hg4 := grown_new (grown_alloc (grown_alloc hgk _) _) hgrow4 (fun g e => (hob.lt g e).1)
      have HRES := hide (own_as hown4 (n' := 5 + 3 * (k + 1)) (xs' := (frameBs p wd ht rs n C (k + 1)).map (Value.int .u8)) (by omega) (by rw [unhide HS]; simp))
      clear hgrow4 hob hgk ho1 h0 h1 h2 h3 hown4
      go_wp2
      go_roundw
      case rel => exact ⟨k + 1, by omega, by go_num, unhide HRES, hg4⟩
      case measure => simp [intOf]; omega
    · have hkn : k = n := by omega
      subst hkn
      have HRES := hide hob
      clear hob hB
      obtain ⟨bo, bc, rfl⟩ := own_form (unhide HRES)
      go_wp2
      go_ret
      exact ⟨bo, bc, rfl, own_base (unhide HRES) (by omega), grown_trans (unhide G0) hgk⟩

theorem fz_one : (#[.int .i64 0, .int .i64 0, .int .i64 0, .int .i64 0, .int .i64 0, .int .i64 0, .int .i64 0, .int .i64 0, .int .i64 0, .int .i64 0, .int .i64 0, .int .i64 0, .int .i64 0, .int .i64 0, .int .i64 0, .int .i64 0, .int .i64 0, .int .i64 0, .int .i64 0, .int .i64 0, .int .i64 0] : Array Value).all (·.oneCell') = true := by decide +kernel

set_option maxHeartbeats 3200000 in
theorem implWriteFrame (p wd ht rs : Int) (ao : Option Addr) (n cap : Nat) (C : Nat → Nat → Int) (w : World) (hr : RdC w ao n C) (hn : n ≤ 4194304) (Z : List Int) (HZ : Hid (writeF p wd ht rs n C = Z)) :
    Calls Try.prog 21 #[.agg #[.int .i64 p, .int .i64 wd, .int .i64 ht, .int .i64 rs, .slice ao n cap]] w fun e w' => ∃ bo cap', e = .returned (.slice bo Z.length cap') ∧
      w'.ownsRow w.heap.size 5 1 (.slice bo Z.length cap') Z.length (Z.map (Value.int .u8)) ∧ w.grownBy w' none := by
  have HR := hide hr
  clear hr
  have G0 : Hid (w.grownBy (w.alloc (.cells #[.int .i64 p, .int .i64 wd, .int .i64 ht, .int .i64 rs, .slice ao n cap] 40)) none) := grown_alloc (World.grownBy.refl _ _) _
  obtain ⟨b, HFB⟩ : ∃ b, Hid (frameB p wd ht rs n C = b) := ⟨_, rfl⟩
  go_enter Try.func21, Try.ntmps21
  go_wp2_with fail
  refine (fixFrame p wd ht rs ao n cap C _ ((unhide HR).grown (unhide G0)) hn b HFB).mono ?_
  generalize (w.alloc (.cells #[.int .i64 p, .int .i64 wd, .int .i64 ht, .int .i64 rs, .slice ao n cap] 40)) = wx at *
  rintro e w1 ⟨X, rfl, h1, h2, g1⟩
  have H1 := hide h1
  have H2 := hide h2
  have G1 := grown_trans (unhide G0) g1
  have hsX : X.size = 21 := by
    cases b
    · rw [h1 rfl]; rfl
    · obtain ⟨D, hF, _⟩ := h2 rfl; exact hF.size
  have HOX : Hid (X.all (·.oneCell') = true) := by
    cases b
    · rw [h1 rfl]; exact fz_one
    · obtain ⟨D, hF, _⟩ := h2 rfl; exact hF.one
  have HB2 := hide (heap_alloc_new w1 (.cells #[.int .i64 0, .int .i64 0, .int .i64 0, .int .i64 0, .int .i64 0, .int .i64 0, .int .i64 0, .int .i64 0, .int .i64 0, .int .i64 0, .int .i64 0, .int .i64 0, .int .i64 0, .int .i64 0, .int .i64 0, .int .i64 0, .int .i64 0, .int .i64 0, .int .i64 0, .int .i64 0, .int .i64 0] 80))
  have HG2 : Hid (w1.grownBy (w1.alloc (.cells #[.int .i64 0, .int .i64 0, .int .i64 0, .int .i64 0, .int .i64 0, .int .i64 0, .int .i64 0, .int .i64 0, .int .i64 0, .int .i64 0, .int .i64 0, .int .i64 0, .int .i64 0, .int .i64 0, .int .i64 0, .int .i64 0, .int .i64 0, .int .i64 0, .int .i64 0, .int .i64 0, .int .i64 0] 80)) none) := grown_alloc (World.grownBy.refl _ _) _
  clear h1 h2 g1
  go_wp2_with (first | (refine wpList_load_row rfl 80 _ rfl w1.heap.size rfl X 80 hB2 _ Try.underlying80 rfl (by rw [hsX]; kernel_rfl) ?_) | (refine wpList_store_row rfl 80 _ _ rfl w1.heap.size rfl X rfl #[.int .i64 0, .int .i64 0, .int .i64 0, .int .i64 0, .int .i64 0, .int .i64 0, .int .i64 0, .int .i64 0, .int .i64 0, .int .i64 0, .int .i64 0, .int .i64 0, .int .i64 0, .int .i64 0, .int .i64 0, .int .i64 0, .int .i64 0, .int .i64 0, .int .i64 0, .int .i64 0, .int .i64 0] 80 (unhide HB2) (by rw [hsX]; rfl) (by rw [hsX]; kernel_rfl) (unhide HOX) ?_; intro w2 hB2 g2))
  have G2 : w.grownBy w2 none := grown_new (grown_trans G1 (unhide HG2)) g2 (fun g e => by simp at e; have := G1.size; omega)
  have hg2 : w1.heap.size < w2.heap.size := (Array.getElem?_eq_some_iff.1 hB2).1
  clear g2 HG2 HB2
  cases b
  · have HZE : Hid (Z = []) := by unfold Hid; rw [← unhide HZ, writeF, unhide HFB]; rfl
    rw [unhide H1 rfl]
    refine (isNone_yes _).mono ?_
    rintro e w3 ⟨rfl, g3⟩
    go_wp2
    go_ret
    exact ⟨none, 0, by rw [unhide HZE]; rfl, by rw [unhide HZE]; exact ⟨rfl, .inl ⟨rfl, rfl⟩⟩, grown_trans G2 g3⟩
  · have HZE : Hid (Z = frameBs p wd ht rs n C n) := by unfold Hid; rw [← unhide HZ, writeF, unhide HFB]; rfl
    obtain ⟨D, hF, hD⟩ := unhide H2 rfl
    have HD := hide hD
    have HF := hide hF
    have hp : (p == 0) = false := by
      have h := unhide HFB
      rw [frameB, Bool.and_eq_true] at h
      rcases (headB_facts h.1).1 with rfl | rfl <;> rfl
    have HFD : Hid (frameB p wd ht rs n D = true) := by
      unfold Hid
      rw [← unhide HFB, frameB, frameB, compsB_congr (fun _ => unhide HD)]
    have HLEN : Hid (Z.length = 5 + 3 * n) := by unfold Hid; rw [unhide HZE, frameBs_len]
    have HBS : Hid (frameBs p wd ht rs n D n = Z) := by unfold Hid; rw [unhide HZE]; exact frameBs_congr (unhide HD)
    clear hD hF
    refine (isNone_no X p wd ht rs n D (unhide HF) hp _).mono ?_
    rintro e w3 ⟨rfl, g3⟩
    have hB3 := (g3.block w1.heap.size hg2 (by simp)).trans hB2
    have G3 := grown_trans G2 g3
    clear hp
    go_wp2_with (refine wpList_load_row rfl 80 _ rfl w1.heap.size rfl X 80 hB3 _ Try.underlying80 rfl (by rw [hsX]; kernel_rfl) ?_)
    refine (bytesFx X p wd ht rs n D (unhide HF) HFD _).mono ?_
    rintro e w4 ⟨bo, bc, rfl, o4, g4⟩
    have O4 := hide o4
    have G4 := grown_trans G3 g4
    clear o4 g4
    go_wp2
    go_ret
    refine ⟨bo, bc, by rw [unhide HLEN]; rfl, ?_, G4⟩
    rw [unhide HLEN, ← unhide HBS]
    exact own_base (unhide O4) G3.size

end Go.Proofs.Ytoeehfjbnbbijaa
