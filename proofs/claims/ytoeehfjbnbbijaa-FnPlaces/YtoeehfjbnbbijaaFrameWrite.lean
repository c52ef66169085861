/-
  The bytes of a frame, and the walk of the specification's WriteFrame.
-/
import Derived.Test.YtoeehfjbnbbijaaFrameSpec
import Derived.Test.YtoeehfjbnbbijaaSame
import Derived.Test.YtoeehfjbnbbijaaAppRd
namespace Go.Proofs.Ytoeehfjbnbbijaa
open Go.RowKit

theorem frameCells5 {w : World} {g : Nat} {a b c d v : Value} {t : TypeId} (hb : w.heap[g]? = some (.cells #[a, b, c, d, v] t (0, 0))) :
    w.cell? ⟨g, 0, none⟩ = some a ∧ w.cell? ⟨g, 1, none⟩ = some b ∧ w.cell? ⟨g, 2, none⟩ = some c ∧ w.cell? ⟨g, 3, none⟩ = some d ∧ w.cell? ⟨g, 4, none⟩ = some v :=
  ⟨by rw [cell_of_row w _ 0 _ _ (0, 0) hb]; rfl, by rw [cell_of_row w _ 1 _ _ (0, 0) hb]; rfl, by rw [cell_of_row w _ 2 _ _ (0, 0) hb]; rfl, by rw [cell_of_row w _ 3 _ _ (0, 0) hb]; rfl, by rw [cell_of_row w _ 4 _ _ (0, 0) hb]; rfl⟩

def compBs (C : Nat → Nat → Int) : Nat → List Int
  | 0 => []
  | k + 1 => compBs C k ++ [C k 0, 16 * C k 1 + C k 2, C k 3]
def frameBs (p wd ht rs : Int) (n : Nat) (C : Nat → Nat → Int) (k : Nat) : List Int := [p, wd - 1, ht - 1, rs, (n : Int)] ++ compBs C k
def writeF (p wd ht rs : Int) (n : Nat) (C : Nat → Nat → Int) : List Int := if frameB p wd ht rs n C = true then frameBs p wd ht rs n C n else []
theorem compBs_len (C : Nat → Nat → Int) : ∀ k, (compBs C k).length = 3 * k
  | 0 => rfl
  | k + 1 => by simp only [compBs, List.length_append, compBs_len C k, List.length_cons, List.length_nil]; omega
theorem frameBs_len (p wd ht rs : Int) (n : Nat) (C : Nat → Nat → Int) (k : Nat) : (frameBs p wd ht rs n C k).length = 5 + 3 * k := by
  simp only [frameBs, List.length_append, compBs_len, List.length_cons, List.length_nil]
theorem frameBs_succ (p wd ht rs : Int) (n : Nat) (C : Nat → Nat → Int) (k : Nat) : frameBs p wd ht rs n C (k + 1) = frameBs p wd ht rs n C k ++ [C k 0, 16 * C k 1 + C k 2, C k 3] := by
  simp only [frameBs, compBs, List.append_assoc]
theorem compBs_congr {C D : Nat → Nat → Int} : ∀ k, (∀ i, i < k → C i = D i) → compBs C k = compBs D k
  | 0, _ => rfl
  | k + 1, h => by simp only [compBs]; rw [compBs_congr k (fun i hi => h i (by omega)), h k (by omega)]
theorem frameBs_congr {C D : Nat → Nat → Int} {p wd ht rs : Int} {n : Nat} (h : ∀ i, i < n → C i = D i) : frameBs p wd ht rs n C n = frameBs p wd ht rs n D n := by
  simp only [frameBs]; rw [compBs_congr n h]
theorem frameB_facts {p wd ht rs : Int} {n : Nat} {C : Nat → Nat → Int} (h : frameB p wd ht rs n C = true) : ((p = 8 ∨ p = 12) ∧ (1 ≤ wd ∧ wd ≤ 256) ∧ (1 ≤ ht ∧ ht ≤ 256) ∧ wd * ht ≤ 16384 ∧ 0 ≤ rs ∧ rs ≤ 255) ∧ (1 ≤ n ∧ n ≤ 4) ∧ ∀ k, k < n → compB (C k) = true := by
  rw [frameB, Bool.and_eq_true, compsB, Bool.and_eq_true, Bool.and_eq_true] at h
  obtain ⟨h1, h2, h3, _⟩ := h
  have h2' := of_decide_eq_true h2
  refine ⟨headB_facts h1, by omega, fun k hk => ?_⟩
  have := okTo_true h3 (k + 1) hk
  rw [okTo, Bool.and_eq_true, Bool.and_eq_true] at this
  exact this.2.1

set_option maxRecDepth 100000 in
set_option maxHeartbeats 3200000 in
theorem specWriteFrame (p wd ht rs : Int) (ao : Option Addr) (n cap : Nat) (C : Nat → Nat → Int) (w : World) (hr : RdC w ao n C) (Z : List Int) (HZ : Hid (writeF p wd ht rs n C = Z)) :
    Calls Try.prog 22 #[.agg #[.int .i64 p, .int .i64 wd, .int .i64 ht, .int .i64 rs, .slice ao n cap]] w fun e w' => ∃ bo cap', e = .returned (.slice bo Z.length cap') ∧
      w'.ownsRow w.heap.size 5 1 (.slice bo Z.length cap') Z.length (Z.map (Value.int .u8)) ∧ w.grownBy w' none := by
  obtain ⟨i0, hi, hz0, hz1, hz2⟩ := info_parts Try.info5
  have HR := hide hr
  clear hr
  have G0 : Hid (w.grownBy (w.alloc (.cells #[.int .i64 p, .int .i64 wd, .int .i64 ht, .int .i64 rs, .slice ao n cap] 40)) none) := grown_alloc (World.grownBy.refl _ _) _
  have HB := hide (heap_alloc_new w (.cells #[.int .i64 p, .int .i64 wd, .int .i64 ht, .int .i64 rs, .slice ao n cap] 40))
  have hgs : w.heap.size < (w.alloc (.cells #[.int .i64 p, .int .i64 wd, .int .i64 ht, .int .i64 rs, .slice ao n cap] 40)).heap.size := by simp
  obtain ⟨b, HFB⟩ : ∃ b, Hid (frameB p wd ht rs n C = b) := ⟨_, rfl⟩
  go_enter Try.func22, Try.ntmps22
  go_wp2_with fail
  refine (specFrameOk p wd ht rs ao n cap C _ ((unhide HR).grown (unhide G0)) b HFB).mono ?_
  generalize (w.alloc (.cells #[.int .i64 p, .int .i64 wd, .int .i64 ht, .int .i64 rs, .slice ao n cap] 40)) = wx at *
  rintro e w1 ⟨rfl, g1⟩
  have G1 := grown_trans (unhide G0) g1
  cases b
  · have HZE : Hid (Z = []) := by unfold Hid; rw [← unhide HZ, writeF, unhide HFB]; rfl
    go_wp2
    go_ret
    exact ⟨some ⟨w1.heap.size, 0, none⟩, 0, by rw [unhide HZE]; rfl, by rw [unhide HZE]; exact World.ownsRow_lit w1 #[] 0 G1.size (by unfold maxLen; omega) rfl, grown_alloc G1 _⟩
  · have HZE : Hid (Z = frameBs p wd ht rs n C n) := by unfold Hid; rw [← unhide HZ, writeF, unhide HFB]; rfl
    obtain ⟨⟨hp, hwd, hht, _, hrs⟩, hn, hcs⟩ := frameB_facts (unhide HFB)
    have hpb : 0 ≤ p ∧ p ≤ 255 := by omega
    have hnb : 0 ≤ (n : Int) ∧ (n : Int) ≤ 255 := by omega
    have HCS := hide hcs
    have hB1 := (g1.block w.heap.size hgs (by simp)).trans (unhide HB)
    have ca := frameCells5 hB1
    clear hp hcs hB1
    have o0 : (w1.alloc (.cells #[.int .u8 p, .int .u8 (wd - 1), .int .u8 (ht - 1), .int .u8 rs, .int .u8 n] 5)).ownsRow wx.heap.size 5 1 (.slice (some ⟨w1.heap.size, 0, none⟩) 5 5) (5 + 3 * 0) ((frameBs p wd ht rs n C 0).map (Value.int .u8)) := World.ownsRow_lit w1 #[.int .u8 p, .int .u8 (wd - 1), .int .u8 (ht - 1), .int .u8 rs, .int .u8 n] 5 g1.size (by unfold maxLen; omega) rfl
    have O0 := hide o0
    have GG := hide (grown_alloc G1 (.cells #[.int .u8 p, .int .u8 (wd - 1), .int .u8 (ht - 1), .int .u8 rs, .int .u8 n] 5))
    have GX := hide (grown_alloc g1 (.cells #[.int .u8 p, .int .u8 (wd - 1), .int .u8 (ht - 1), .int .u8 rs, .int .u8 n] 5))
    clear o0 G1 g1
    go_wp2
    go_loopw [3, 4] (fun v i wr => ∃ k : Nat, k ≤ n ∧ i = .int .i64 k ∧ wr.ownsRow wx.heap.size 5 1 v (5 + 3 * k) ((frameBs p wd ht rs n C k).map (Value.int .u8)) ∧ wx.grownBy wr none) (fun _ i _ => n - (intOf i).toNat)
    case atStart => exact ⟨0, Nat.zero_le _, rfl, unhide O0, unhide GX⟩
    case round =>
      obtain ⟨k, hk, rfl, hob, hgk⟩ := hrel
      clear ca
      have ca := frameCells5 ((hgk.block w.heap.size hgs (by simp)).trans (unhide HB))
      by_cases hlt : k < n
      · obtain ⟨bb, off, rfl, hc⟩ := (unhide HR) k hlt
        have hc' := fun j hj => (grown_trans (unhide G0) hgk).cell (hc j hj) (by simp)
        have h0 := hc' 0 (by omega)
        have h1 := hc' 1 (by omega)
        have h2 := hc' 2 (by omega)
        have h3 := hc' 3 (by omega)
        rw [Nat.add_zero] at h0
        clear hc hc'
        obtain ⟨hb0, hb1, hb2, hb3⟩ := compB_bounds (unhide HCS k hlt)
        have HS := hide (frameBs_succ p wd ht rs n C k)
        generalize C k 0 = c0 at *
        generalize C k 1 = c1 at *
        generalize C k 2 = c2 at *
        generalize C k 3 = c3 at *
        generalize frameBs p wd ht rs n C k = acc at *
        have hsz : wx.heap.size ≤ wr.heap.size := hgk.size
        have ho1 := hob.alloc (.cells #[.int .i64 c0, .int .i64 c1, .int .i64 c2, .int .i64 c3] 77)
        go_wp2_with (at_builtin; refine wpList_append_own _ rfl _ _ 22 rfl wx.heap.size 5 i0 (.int .u8 0) 1 1 Try.underlying22 hi hz0 hz1 hz2 rfl (by decide) _ _ _ rfl (ho1.alloc _) ⟨wr.heap.size + 1, 0, none⟩ 3 3 [.int .u8 c0, .int .u8 (16 * c1 + c2), .int .u8 c3] rfl rfl ?a1 ?a2 ?a3 ?a4 ?a5 ?_)
        case a1 => have := new_cells (wr.alloc (.cells #[.int .i64 c0, .int .i64 c1, .int .i64 c2, .int .i64 c3] 77)) #[.int .u8 c0, .int .u8 (16 * c1 + c2), .int .u8 c3] 5; simpa using this
        case a2 => intro u hu; simp at hu; rcases hu with rfl | rfl | rfl <;> rfl
        case a3 => unfold maxLen; omega
        case a4 => omega
        case a5 => simp; omega
        intro v2 w2 hown2 hgrow2 _
        have hg2 := grown_new (grown_alloc (grown_alloc hgk _) _) hgrow2 (fun g e => (hob.lt g e).1)
        have HRES := hide (own_as hown2 (n' := 5 + 3 * (k + 1)) (xs' := (frameBs p wd ht rs n C (k + 1)).map (Value.int .u8)) (by omega) (by rw [unhide HS]; simp))
        clear hgrow2 hob hgk ho1 ca h0 h1 h2 h3 hown2
        go_wp2
        go_roundw
        case rel => exact ⟨k + 1, by omega, by go_num, unhide HRES, hg2⟩
        case measure => simp [intOf]; omega
      · have hkn : k = n := by omega
        subst hkn
        have hl := frameBs_len p wd ht rs k C k
        have HRES := hide (own_as hob (n' := Z.length) (xs' := Z.map (Value.int .u8)) (by rw [unhide HZE, hl]) (by rw [unhide HZE]))
        clear hob hl
        obtain ⟨bo, bc, rfl⟩ := own_form (unhide HRES)
        go_wp2
        go_ret
        exact ⟨bo, bc, rfl, own_base (unhide HRES) (by omega), grown_trans (unhide G0) hgk⟩

end Go.Proofs.Ytoeehfjbnbbijaa
