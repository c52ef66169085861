/-
  The walks of Stuff, the program's and the specification's: both give the same list.
-/
import Derived.Test.YticecjodbhhcfaaDoorSame
namespace Go.Proofs.YticecjodbhhcfaaDoor
open Go.RowKit

/-- The bytes with a nought behind each 255. -/
def stuffL (l : List Int) : List Int := l.flatMap (fun x => if x = 255 then [x, 0] else [x])
theorem stuff_take (zs : List Int) (k : Nat) (h : k < zs.length) : stuffL (zs.take (k + 1)) = stuffL (zs.take k) ++ (if zs.getD k 0 = 255 then [zs.getD k 0, 0] else [zs.getD k 0]) := by
  rw [List.take_succ_eq_append_getElem h]
  unfold stuffL
  rw [List.flatMap_append]
  simp [h]
theorem stuff_len (l : List Int) : (stuffL l).length ≤ 2 * l.length := by
  induction l with
  | nil => simp [stuffL]
  | cons a r ih =>
    have e : stuffL (a :: r) = (if a = 255 then [a, 0] else [a]) ++ stuffL r := by simp [stuffL]
    rw [e, List.length_append, List.length_cons]
    split <;> simp <;> omega

/-- What Stuff answers. -/
def stuffed (l : List Int) : List Int := if l.length ≤ 60000 then stuffL l else []
theorem stuffed_len (l : List Int) : (stuffed l).length ≤ 120000 := by
  unfold stuffed
  split
  · have := stuff_len l; omega
  · simp

set_option maxHeartbeats 800000 in
theorem specStuff (ao : Option Addr) (n cap : Nat) (zs : List Int) (w : World) (hr : Rd .u8 w ao n zs) (hn : n ≤ 4194304) :
    Calls Tryd.prog 21 #[.slice ao n cap] w fun e w' => ∃ bo cap', e = .returned (.slice bo (stuffed zs).length cap') ∧
      w'.ownsRow w.heap.size 5 1 (.slice bo (stuffed zs).length cap') (stuffed zs).length ((stuffed zs).map (Value.int .u8)) ∧ w.grownBy w' none := by
  obtain ⟨i0, hi, hz0, hz1, hz2⟩ := info_parts Tryd.info5
  obtain ⟨hl, hc⟩ := hr
  by_cases hbig : n ≤ 60000
  · have hdec : decide ((60000 : Int) < (n : Int)) = false := by simp; omega
    have hst : stuffed zs = stuffL zs := by unfold stuffed; rw [if_pos (by omega)]
    rw [hst]
    have HST := hide hst
    clear hst
    have hown0 : (w.alloc (.cells #[] 5)).ownsRow w.heap.size 5 1 (.slice (some ⟨w.heap.size, 0, none⟩) 0 0) 0 [] := World.ownsRow_lit w #[] 0 (Nat.le_refl _) (by unfold maxLen; omega) rfl
    have hg0 : w.grownBy (w.alloc (.cells #[] 5)) none := World.grownBy_alloc _ _ _
    go_enter Tryd.func21, Tryd.ntmps21
    go_wp2
    go_loopw [3, 4] (fun v i wr => ∃ k : Nat, k ≤ n ∧ i = .int .i64 k ∧ wr.ownsRow w.heap.size 5 1 v (stuffL (zs.take k)).length ((stuffL (zs.take k)).map (Value.int .u8)) ∧ w.grownBy wr none) (fun _ i _ => n - (intOf i).toNat)
    case atStart => exact ⟨0, Nat.zero_le _, rfl, hown0, hg0⟩
    case round =>
      obtain ⟨k, hk, rfl, hownk, hgk⟩ := hrel
      clear hown0 hg0
      have hlen := stuff_len (zs.take k)
      have hlt2 : (zs.take k).length ≤ k := List.length_take_le _ _
      by_cases hlt : k < n
      · obtain ⟨b, off, rfl, hcb⟩ := hc k hlt
        have hnext := stuff_take zs k (by omega)
        have HN := hide hnext
        clear hnext hc
        have hcell := hgk.cell hcb (by simp)
        generalize zs.getD k 0 = x at hcell hcb HN
        by_cases hx : x = 255
        · have HN' : Hid (stuffL (zs.take (k + 1)) = stuffL (zs.take k) ++ [255, 0]) := by
            have h := unhide HN; rw [if_pos hx, hx] at h; exact h
          clear HN
          subst hx
          go_wp2_with (at_builtin; refine wpList_append_own _ rfl _ _ 22 rfl w.heap.size 5 i0 (.int .u8 0) 1 1 Tryd.underlying22 hi hz0 hz1 hz2 rfl (by decide) _ _ _ rfl (hownk.alloc _) ⟨wr.heap.size, 0, none⟩ 1 1 [.int .u8 255] rfl rfl (cell_one_new _ _ _) ?d2 ?d3 ?d4 ?d5 ?_)
          case d2 => first | rfl | (intro u hu; simp at hu; subst hu; rfl)
          case d3 => unfold maxLen; omega
          case d4 => omega
          case d5 => have := hgk.size; simp; omega
          intro v' w1 hown' hgrow _
          have hg1 := grown_new (grown_trans hgk (World.grownBy_alloc _ _ _)) hgrow (fun g e => (hownk.lt g e).1)
          have hcell1 := hg1.cell hcb (by simp)
          clear hgrow hownk hgk hcell
          go_wp2_with (at_builtin; refine wpList_append_own _ rfl _ _ 22 rfl w.heap.size 5 i0 (.int .u8 0) 1 1 Tryd.underlying22 hi hz0 hz1 hz2 rfl (by decide) _ _ _ rfl (hown'.alloc _) ⟨w1.heap.size, 0, none⟩ 1 1 [.int .u8 0] rfl rfl (cell_one_new _ _ _) ?e2 ?e3 ?e4 ?e5 ?_)
          case e2 => first | rfl | (intro u hu; simp at hu; subst hu; rfl)
          case e3 => unfold maxLen; omega
          case e4 => omega
          case e5 => have := hg1.size; simp; omega
          intro v2 w2 hown2 hgrow2 _
          have hg2 := grown_new (grown_trans hg1 (World.grownBy_alloc _ _ _)) hgrow2 (fun g e => (hown'.lt g e).1)
          have hR : w2.ownsRow w.heap.size 5 1 v2 (stuffL (zs.take (k + 1))).length ((stuffL (zs.take (k + 1))).map (Value.int .u8)) := by
            rw [unhide HN', List.length_append, List.map_append]; exact hown2
          clear hown' hown2 hgrow2 hg1 hcell1
          go_wp2
          go_roundw
          case rel => exact ⟨k + 1, by omega, by go_num, hR, hg2⟩
          case measure => simp [intOf]; omega
        · have hxb : (x == 255) = false := by simpa using hx
          go_wp2_with (at_builtin; refine wpList_append_own _ rfl _ _ 22 rfl w.heap.size 5 i0 (.int .u8 0) 1 1 Tryd.underlying22 hi hz0 hz1 hz2 rfl (by decide) _ _ _ rfl (hownk.alloc _) ⟨wr.heap.size, 0, none⟩ 1 1 [.int .u8 x] rfl rfl (cell_one_new _ _ _) ?c2 ?c3 ?c4 ?c5 ?_)
          case c2 => first | rfl | (intro u hu; simp at hu; subst hu; rfl)
          case c3 => unfold maxLen; omega
          case c4 => omega
          case c5 => have := hgk.size; simp; omega
          intro v' w1 hown' hgrow _
          have hg1 := grown_new (grown_trans hgk (World.grownBy_alloc _ _ _)) hgrow (fun g e => (hownk.lt g e).1)
          have hcell1 := hg1.cell hcb (by simp)
          have hR : w1.ownsRow w.heap.size 5 1 v' (stuffL (zs.take (k + 1))).length ((stuffL (zs.take (k + 1))).map (Value.int .u8)) := by
            rw [unhide HN, if_neg hx, List.length_append, List.map_append]; exact hown'
          clear hown' hgrow hownk hgk hcell
          go_wp2
          go_roundw
          case rel => exact ⟨k + 1, by omega, by go_num, hR, hg1⟩
          case measure => simp [intOf]; omega
      · have hkn : k = n := by omega
        subst hkn
        rw [List.take_of_length_le (by omega)] at hownk
        obtain ⟨bo, cap', rfl⟩ := own_form hownk
        go_wp2
        go_ret
        exact ⟨bo, cap', rfl, hownk, hgk⟩
  · have hdec : decide ((60000 : Int) < (n : Int)) = true := by simp; omega
    have hst : stuffed zs = [] := by unfold stuffed; rw [if_neg (by omega)]
    rw [hst]
    clear hst
    go_enter Tryd.func21, Tryd.ntmps21
    go_wp2
    go_ret
    exact ⟨_, _, rfl, World.ownsRow_lit w #[] 0 (Nat.le_refl _) (by unfold maxLen; omega) rfl, World.grownBy_alloc _ _ _⟩

set_option maxHeartbeats 800000 in
theorem implStuff' (ao : Option Addr) (n cap : Nat) (zs : List Int) (w : World) (hr : Rd .u8 w ao n zs) (hn : n ≤ 4194304) :
    Calls Tryd.prog 32 #[.slice ao n cap] w fun e w' => ∃ bo cap', e = .returned (.slice bo (stuffed zs).length cap') ∧
      w'.ownsRow w.heap.size 5 1 (.slice bo (stuffed zs).length cap') (stuffed zs).length ((stuffed zs).map (Value.int .u8)) ∧ w.grownBy w' none ∧ (n ≤ 60000 → Value.slice bo (stuffed zs).length cap' ≠ .slice none 0 0) := by
  obtain ⟨i0, hi, hz0, hz1, hz2⟩ := info_parts Tryd.info5
  obtain ⟨hl, hc⟩ := hr
  by_cases hbig : n ≤ 60000
  · have hdec : decide ((60000 : Int) < (n : Int)) = false := by simp; omega
    have hst : stuffed zs = stuffL zs := by unfold stuffed; rw [if_pos (by omega)]
    rw [hst]
    have HST := hide hst
    clear hst
    go_enter Tryd.func32, Tryd.ntmps32
    go_wp2_with (at_make; refine wpList_make_own _ rfl _ _ 22 rfl w.heap.size 5 i0 (.int .u8 0) 1 Tryd.underlying22 hi hz0 hz1 .i64 .i64 _ n rfl rfl rfl (by rw [hz2]; omega) (by unfold maxLen; omega) (Nat.le_refl _) ?_)
    intro w0 hown0 hg0
    go_wp2
    go_loopw [3, 14] (fun v i wr => ∃ k : Nat, k ≤ n ∧ i = .int .i64 k ∧ wr.ownsRow w.heap.size 5 1 v (stuffL (zs.take k)).length ((stuffL (zs.take k)).map (Value.int .u8)) ∧ w.grownBy wr none ∧ Hid (v ≠ .slice none 0 0)) (fun _ i _ => n - (intOf i).toNat)
    case atStart => exact ⟨0, Nat.zero_le _, rfl, hown0, hg0, by unfold Hid; simp⟩
    case round =>
      obtain ⟨k, hk, rfl, hownk, hgk, hnn⟩ := hrel
      clear hown0 hg0
      have hlen := stuff_len (zs.take k)
      have hlt2 : (zs.take k).length ≤ k := List.length_take_le _ _
      by_cases hlt : k < n
      · obtain ⟨b, off, rfl, hcb⟩ := hc k hlt
        have hnext := stuff_take zs k (by omega)
        have HN := hide hnext
        clear hnext hc
        have hcell := hgk.cell hcb (by simp)
        generalize zs.getD k 0 = x at hcell hcb HN
        by_cases hx : x = 255
        · have HN' : Hid (stuffL (zs.take (k + 1)) = stuffL (zs.take k) ++ [255, 0]) := by
            have h := unhide HN; rw [if_pos hx, hx] at h; exact h
          clear HN
          subst hx
          go_wp2_with (at_builtin; refine wpList_append_own _ rfl _ _ 22 rfl w.heap.size 5 i0 (.int .u8 0) 1 1 Tryd.underlying22 hi hz0 hz1 hz2 rfl (by decide) _ _ _ rfl (hownk.alloc _) ⟨wr.heap.size, 0, none⟩ 1 1 [.int .u8 255] rfl rfl (cell_one_new _ _ _) ?d2 ?d3 ?d4 ?d5 ?_)
          case d2 => first | rfl | (intro u hu; simp at hu; subst hu; rfl)
          case d3 => unfold maxLen; omega
          case d4 => omega
          case d5 => have := hgk.size; simp; omega
          intro v' w1 hown' hgrow _
          have hg1 := grown_new (grown_trans hgk (World.grownBy_alloc _ _ _)) hgrow (fun g e => (hownk.lt g e).1)
          clear hgrow hownk hgk hcell
          go_wp2_with (at_builtin; refine wpList_append_own _ rfl _ _ 22 rfl w.heap.size 5 i0 (.int .u8 0) 1 1 Tryd.underlying22 hi hz0 hz1 hz2 rfl (by decide) _ _ _ rfl (hown'.alloc _) ⟨w1.heap.size, 0, none⟩ 1 1 [.int .u8 0] rfl rfl (cell_one_new _ _ _) ?e2 ?e3 ?e4 ?e5 ?_)
          case e2 => first | rfl | (intro u hu; simp at hu; subst hu; rfl)
          case e3 => unfold maxLen; omega
          case e4 => omega
          case e5 => have := hg1.size; simp; omega
          intro v2 w2 hown2 hgrow2 hn2
          have HN2 : Hid (v2 ≠ .slice none 0 0) := fun e => by first | exact hn2 e | (have := (hn2.1 e).2; omega)
          clear hn2
          have hg2 := grown_new (grown_trans hg1 (World.grownBy_alloc _ _ _)) hgrow2 (fun g e => (hown'.lt g e).1)
          have hR : w2.ownsRow w.heap.size 5 1 v2 (stuffL (zs.take (k + 1))).length ((stuffL (zs.take (k + 1))).map (Value.int .u8)) := by
            rw [unhide HN', List.length_append, List.map_append]; exact hown2
          clear hown' hown2 hgrow2 hg1
          go_wp2
          go_roundw
          case rel => exact ⟨k + 1, by omega, by go_num, hR, hg2, HN2⟩
          case measure => simp [intOf]; omega
        · have hxb : (x == 255) = false := by simpa using hx
          go_wp2_with (at_builtin; refine wpList_append_own _ rfl _ _ 22 rfl w.heap.size 5 i0 (.int .u8 0) 1 1 Tryd.underlying22 hi hz0 hz1 hz2 rfl (by decide) _ _ _ rfl (hownk.alloc _) ⟨wr.heap.size, 0, none⟩ 1 1 [.int .u8 x] rfl rfl (cell_one_new _ _ _) ?c2 ?c3 ?c4 ?c5 ?_)
          case c2 => first | rfl | (intro u hu; simp at hu; subst hu; rfl)
          case c3 => unfold maxLen; omega
          case c4 => omega
          case c5 => have := hgk.size; simp; omega
          intro v' w1 hown' hgrow hn1
          have HN1 : Hid (v' ≠ .slice none 0 0) := fun e => by first | exact hn1 e | (have := (hn1.1 e).2; omega)
          clear hn1
          have hg1 := grown_new (grown_trans hgk (World.grownBy_alloc _ _ _)) hgrow (fun g e => (hownk.lt g e).1)
          have hR : w1.ownsRow w.heap.size 5 1 v' (stuffL (zs.take (k + 1))).length ((stuffL (zs.take (k + 1))).map (Value.int .u8)) := by
            rw [unhide HN, if_neg hx, List.length_append, List.map_append]; exact hown'
          clear hown' hgrow hownk hgk hcell
          go_wp2
          go_roundw
          case rel => exact ⟨k + 1, by omega, by go_num, hR, hg1, HN1⟩
          case measure => simp [intOf]; omega
      · have hkn : k = n := by omega
        subst hkn
        rw [List.take_of_length_le (by omega)] at hownk
        obtain ⟨bo, cap', rfl⟩ := own_form hownk
        go_wp2
        go_ret
        exact ⟨bo, cap', rfl, hownk, hgk, fun _ => unhide hnn⟩
  · have hdec : decide ((60000 : Int) < (n : Int)) = true := by simp; omega
    have hst : stuffed zs = [] := by unfold stuffed; rw [if_neg (by omega)]
    rw [hst]
    clear hst
    go_enter Tryd.func32, Tryd.ntmps32
    go_wp2
    go_ret
    exact ⟨_, _, rfl, World.ownsRow_nil _ _ _ _, World.grownBy.refl _ _, fun h => absurd h hbig⟩

theorem implStuff (ao : Option Addr) (n cap : Nat) (zs : List Int) (w : World) (hr : Rd .u8 w ao n zs) (hn : n ≤ 4194304) :
    Calls Tryd.prog 32 #[.slice ao n cap] w fun e w' => ∃ bo cap', e = .returned (.slice bo (stuffed zs).length cap') ∧
      w'.ownsRow w.heap.size 5 1 (.slice bo (stuffed zs).length cap') (stuffed zs).length ((stuffed zs).map (Value.int .u8)) ∧ w.grownBy w' none := by
  refine (implStuff' ao n cap zs w hr hn).mono ?_
  rintro e w' ⟨bo, cap', h1, h2, h3, _⟩
  exact ⟨bo, cap', h1, h2, h3⟩

end Go.Proofs.YticecjodbhhcfaaDoor
