/-
  The walks of Unstuff, the program's and the specification's: both give the same list and count.
-/
import Derived.Test.YticecjodbhhcfaaDoorSame
namespace Go.Proofs.YticecjodbhhcfaaDoor
open Go.RowKit

/-- The bytes up to the first 255 that no nought follows, of each 255 and nought the 255 alone; and how many bytes these were. -/
def unst : List Int → List Int × Nat
  | [] => ([], 0)
  | [x] => if x = 255 then ([], 0) else ([x], 1)
  | x :: y :: r => if x = 255 then (if y = 0 then (255 :: (unst r).1, (unst r).2 + 2) else ([], 0)) else (x :: (unst (y :: r)).1, (unst (y :: r)).2 + 1)

theorem unst_other (x : Int) (r : List Int) (h : x ≠ 255) : unst (x :: r) = (x :: (unst r).1, (unst r).2 + 1) := by
  cases r with
  | nil => simp [unst, h]
  | cons y r => rw [unst, if_neg h]

theorem unst_len (l : List Int) : (unst l).1.length ≤ (unst l).2 ∧ (unst l).2 ≤ l.length := by
  fun_induction unst l <;> simp_all <;> omega

/-- How far the list has been read behind some rounds. -/
def Upto (zs : List Int) (acc : List Int) (k : Nat) : Prop := (unst zs).1 = acc ++ (unst (zs.drop k)).1 ∧ (unst zs).2 = k + (unst (zs.drop k)).2

theorem upto_zero (zs : List Int) : Upto zs [] 0 := by simp [Upto]
theorem upto_other {zs acc : List Int} {k : Nat} (h : Upto zs acc k) (hk : k < zs.length) (hx : zs.getD k 0 ≠ 255) : Upto zs (acc ++ [zs.getD k 0]) (k + 1) := by
  unfold Upto at h ⊢
  rw [drop_at zs k hk, unst_other _ _ hx] at h
  refine ⟨by rw [h.1]; simp, by rw [h.2]; simp only; omega⟩
theorem upto_pair {zs acc : List Int} {k : Nat} (h : Upto zs acc k) (hk : k + 1 < zs.length) (hx : zs.getD k 0 = 255) (hy : zs.getD (k + 1) 0 = 0) : Upto zs (acc ++ [255]) (k + 2) := by
  unfold Upto at h ⊢
  rw [drop_at zs k (by omega), drop_at zs (k + 1) hk, hx, hy, unst, if_pos rfl, if_pos rfl, show k + 1 + 1 = k + 2 from rfl] at h
  refine ⟨by rw [h.1]; simp, by rw [h.2]; simp only; omega⟩
theorem upto_mark {zs acc : List Int} {k : Nat} (h : Upto zs acc k) (hk : k < zs.length) (hx : zs.getD k 0 = 255) (hy : k + 1 < zs.length → zs.getD (k + 1) 0 ≠ 0) : unst zs = (acc, k) := by
  unfold Upto at h
  have e : unst (zs.drop k) = ([], 0) := by
    rw [drop_at zs k hk, hx]
    by_cases h1 : k + 1 < zs.length
    · rw [drop_at zs (k + 1) h1, unst, if_pos rfl, if_neg (hy h1)]
    · rw [List.drop_of_length_le (by omega)]; simp [unst]
  rw [e] at h
  exact Prod.ext (by simpa using h.1) (by simpa using h.2)
theorem upto_end {zs acc : List Int} (h : Upto zs acc zs.length) : unst zs = (acc, zs.length) := by
  unfold Upto at h
  rw [List.drop_length] at h
  exact Prod.ext (by simpa [unst] using h.1) (by simpa [unst] using h.2)

/-- Whether a mark begins at a place. -/
def isMark (zs : List Int) (k : Nat) : Bool := decide (zs.getD k 0 = 255 ∧ (k + 1 < zs.length → zs.getD (k + 1) 0 ≠ 0))

set_option maxHeartbeats 800000 in
theorem implMarkAt (ao : Option Addr) (n cap : Nat) (zs : List Int) (k : Nat) (w : World) (hr : Rd .u8 w ao n zs) (hn : n ≤ 4194304) (hk : k < n) :
    Calls Tryd.prog 52 #[.slice ao n cap, .int .i64 k] w fun e w' => e = .returned (.bool (isMark zs k)) ∧ w' = w := by
  obtain ⟨hl, hc⟩ := hr
  obtain ⟨b, off, rfl, hcb⟩ := hc k hk
  by_cases hx : zs.getD k 0 = 255
  · rw [hx] at hcb
    by_cases hp1 : k + 1 < n
    · obtain ⟨b', off', hao, hcb'⟩ := hc (k + 1) hp1
      simp at hao
      obtain ⟨rfl, rfl⟩ := hao
      have hcell2 : w.cell? ⟨b, off + (k + 1), none⟩ = some (.int .u8 (zs.getD (k + 1) 0)) := hcb'
      have hne : ((k : Int) + 1 == (n : Int)) = false := by simp; omega
      by_cases hy : zs.getD (k + 1) 0 = 0
      · have HM : Hid (isMark zs k = false) := by simp only [Hid, isMark, hx, hy]; simp; omega
        rw [hy] at hcell2
        clear hc hcb' hx hy
        go_enter Tryd.func52, Tryd.ntmps52
        go_wp2
        go_ret
        exact ⟨by rw [unhide HM]; rfl, rfl⟩
      · have HM : Hid (isMark zs k = true) := by exact decide_eq_true ⟨hx, fun _ => hy⟩
        have hyb : (zs.getD (k + 1) 0 != 0) = true := by rw [bne_iff_ne]; exact hy
        clear hc hcb' hx hy
        generalize zs.getD (k + 1) 0 = y at hcell2 hyb
        go_enter Tryd.func52, Tryd.ntmps52
        go_wp2
        go_ret
        exact ⟨by rw [unhide HM]; first | rfl | simp [hyb], rfl⟩
    · have hne : ((k : Int) + 1 == (n : Int)) = true := by simp; omega
      have HM : Hid (isMark zs k = true) := by exact decide_eq_true ⟨hx, fun h => by omega⟩
      clear hc hx
      go_enter Tryd.func52, Tryd.ntmps52
      go_wp2
      go_ret
      exact ⟨by rw [unhide HM]; rfl, rfl⟩
  · have HM : Hid (isMark zs k = false) := by simp only [Hid, isMark]; simp; intro h; simp at hx; exact absurd h hx
    have hxb : (zs.getD k 0 != 255) = true := by rw [bne_iff_ne]; exact hx
    clear hc hx
    generalize zs.getD k 0 = x at hcb hxb
    go_enter Tryd.func52, Tryd.ntmps52
    go_wp2
    go_ret
    exact ⟨by rw [unhide HM]; rfl, rfl⟩

set_option maxHeartbeats 1600000 in
theorem implUnstuff (ao : Option Addr) (n cap : Nat) (zs : List Int) (w : World) (hr : Rd .u8 w ao n zs) (hn : n ≤ 4194304) :
    Calls Tryd.prog 51 #[.slice ao n cap] w fun e w' => ∃ bo cap', e = .returned (.tuple #[.slice bo (unst zs).1.length cap', .int .i64 (unst zs).2]) ∧
      w'.ownsRow w.heap.size 5 1 (.slice bo (unst zs).1.length cap') (unst zs).1.length ((unst zs).1.map (Value.int .u8)) ∧ w.grownBy w' none := by
  obtain ⟨i0, hi, hz0, hz1, hz2⟩ := info_parts Tryd.info5
  have hr0 := hide hr
  obtain ⟨hl, hc⟩ := hr
  go_enter Tryd.func51, Tryd.ntmps51
  go_wp2
  go_loopw [4, 5] (fun v i wr => ∃ (acc : List Int) (k : Nat), k ≤ n ∧ acc.length ≤ k ∧ i = .int .i64 k ∧ Upto zs acc k ∧ wr.ownsRow w.heap.size 5 1 v acc.length (acc.map (Value.int .u8)) ∧ w.grownBy wr none) (fun _ i _ => n - (intOf i).toNat)
  case atStart => exact ⟨[], 0, Nat.zero_le _, Nat.le_refl _, rfl, upto_zero zs, World.ownsRow_nil _ _ _ _, World.grownBy.refl _ _⟩
  case round =>
    obtain ⟨acc, k, hk, hak, rfl, hup, hownk, hgk⟩ := hrel
    by_cases hlt : k < n
    · obtain ⟨b, off, rfl, hcb⟩ := hc k hlt
      have hcell := hgk.cell hcb (by simp)
      by_cases hmk : zs.getD k 0 = 255 ∧ (k + 1 < zs.length → zs.getD (k + 1) 0 ≠ 0)
      · have HF := hide (upto_mark hup (by omega) hmk.1 hmk.2)
        have HM : Hid (isMark zs k = true) := by exact decide_eq_true hmk
        obtain ⟨bo, cap', rfl⟩ := own_form hownk
        clear hmk hup hcb hc
        go_wp2_with fail
        refine (implMarkAt _ n cap zs k _ ((unhide hr0).grown hgk) hn hlt).mono ?_
        rintro e w1 ⟨rfl, rfl⟩
        rw [unhide HM]
        go_wp2
        go_ret2
        exact ⟨bo, cap', by rw [unhide HF]; rfl, by rw [unhide HF]; exact hownk, hgk⟩
      · have HM : Hid (isMark zs k = false) := by exact decide_eq_false hmk
        by_cases hx : zs.getD k 0 = 255
        · have hp1 : k + 1 < zs.length := by
            apply Classical.byContradiction
            intro h
            exact hmk ⟨hx, fun h' => absurd h' h⟩
          have hy : zs.getD (k + 1) 0 = 0 := by
            apply Classical.byContradiction
            intro h
            exact hmk ⟨hx, fun _ => h⟩
          have HU := hide (upto_pair hup hp1 hx hy)
          rw [hx] at hcell hcb
          clear hmk hup hc hx hy
          go_wp2_with fail
          refine (implMarkAt _ n cap zs k _ ((unhide hr0).grown hgk) hn hlt).mono ?_
          rintro e w0 ⟨rfl, rfl⟩
          rw [unhide HM]
          go_wp2_with (at_builtin; refine wpList_append_own _ rfl _ _ 22 rfl w.heap.size 5 i0 (.int .u8 0) 1 1 Tryd.underlying22 hi hz0 hz1 hz2 rfl (by decide) _ _ _ rfl (hownk.alloc _) ⟨w0.heap.size, 0, none⟩ 1 1 [.int .u8 255] rfl rfl (cell_one_new _ _ _) ?d2 ?d3 ?d4 ?d5 ?_)
          case d2 => first | rfl | (intro u hu; simp at hu; subst hu; rfl)
          case d3 => unfold maxLen; omega
          case d4 => omega
          case d5 => have := hgk.size; simp; omega
          intro v' w1 hown' hgrow _
          have hg1 := grown_new (grown_trans hgk (World.grownBy_alloc _ _ _)) hgrow (fun g e => (hownk.lt g e).1)
          have hcell1 := hg1.cell hcb (by simp)
          have hR : w1.ownsRow w.heap.size 5 1 v' (acc ++ [255]).length ((acc ++ [255]).map (Value.int .u8)) := by
            rw [List.length_append, List.map_append]; exact hown'
          clear hown' hgrow hownk hgk hcell
          go_wp2
          go_roundw
          case rel => exact ⟨acc ++ [255], k + 2, by omega, by simp; omega, by go_num, unhide HU, hR, hg1⟩
          case measure => simp [intOf]; omega
        · have hxb : (zs.getD k 0 == 255) = false := by simpa using hx
          have HU := hide (upto_other hup (by omega) hx)
          clear hmk hup hx hc
          go_wp2_with fail
          refine (implMarkAt _ n cap zs k _ ((unhide hr0).grown hgk) hn hlt).mono ?_
          rintro e w0 ⟨rfl, rfl⟩
          rw [unhide HM]
          generalize zs.getD k 0 = x at hcell hxb HU hcb
          go_wp2_with (at_builtin; refine wpList_append_own _ rfl _ _ 22 rfl w.heap.size 5 i0 (.int .u8 0) 1 1 Tryd.underlying22 hi hz0 hz1 hz2 rfl (by decide) _ _ _ rfl (hownk.alloc _) ⟨w0.heap.size, 0, none⟩ 1 1 [.int .u8 x] rfl rfl (cell_one_new _ _ _) ?e2 ?e3 ?e4 ?e5 ?_)
          case e2 => first | rfl | (intro u hu; simp at hu; subst hu; rfl)
          case e3 => unfold maxLen; omega
          case e4 => omega
          case e5 => have := hgk.size; simp; omega
          intro v' w1 hown' hgrow _
          have hg1 := grown_new (grown_trans hgk (World.grownBy_alloc _ _ _)) hgrow (fun g e => (hownk.lt g e).1)
          have hcell1 := hg1.cell hcb (by simp)
          have hR : w1.ownsRow w.heap.size 5 1 v' (acc ++ [x]).length ((acc ++ [x]).map (Value.int .u8)) := by
            rw [List.length_append, List.map_append]; exact hown'
          clear hown' hgrow hownk hgk hcell
          go_wp2
          go_roundw
          case rel => exact ⟨acc ++ [x], k + 1, by omega, by simp; omega, by go_num, unhide HU, hR, hg1⟩
          case measure => simp [intOf]; omega
    · have hkn : k = n := by omega
      subst hkn
      rw [← hl] at hup
      have HF := hide (upto_end hup)
      obtain ⟨bo, cap', rfl⟩ := own_form hownk
      clear hup
      go_wp2
      go_ret2
      exact ⟨bo, cap', by rw [unhide HF, hl]; rfl, by rw [unhide HF]; exact hownk, hgk⟩

end Go.Proofs.YticecjodbhhcfaaDoor
