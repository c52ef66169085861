/-
  The walks of the law's own comparing, marking and looking for marks, on rows of segments.
-/
import Derived.Test.YtcmgmffjnhdbfahDoorSegRows
namespace Go.Proofs.YtcmgmffjnhdbfahDoor
open Go.RowKit

set_option maxHeartbeats 800000 in
theorem eqSeg (m : Int) (ao bo : Option Addr) (n c c' : Nat) (zs : List Int) (w : World) (hx : Rd .u8 w ao n zs) (hy : Rd .u8 w bo n zs) (hn : n ≤ 4194304) :
    Calls Tryd.prog 17 #[.agg #[.int .i64 m, .slice ao n c], .agg #[.int .i64 m, .slice bo n c']] w fun e w' => e = .returned (.bool true) ∧ w.grownBy w' none := by
  have HX := hide hx
  have HY := hide hy
  clear hx hy
  have G : Hid (w.grownBy ((w.alloc (.cells #[.int .i64 m, .slice ao n c] 36)).alloc (.cells #[.int .i64 m, .slice bo n c'] 36)) none) := grown_alloc (grown_alloc (World.grownBy.refl _ _) _) _
  go_enter Tryd.func17, Tryd.ntmps17
  go_wp2_with fail
  refine (eqByteS ao bo n c c' zs _ ((unhide HX).grown (unhide G)) ((unhide HY).grown (unhide G)) hn).mono ?_
  rintro e w1 ⟨rfl, g1⟩
  go_wp2
  go_ret
  exact ⟨rfl, grown_trans (unhide G) g1⟩

set_option maxHeartbeats 800000 in
theorem eqSegS (ao bo : Option Addr) (n cap cap' : Nat) (ss : List (Int × List Int)) (w : World) (hx : RdS w ao n ss) (hy : RdS w bo n ss) (hn : n ≤ 4194304) (hd : ∀ i, i < n → (ss.getD i (0, [])).2.length ≤ 4194304) :
    Calls Tryd.prog 7 #[.slice ao n cap, .slice bo n cap'] w fun e w' => e = .returned (.bool true) ∧ w.grownBy w' none := by
  obtain ⟨hl, hc⟩ := hx
  obtain ⟨_, hd2⟩ := hy
  have HD := hide hd
  clear hd
  have hne : ((n : Int) != n) = false := by simp
  go_enter Tryd.func7, Tryd.ntmps7
  go_wp2
  go_loopw [5] (fun i wr => ∃ k : Nat, k ≤ n ∧ i = .int .i64 k ∧ w.grownBy wr none) (fun i _ => n - (intOf i).toNat)
  case atStart => exact ⟨0, Nat.zero_le _, rfl, World.grownBy.refl _ _⟩
  case round =>
    obtain ⟨k, hk, rfl, hgk⟩ := hrel
    by_cases hlt : k < n
    · obtain ⟨b, off, d1, e1, rfl, hc1, hc2, hr1, _⟩ := hc k hlt
      obtain ⟨b', off', d2, e2, rfl, hd1', hd2', hr2, _⟩ := hd2 k hlt
      have hca := hgk.cell hc1 (by simp)
      have hcb := hgk.cell hc2 (by simp)
      have hda := hgk.cell hd1' (by simp)
      have hdb := hgk.cell hd2' (by simp)
      have hr1' := hr1.grown (grown_drew hgk)
      have hr2' := hr2.grown (grown_drew hgk)
      have hdk := unhide HD k hlt
      clear hc hd2 hc1 hc2 hd1' hd2' hr1 hr2
      obtain ⟨⟨mk, bk⟩, hf⟩ : ∃ f, ss.getD k (0, []) = f := ⟨_, rfl⟩
      rw [hf] at hca hcb hda hdb hr1' hr2' hdk
      dsimp only at hca hcb hda hdb hr1' hr2' hdk
      clear hf
      have hik : (k : Int) < (n : Int) := by omega
      go_wp2
      go_region_with (go_at_call 17; refine (eqSeg mk d1 d2 _ _ _ bk _ hr1' hr2' hdk).mono ?_; rintro e w2 ⟨rfl, g2⟩)
      all_goals
        go_wp2
        go_roundw
        case rel => exact ⟨k + 1, by omega, by go_num, grown_trans (grown_drew hgk) g2⟩
        case measure => simp [intOf]; omega
    · go_wp2
      go_ret
      exact ⟨rfl, hgk⟩

/-- The mark that comes next behind i segments. -/
def posK (k : Int) (ln : Nat → Nat) : Nat → Int
  | 0 => k
  | i + 1 => posK k ln i + 1 + ln i
theorem posK_mono (k : Int) (ln : Nat → Nat) (i : Nat) : ∀ j, i ≤ j → posK k ln i ≤ posK k ln j := by
  intro j h
  induction j with
  | zero => obtain rfl : i = 0 := by omega
            exact Int.le_refl _
  | succ j ih =>
    by_cases e : i = j + 1
    · subst e; exact Int.le_refl _
    · have := ih (by omega)
      rw [posK]; omega
/-- Segments that are marked all over. -/
def markedS (k : Int) (ln : Nat → Nat) (n : Nat) : List (Int × List Int) := (List.range n).map (fun i => (posK k ln i, marks .u8 (posK k ln i + 1) (ln i)))
theorem markedS_get (k : Int) (ln : Nat → Nat) (n i : Nat) (h : i < n) : (markedS k ln n).getD i (0, []) = (posK k ln i, marks .u8 (posK k ln i + 1) (ln i)) := by simp [markedS, h]
theorem markedS_len (k : Int) (ln : Nat → Nat) (n : Nat) : (markedS k ln n).length = n := by simp [markedS]

set_option maxHeartbeats 800000 in
theorem heldSegS (ao : Option Addr) (n cap : Nat) (k0 : Int) (ln : Nat → Nat) (w : World) (hr : RdS w ao n (markedS k0 ln n)) (hn : n ≤ 4194304) (h0 : 0 ≤ k0) (h1 : posK k0 ln n ≤ 1073741824) (hln : ∀ i, i < n → ln i ≤ 4194304) :
    Calls Tryd.prog 12 #[.slice ao n cap, .int .i64 k0] w fun e w' => e = .returned (.int .i64 (posK k0 ln n)) ∧ w.grownBy w' none := by
  obtain ⟨hl, hc⟩ := hr
  have HLN := hide hln
  have H1 := hide h1
  clear hln h1
  go_enter Tryd.func12, Tryd.ntmps12
  go_wp2
  go_loopw [1, 5] (fun c i wr => ∃ k : Nat, k ≤ n ∧ i = .int .i64 k ∧ c = .int .i64 (posK k0 ln k) ∧ w.grownBy wr none) (fun _ i _ => n - (intOf i).toNat)
  case atStart => exact ⟨0, Nat.zero_le _, rfl, rfl, World.grownBy.refl _ _⟩
  case round =>
    obtain ⟨k, hk, rfl, rfl, hgk⟩ := hrel
    by_cases hlt : k < n
    · obtain ⟨b, off, d1, e1, rfl, hc1, hc2, hr1, _⟩ := hc k hlt
      rw [markedS_get k0 ln n k hlt] at hc1 hc2 hr1
      dsimp only at hc1 hc2 hr1
      rw [marks_len] at hc2 hr1
      have hca := hgk.cell hc1 (by simp)
      have hcb := hgk.cell hc2 (by simp)
      have hr1' := hr1.grown hgk
      have hb1 := unhide HLN k hlt
      have hp0 := posK_mono k0 ln 0 k (by omega)
      have hp1 := posK_mono k0 ln (k + 1) n hlt
      have HP : Hid (posK k0 ln (k + 1) = posK k0 ln k + 1 + ln k) := rfl
      rw [unhide HP] at hp1
      have hub : posK k0 ln k + 1 + ln k ≤ 1073741824 := by have := unhide H1; omega
      have hlb : 0 ≤ posK k0 ln k := by have : posK k0 ln 0 = k0 := rfl; omega
      clear hc hc1 hc2 hr1 hp0 hp1
      generalize posK k0 ln k = q at *
      generalize ln k = lk at *
      have hnn : decide (q + 1 + (lk : Int) < 0) = false := by simp; omega
      go_wp2_with fail
      refine (heldByteS d1 lk e1 (q + 1) wr hr1' hb1 (by omega) (by omega)).mono ?_
      rintro e w2 ⟨rfl, g2⟩
      have hg2 := grown_trans hgk g2
      clear hgk g2 hr1' hca hcb
      go_wp2
      go_roundw
      case rel => exact ⟨k + 1, by omega, by go_num, by rw [unhide HP], hg2⟩
      case measure => simp [intOf]; omega
    · have hkn : k = n := by omega
      subst hkn
      go_wp2
      go_ret
      exact ⟨rfl, hgk⟩

theorem Dat.congr {w : World} {lo hi k : Nat} {ds ds' : Nat → List Int} {d : Nat → Value} (h : Dat w lo hi ds d k) (he : ∀ i, i < k → ds i = ds' i) : Dat w lo hi ds' d k := by
  intro i hi'
  rw [← he i hi']
  exact h i hi'
/-- Rows of two types are two rows. -/
theorem own_types {w : World} {b b' s s' n n' : Nat} {e e' : TypeId} {v v' : Value} {xs xs' : List Value} (h : w.ownsRow b e s v n xs) (h' : w.ownsRow b' e' s' v' n' xs') (hne : e ≠ e') : ∀ g g', v.ownBlock = some g → v'.ownBlock = some g' → g ≠ g' := by
  intro g g' hg hg' e0
  subst e0
  rcases h.2 with ⟨hv, _⟩ | ⟨q, _, _, hv, _, hh, _⟩
  · rw [hv] at hg; simp [Value.ownBlock] at hg
  · rcases h'.2 with ⟨hv', _⟩ | ⟨q', _, _, hv', _, hh', _⟩
    · rw [hv'] at hg'; simp [Value.ownBlock] at hg'
    · rw [hv] at hg; rw [hv'] at hg'
      simp [Value.ownBlock] at hg hg'
      subst hg; subst hg'
      rw [hh] at hh'
      simp at hh'
      exact hne hh'.2
/-- The data of one segment written anew. -/
theorem Dat.mark {w w' : World} {lo hi n k : Nat} {ds : Nat → List Int} {d : Nat → Value} {ys : List Int} (h : Dat w lo hi ds d n) (hk : k < n) (hg : w.grownBy w' (d k).ownBlock) (ho : w'.ownsRow lo 5 1 (d k) ys.length (ys.map (Value.int .u8))) : Dat w' lo hi (fun i => if i = k then ys else ds i) d n := by
  intro i hi'
  by_cases e : i = k
  · subst e
    simp only [if_true]
    exact ⟨ho, (h i hi').2⟩
  · simp only [if_neg e]
    refine ⟨own_beneath (h i hi').1 hg (fun g g' h1 h2 he => ?_), (h i hi').2⟩
    subst he
    rcases Nat.lt_or_ge i k with hlt | hge
    · exact ((h k hk).2 g h2).2 i hlt h1
    · exact ((h i hi').2 g h1).2 k (by omega) h2

set_option maxHeartbeats 1600000 in
theorem markSegS (ao : Option Addr) (n cap lo hi : Nat) (ss : List (Int × List Int)) (k0 : Int) (w : World) (ho : OwnS w lo hi (.slice ao n cap) ss) (hn : n ≤ 4194304) (h0 : 0 ≤ k0)
    (h1 : posK k0 (fun i => (ss.getD i (0, [])).2.length) n ≤ 1073741824) (hln : ∀ i, i < n → (ss.getD i (0, [])).2.length ≤ 4194304) :
    Calls Tryd.prog 11 #[.slice ao n cap, .int .i64 k0] w fun e w' => e = .returned (.int .i64 (posK k0 (fun i => (ss.getD i (0, [])).2.length) n)) ∧
      OwnS w' lo hi (.slice ao n cap) (markedS k0 (fun i => (ss.getD i (0, [])).2.length) n) ∧ Kp lo hi w w' := by
  obtain ⟨d, o1, o2, o3⟩ := ho
  obtain ⟨_, _, e⟩ := own_form o1
  simp only [Value.slice.injEq] at e
  have hnl : ss.length = n := e.2.1.symm
  clear e
  rw [hnl] at o1 o3
  have HLN := hide hln
  have H1 := hide h1
  have HO2 := hide o2
  clear hln h1 o2
  generalize hlnf : (fun i => (ss.getD i (0, [])).2.length) = ln at *
  have HLF : ∀ i, (ss.getD i (0, [])).2.length = ln i := fun i => by rw [← hlnf]
  have HL := hide HLF
  clear HLF hlnf
  have o1' : w.ownsRow lo 36 2 (.slice ao n cap) n (rowsK n 2 (fun i j => if j = 0 then .int .i64 (if i < 0 then posK k0 ln i else (ss.getD i (0, [])).1) else d i)) := by
    have e : rowsK n 2 (fun i j => if j = 0 then .int .i64 (if i < 0 then posK k0 ln i else (ss.getD i (0, [])).1) else d i) = rowsK n 2 (segCells ss d) := rowsK_congr (fun i j _ _ => by simp [segCells])
    rw [e]; exact o1
  have o3' : Dat w lo hi (fun i => if i < 0 then marks .u8 (posK k0 ln i + 1) (ln i) else (ss.getD i (0, [])).2) d n := o3.congr (fun i _ => by simp)
  clear o1 o3
  go_enter Tryd.func11, Tryd.ntmps11
  go_wp2
  go_loopw [1, 5] (fun c i wr => ∃ k : Nat, k ≤ n ∧ i = .int .i64 k ∧ c = .int .i64 (posK k0 ln k) ∧ wr.ownsRow lo 36 2 (.slice ao n cap) n (rowsK n 2 (fun i j => if j = 0 then .int .i64 (if i < k then posK k0 ln i else (ss.getD i (0, [])).1) else d i)) ∧ Dat wr lo hi (fun i => if i < k then marks .u8 (posK k0 ln i + 1) (ln i) else (ss.getD i (0, [])).2) d n ∧ Kp lo hi w wr) (fun _ i _ => n - (intOf i).toNat)
  case atStart => exact ⟨0, Nat.zero_le _, rfl, rfl, o1', o3', Kp.refl _ _ _⟩
  case round =>
    obtain ⟨k, hk, rfl, rfl, hok, hda, hkp⟩ := hrel
    clear o1' o3'
    by_cases hlt : k < n
    · obtain ⟨g, rfl, hg1, hg2⟩ := own_at hok (by omega)
      have hghi := unhide HO2 g rfl
      have hb1 := unhide HLN k hlt
      rw [unhide HL k] at hb1
      have hp0 := posK_mono k0 ln 0 k (by omega)
      have hp1 := posK_mono k0 ln (k + 1) n hlt
      have HP : Hid (posK k0 ln (k + 1) = posK k0 ln k + 1 + ln k) := rfl
      rw [unhide HP] at hp1
      have hub : posK k0 ln k + 1 + ln k ≤ 1073741824 := by have := unhide H1; omega
      have hlb : 0 ≤ posK k0 ln k := by have : posK k0 ln 0 = k0 := rfl; omega
      have hfro := hok.frozenAt (k * 2)
      have hc0 : ∃ u, wr.cell? ⟨g, k * 2, none⟩ = some u := by rw [hok.cellAt _ (by omega)]; exact ⟨_, List.getElem?_eq_getElem (by rw [hok.1]; omega)⟩
      obtain ⟨u1, hu1⟩ := hc0
      have hdk := (hda k hlt).1
      have hdk2 := (hda k hlt).2
      simp only [if_neg (Nat.lt_irrefl k)] at hdk
      rw [unhide HL k] at hdk
      obtain ⟨dd, dc, hdd⟩ := own_form hdk
      have hc1 : wr.cell? ⟨g, k * 2 + 1, none⟩ = some (.slice dd (ln k) dc) := by
        rw [hok.cellAt _ (by omega), rowsK_get n 2 _ k 1 hlt (by omega), ← hdd]; rfl
      have hty := own_types hok hdk (by decide)
      -- the mark is stored
      have hst := hok.stored (k * 2) (.int .i64 (posK k0 ln k))
      have eR : (rowsK n 2 (fun i j => if j = 0 then Value.int .i64 (if i < k then posK k0 ln i else (ss.getD i (0, [])).1) else d i)).set (k * 2) (.int .i64 (posK k0 ln k)) =
          rowsK n 2 (fun i j => if j = 0 then Value.int .i64 (if i < k + 1 then posK k0 ln i else (ss.getD i (0, [])).1) else d i) := by
        have h := rowsK_set n 2 (fun i j => if j = 0 then Value.int .i64 (if i < k then posK k0 ln i else (ss.getD i (0, [])).1) else d i) k 0 (.int .i64 (posK k0 ln k)) (by omega)
        rw [Nat.add_zero] at h
        rw [h]
        apply rowsK_congr
        intro i j _ hj
        have hj2 : j = 0 ∨ j = 1 := by omega
        rcases hj2 with rfl | rfl
        · by_cases e1 : i = k
          · subst e1; simp
          · by_cases e2 : i < k
            · simp [e1, e2, show i < k + 1 by omega]
            · simp [e1, e2, show ¬ i < k + 1 by omega]
        · simp
      rw [eR] at hst
      have hdw : Dat (wr.setCell ⟨g, k * 2, none⟩ (.int .i64 (posK k0 ln k))) lo hi (fun i => if i < k then marks .u8 (posK k0 ln i + 1) (ln i) else (ss.getD i (0, [])).2) d n := fun i hi' =>
        ⟨own_sameAt (hda i hi').1 (fun q hq => Below.heap_setCell _ _ _ _ (by show q ≠ g; exact Ne.symm (own_types hok (hda i hi').1 (by decide) g q rfl hq))), (hda i hi').2⟩
      have hdkw : (wr.setCell ⟨g, k * 2, none⟩ (.int .i64 (posK k0 ln k))).ownsRow lo 5 1 (.slice dd (ln k) dc) (ln k) ((ss.getD k (0, [])).2.map (Value.int .u8)) := by
        have := (hdw k hlt).1
        simp only [if_neg (Nat.lt_irrefl k)] at this
        rw [unhide HL k, hdd] at this
        exact this
      have hkp1 := hkp.trans (Kp.of (lo := lo) (hi := hi) hst.2 (fun q e => by simp at e; omega))
      have HST := hide hst.1
      have HDW := hide hdw
      have HDD := hide hdd
      have HDK2 := hide hdk2
      clear hst hda hok hkp hp0 hp1 hdk hdd hdw hdk2 eR hty
      generalize hq : posK k0 ln k = q at *
      generalize hlk : ln k = lk at *
      have HQ := hide hq
      have HLK := hide hlk
      clear hq hlk
      go_wp2_with fail
      refine (markByteS dd lk dc lo _ (q + 1) _ hdkw hb1 (by omega) (by omega)).mono ?_
      rintro e w2 ⟨rfl, om, gm⟩
      have hdm : Dat w2 lo hi (fun i => if i < k + 1 then marks .u8 (posK k0 ln i + 1) (ln i) else (ss.getD i (0, [])).2) d n := by
        have h := (unhide HDW).mark hlt (ys := marks .u8 (q + 1) lk) (w' := w2) (by rw [unhide HDD]; exact gm) (by rw [marks_len, unhide HDD]; exact om)
        refine h.congr (fun i _ => ?_)
        by_cases e1 : i = k
        · subst e1; simp [unhide HQ, unhide HLK]
        · by_cases e2 : i < k
          · simp [e1, e2, show i < k + 1 by omega]
          · simp [e1, e2, show ¬ i < k + 1 by omega]
      have hom := own_beneath (unhide HST) gm (own_types (unhide HST) hdkw (by decide))
      have hkp2 := hkp1.trans (Kp.of (lo := lo) (hi := hi) gm (fun q e => ⟨(hdkw.lt q e).1, (unhide HDK2 q (by rw [unhide HDD]; exact e)).1⟩))
      have HOM := hide hom
      have HDM := hide hdm
      clear hdkw om gm hkp1 hom hdm HST HDW hu1 hc1
      go_wp2
      go_roundw
      case rel => exact ⟨k + 1, by omega, by go_num, by rw [unhide HP], unhide HOM, unhide HDM, hkp2⟩
      case measure => simp [intOf]; omega
    · have hkn : k = n := by omega
      subst hkn
      go_wp2
      go_ret
      refine ⟨rfl, ⟨d, ?_, unhide HO2, ?_⟩, hkp⟩
      · rw [markedS_len]
        have e : rowsK k 2 (segCells (markedS k0 ln k) d) = rowsK k 2 (fun i j => if j = 0 then .int .i64 (if i < k then posK k0 ln i else (ss.getD i (0, [])).1) else d i) := rowsK_congr (fun i j hi' _ => by
          unfold segCells; rw [markedS_get k0 ln k i hi', if_pos hi'])
        rw [e]; exact hok
      · rw [markedS_len]
        exact hda.congr (fun i hi' => by rw [markedS_get k0 ln k i hi', if_pos hi'])

end Go.Proofs.YtcmgmffjnhdbfahDoor
