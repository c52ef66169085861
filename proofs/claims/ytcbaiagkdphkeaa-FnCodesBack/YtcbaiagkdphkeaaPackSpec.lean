/-
  The walks of the specification's PackBits.
-/
import Derived.Test.YtcbaiagkdphkeaaSame
import Derived.Test.YtcbaiagkdphkeaaFieldsOk
import Derived.Test.YtcbaiagkdphkeaaPackPure
import Derived.Deep.RegionWith
namespace Go.Proofs.Ytcbaiagkdphkeaa
open Go.RowKit

theorem Try.info4 : (Try.prog.info? 4).map (fun i => (i.zero, i.size, i.bytes)) = some (some (.bool false), 1, 1) := by kernel_rfl

/-- A row of bools: cell i holds bit i. -/
theorem own_bit {w : World} {base n cap : Nat} {e : TypeId} {ao : Option Addr} {bs : List Bool} (h : w.ownsRow base e 1 (.slice ao n cap) n (bs.map Value.bool)) (i : Nat) (hi : i < n) :
    ∃ g, ao = some ⟨g, 0, none⟩ ∧ w.cell? ⟨g, i, none⟩ = some (.bool (bs.getD i true)) := by
  have hl : bs.length = n := by have := h.1; simpa using this
  obtain ⟨g, rfl, _, _⟩ := own_at h (by omega)
  refine ⟨g, rfl, ?_⟩
  rw [h.cellAt i (by omega)]
  simp [show i < bs.length by omega]

set_option maxRecDepth 20000 in
set_option maxHeartbeats 800000 in
theorem specBits (v : Value) (base : Nat) (acc : List Bool) (l : Nat) (y : Int) (w : World) (ho : w.ownsRow base 4 1 v acc.length (acc.map Value.bool)) (hb : base ≤ w.heap.size) (hacc : acc.length ≤ 480000) (hl : l ≤ 16) (hy0 : 0 ≤ y) (hy1 : y < 65536) :
    Calls Try.prog 62 #[v, .int .i64 l, .int .i64 y] w fun e w' => ∃ v', e = .returned v' ∧ w'.ownsRow base 4 1 v' (acc ++ bitsOf l y).length ((acc ++ bitsOf l y).map Value.bool) ∧ ∀ B, B ≤ base → Below B w w' := by
  obtain ⟨i0, hi, hz0, hz1, hz2⟩ := info_parts Try.info4
  go_enter Try.func62, Try.ntmps62
  go_wp2
  go_loopw [0, 7] (fun u i wr => ∃ j : Nat, j ≤ l ∧ i = .int .i64 ((l : Int) - 1 - j) ∧ wr.ownsRow base 4 1 u (acc ++ (bitsOf l y).take j).length ((acc ++ (bitsOf l y).take j).map Value.bool) ∧ (∀ B, B ≤ base → Below B w wr)) (fun _ i _ => (intOf i + 1).toNat)
  case atStart => exact ⟨0, Nat.zero_le _, by go_num, by simpa using ho, fun B _ => Below.refl _ _⟩
  case round =>
    obtain ⟨j, hj, rfl, hok, hbl⟩ := hrel
    have hlen : (acc ++ (bitsOf l y).take j).length ≤ 480016 := by rw [List.length_append, List.length_take, bitsOf_len]; omega
    by_cases hlt : j < l
    · have HT := hide (bitsOf_take l y j hlt)
      have hs := shr_small y hy0 hy1 (l - 1 - j)
      have hge : decide (0 ≤ (l : Int) - 1 - j) = true := by simp; omega
      clear ho
      generalize (bitsOf l y).take j = cur at *
      have hbit : Hid ((bits BinOp.and IntKind.i64 (y / 2 ^ (l - 1 - j)) 1 == 1) = decide (y / 2 ^ (l - 1 - j) % 2 = 1)) := by
        unfold Hid; rw [and1_i64 _ hs.1 (by omega)]; rfl
      have hsz := (hbl base (Nat.le_refl _)).size
      go_wp2_with (at_builtin; refine wpList_append_own _ rfl _ _ 86 rfl base 4 i0 (.bool false) 1 1 Try.underlying86 hi hz0 hz1 hz2 rfl (by decide) _ _ _ rfl (hok.alloc _) ⟨wr.heap.size, 0, none⟩ 1 1 [.bool (bits BinOp.and IntKind.i64 (y / 2 ^ (l - 1 - j)) 1 == 1)] rfl rfl (cell_one_new _ _ _) ?d2 ?d3 ?d4 ?d5 ?_)
      case d2 => first | rfl | (intro u hu; simp at hu; subst hu; rfl)
      case d3 => unfold maxLen; omega
      case d4 => omega
      case d5 => simp; omega
      intro v' w1 hown' hgrow _
      have hR : w1.ownsRow base 4 1 v' (acc ++ (cur ++ [decide (y / 2 ^ (l - 1 - j) % 2 = 1)])).length ((acc ++ (cur ++ [decide (y / 2 ^ (l - 1 - j) % 2 = 1)])).map Value.bool) := by
        rw [unhide hbit] at hown'
        simpa [Nat.add_assoc] using hown'
      have hbl1 : ∀ B, B ≤ base → Below B w w1 := fun B hB => ((hbl B hB).alloc (by omega) _).grown hgrow (by simp; omega) (fun k e => by have := (hok.lt k e).1; omega)
      clear hown' hgrow hok hbl
      go_wp2
      go_roundw
      case rel => exact ⟨j + 1, by omega, by go_num, by rw [unhide HT]; exact hR, hbl1⟩
      case measure => simp [intOf]; omega
    · have hjl : j = l := by omega
      subst hjl
      have e : (bitsOf j y).take j = bitsOf j y := List.take_of_length_le (by rw [bitsOf_len]; exact Nat.le_refl _)
      rw [e] at hok
      clear e ho
      go_wp2
      go_ret
      exact ⟨_, rfl, hok, hbl⟩

set_option maxRecDepth 20000 in
set_option maxHeartbeats 1600000 in
theorem specPack (ao : Option Addr) (n cap base : Nat) (bs : List Bool) (w : World) (ho : w.ownsRow base 4 1 (.slice ao n cap) n (bs.map Value.bool)) (hn : n ≤ 480000) :
    Calls Try.prog 63 #[.slice ao n cap] w fun e w' => ∃ bo cap', e = .returned (.slice bo (packB bs).length cap') ∧
      w'.ownsRow w.heap.size 5 1 (.slice bo (packB bs).length cap') (packB bs).length ((packB bs).map (Value.int .u8)) ∧ w.grownBy w' none := by
  obtain ⟨i0, hi, hz0, hz1, hz2⟩ := info_parts Try.info5
  have hl : bs.length = n := by have := ho.1; simpa using this
  have HO := hide ho
  have hown0 : (w.alloc (.cells #[] 5)).ownsRow w.heap.size 5 1 (.slice (some ⟨w.heap.size, 0, none⟩) 0 0) 0 [] := World.ownsRow_lit w #[] 0 (Nat.le_refl _) (by unfold maxLen; omega) rfl
  have hg0 : w.grownBy (w.alloc (.cells #[] 5)) none := World.grownBy_alloc _ _ _
  clear ho
  go_enter Try.func63, Try.ntmps63
  go_wp2
  go_loopw [3, 4] (fun v i wr => ∃ t : Nat, t ≤ (n + 7) / 8 ∧ i = .int .i64 (8 * t) ∧ wr.ownsRow w.heap.size 5 1 v t (((List.range t).map (fun i => byteAt bs (8 * i))).map (Value.int .u8)) ∧ w.grownBy wr none) (fun _ i _ => n + 8 - (intOf i).toNat)
  case atStart => exact ⟨0, Nat.zero_le _, rfl, hown0, hg0⟩
  case round =>
    obtain ⟨t, ht, rfl, hok, hgk⟩ := hrel
    clear hown0 hg0
    by_cases hlt : 8 * t < n
    · have hbb := byteAt_bound bs (8 * t)
      go_wp2
      go_loop [5, 6] (fun x k => ∃ j : Nat, j ≤ 8 ∧ k = .int .i64 j ∧ x = .int .i64 (byteK bs (8 * t) j)) (fun _ k => 8 - (intOf k).toNat)
      case atStart => exact ⟨0, Nat.zero_le _, rfl, rfl⟩
      case round =>
        obtain ⟨j, hj, rfl, rfl⟩ := hrel
        have hkb := byteK_bound bs (8 * t) j
        by_cases hj8 : j < 8
        · have hpw := (pow_small j (by omega)).2
          rw [Int.toNat_natCast] at hpw
          have HK : Hid (byteK bs (8 * t) (j + 1) = 2 * byteK bs (8 * t) j + one bs (8 * t + j)) := rfl
          have hx0 := hkb.1
          have hx1 : byteK bs (8 * t) j < 65536 := by omega
          generalize byteK bs (8 * t) j = x at *
          clear hkb hpw
          by_cases hin : 8 * t + j < n
          · obtain ⟨g, rfl, hc⟩ := own_bit (unhide HO) (8 * t + j) hin
            have hcell := hgk.cell hc (by simp)
            have HB1 : Hid (one bs (8 * t + j) = if bs.getD (8 * t + j) true then 1 else 0) := rfl
            clear hc
            generalize bs.getD (8 * t + j) true = c at hcell HB1
            cases c
            · go_wp2
              go_round
              case rel => exact ⟨j + 1, by omega, by go_num, by rw [unhide HK, unhide HB1]; simp⟩
              case measure => simp [intOf]; omega
            · go_wp2
              go_round
              case rel => exact ⟨j + 1, by omega, by go_num, by rw [unhide HK, unhide HB1]; rfl⟩
              case measure => simp [intOf]; omega
          · have HB1 : Hid (one bs (8 * t + j) = 1) := one_end bs _ (by omega)
            go_wp2
            go_round
            case rel => exact ⟨j + 1, by omega, by go_num, by rw [unhide HK, unhide HB1]⟩
            case measure => simp [intOf]; omega
        · have hj' : j = 8 := by omega
          subst hj'
          have HX : Hid (byteAt bs (8 * t) = byteK bs (8 * t) 8) := rfl
          have hx0 := hbb.1
          have hx1 := hbb.2
          rw [unhide HX] at hx0 hx1
          generalize hxx : byteK bs (8 * t) 8 = x at *
          have HXX := hide hxx
          clear hxx hkb hbb
          go_wp2_with (at_builtin; refine wpList_append_own _ rfl _ _ 22 rfl w.heap.size 5 i0 (.int .u8 0) 1 1 Try.underlying22 hi hz0 hz1 hz2 rfl (by decide) _ _ _ rfl (hok.alloc _) ⟨wr.heap.size, 0, none⟩ 1 1 [.int .u8 x] rfl rfl (cell_one_new _ _ _) ?d2 ?d3 ?d4 ?d5 ?_)
          case d2 => first | rfl | (intro u hu; simp at hu; subst hu; rfl)
          case d3 => unfold maxLen; omega
          case d4 => omega
          case d5 => have := hgk.size; simp; omega
          intro v' w1 hown' hgrow _
          have hg1 := grown_new (grown_trans hgk (World.grownBy_alloc _ _ _)) hgrow (fun g e => (hok.lt g e).1)
          have hR : w1.ownsRow w.heap.size 5 1 v' (t + 1) (((List.range (t + 1)).map (fun i => byteAt bs (8 * i))).map (Value.int .u8)) := by
            rw [List.range_succ, List.map_append, List.map_append]
            simp only [List.map_cons, List.map_nil, unhide HX, List.map_map]
            exact hown'
          clear hown' hgrow hok hgk
          go_wp2
          go_roundw
          case rel => exact ⟨t + 1, by omega, by go_num, hR, hg1⟩
          case measure => simp [intOf]; omega
    · have htn : t = (n + 7) / 8 := by omega
      have HP : Hid (packB bs = (List.range t).map (fun i => byteAt bs (8 * i))) := by unfold Hid packB; rw [hl, htn]
      have HPL : Hid ((packB bs).length = t) := by unfold Hid; rw [packB_len, hl, htn]
      obtain ⟨bo, cap', rfl⟩ := own_form hok
      clear htn
      go_wp2
      go_ret
      exact ⟨bo, cap', by rw [unhide HPL]; rfl, by rw [unhide HPL, unhide HP]; exact hok, hgk⟩

/-- What PackBits answers. -/
def packed (fs : List (Int × Int)) : List Int := if okF fs then packB (allBits fs) else []
theorem okF_field {fs : List (Int × Int)} (h : okF fs = true) (k : Nat) (hk : k < fs.length) : (0 ≤ (fs.getD k (0, 0)).1 ∧ (fs.getD k (0, 0)).1 ≤ 16) ∧ (0 ≤ (fs.getD k (0, 0)).2 ∧ (fs.getD k (0, 0)).2 < 2 ^ (fs.getD k (0, 0)).1.toNat) := by
  simp only [okF, Bool.and_eq_true] at h
  have hm : fs.getD k (0, 0) ∈ fs := by simp [hk]
  exact of_decide_eq_true (List.all_eq_true.1 h.1 _ hm)
theorem allBits_lens (fs : List (Int × Int)) (h : fs.all fieldB = true) : ((allBits fs).length : Int) = lens fs := by
  induction fs with
  | nil => simp [allBits, lens]
  | cons f r ih =>
    simp only [List.all_cons, Bool.and_eq_true] at h
    have h2 := of_decide_eq_true h.1
    have e : allBits (f :: r) = bitsOf f.1.toNat f.2 ++ allBits r := by simp [allBits]
    have e2 : lens (f :: r) = f.1 + lens r := by simp [lens]
    rw [e, e2, ← ih h.2, List.length_append, bitsOf_len]
    omega
theorem okF_room {fs : List (Int × Int)} (h : okF fs = true) (k : Nat) (hk : k < fs.length) : ((allBits (fs.take k)).length : Int) + (fs.getD k (0, 0)).1 ≤ 480000 := by
  simp only [okF, Bool.and_eq_true, decide_eq_true_eq] at h
  have ht : (fs.take (k + 1)).all fieldB = true := by
    rw [List.all_eq_true] at h ⊢
    intro x hx
    exact h.1 x (List.mem_of_mem_take hx)
  have hd : (fs.drop (k + 1)).all fieldB = true := by
    rw [List.all_eq_true] at h ⊢
    intro x hx
    exact h.1 x (List.mem_of_mem_drop hx)
  have h1 := all_take fs k hk
  rw [ht] at h1
  have h2 : (fs.take k).all fieldB = true := by
    cases h3 : (fs.take k).all fieldB with
    | true => rfl
    | false => rw [h3] at h1; simp at h1
  rw [allBits_lens _ h2, ← lens_take fs k hk]
  have h4 := lens_append (fs.take (k + 1)) (fs.drop (k + 1))
  rw [List.take_append_drop] at h4
  have h5 := lens_pos _ hd
  omega

set_option maxRecDepth 20000 in
set_option maxHeartbeats 1600000 in
theorem specPackBits (ao : Option Addr) (n cap : Nat) (fs : List (Int × Int)) (w : World) (hr : RdF w ao n fs) (hn : n ≤ 4194304) :
    Calls Try.prog 51 #[.slice ao n cap] w fun e w' => ∃ bo cap', e = .returned (.slice bo (packed fs).length cap') ∧
      w'.ownsRow w.heap.size 5 1 (.slice bo (packed fs).length cap') (packed fs).length ((packed fs).map (Value.int .u8)) ∧ w.grownBy w' none := by
  have HR := hide hr
  obtain ⟨hl, hc⟩ := hr
  cases hok : okF fs with
  | false =>
    have HP : Hid (packed fs = []) := by unfold Hid packed; rw [hok]; rfl
    have HOK := hide hok
    clear hok
    go_enter Try.func51, Try.ntmps51
    go_wp2_with fail
    refine (specFieldsOk ao n cap fs w (unhide HR) hn).mono ?_
    rintro e w1 ⟨rfl, g1⟩
    rw [unhide HOK]
    go_wp2
    go_ret
    exact ⟨some ⟨w1.heap.size, 0, none⟩, 0, by rw [unhide HP]; rfl, by rw [unhide HP]; exact World.ownsRow_lit w1 #[] 0 g1.size (by unfold maxLen; omega) rfl, grown_alloc g1 _⟩
  | true =>
    have HP : Hid (packed fs = packB (allBits fs)) := by unfold Hid packed; rw [hok]; rfl
    have HOK := hide hok
    clear hok
    go_enter Try.func51, Try.ntmps51
    go_wp2_with fail
    refine (specFieldsOk ao n cap fs w (unhide HR) hn).mono ?_
    rintro e w1 ⟨rfl, g1⟩
    rw [unhide HOK]
    have o0 : (w1.alloc (.cells #[] 4)).ownsRow w1.heap.size 4 1 (.slice (some ⟨w1.heap.size, 0, none⟩) 0 0) 0 [] := World.ownsRow_lit w1 #[] 0 (Nat.le_refl _) (by unfold maxLen; omega) rfl
    go_wp2
    go_loopw [3, 4] (fun v i wr => ∃ k : Nat, k ≤ n ∧ i = .int .i64 k ∧ wr.ownsRow w1.heap.size 4 1 v (allBits (fs.take k)).length ((allBits (fs.take k)).map Value.bool) ∧ Below w1.heap.size w1 wr) (fun _ i _ => n - (intOf i).toNat)
    case atStart => exact ⟨0, Nat.zero_le _, rfl, o0, (Below.refl _ _).alloc (Nat.le_refl _) _⟩
    case round =>
      obtain ⟨k, hk, rfl, hob, hbl⟩ := hrel
      clear o0
      by_cases hlt : k < n
      · obtain ⟨b, off, rfl, hc1, hc2⟩ := hc k hlt
        have hca : wr.cell? ⟨b, off + k * 2, none⟩ = _ := (hbl.cell (p := ⟨b, off + k * 2, none⟩) (World.block_lt_of_cell? w1 _ (g1.cell hc1 (by simp)))).trans (g1.cell hc1 (by simp))
        have hcb : wr.cell? ⟨b, off + k * 2 + 1, none⟩ = _ := (hbl.cell (p := ⟨b, off + k * 2 + 1, none⟩) (World.block_lt_of_cell? w1 _ (g1.cell hc2 (by simp)))).trans (g1.cell hc2 (by simp))
        have hfl := okF_field (unhide HOK) k (by omega)
        have hrm := okF_room (unhide HOK) k (by omega)
        have HT := hide (allBits_take fs k (by omega))
        clear hc hc1 hc2
        generalize fs.getD k (0, 0) = f at hca hcb hfl hrm HT
        obtain ⟨x, y⟩ := f
        obtain ⟨⟨hx1, hx2⟩, ⟨hy1, hy2⟩⟩ := hfl
        have hx1' : 0 ≤ x := hx1
        have hx2' : x ≤ 16 := hx2
        have hy1' : 0 ≤ y := hy1
        have hpw := (pow_small x hx2').2
        have hy2' : y < 65536 := by have : y < 2 ^ x.toNat := hy2; omega
        clear hx1 hx2 hy1 hy2 hpw
        obtain ⟨l, rfl⟩ := Int.eq_ofNat_of_zero_le hx1'
        have hrm' : ((allBits (fs.take k)).length : Int) + l ≤ 480000 := hrm
        rw [Int.toNat_natCast] at HT
        clear hrm hx1'
        generalize allBits (fs.take k) = acc at *
        have hik : (k : Int) < (n : Int) := by omega
        go_wp2
        go_region_with (go_at_call 62; refine (specBits _ w1.heap.size acc l y _ (by exact hob) (by exact hbl.size) (by omega) (by omega) hy1' hy2').mono ?_; rintro e w2 ⟨v2, rfl, o2, b2⟩)
        all_goals
          go_wp2
          go_roundw
          case rel => exact ⟨k + 1, by omega, by go_num, by rw [unhide HT]; exact o2, hbl.drew.trans (b2 _ (Nat.le_refl _))⟩
          case measure => simp [intOf]; omega
      · have hkn : k = n := by omega
        subst hkn
        rw [List.take_of_length_le (by omega)] at hob
        obtain ⟨bo, cap', rfl⟩ := own_form hob
        have hlen : (allBits fs).length ≤ 480000 := by
          have h := unhide HOK
          simp only [okF, Bool.and_eq_true, decide_eq_true_eq] at h
          have := allBits_lens fs h.1
          omega
        have G : Hid (w.grownBy wr none) := ⟨hbl.os.trans g1.os, hbl.tape.trans g1.tape, hbl.output.trans g1.output, Nat.le_trans g1.size hbl.size, fun j hj hr => (hbl.block j (by have := g1.size; omega)).trans (g1.block j hj hr)⟩
        clear hc
        go_wp2_with fail
        refine (specPack bo _ cap' w1.heap.size (allBits fs) wr hob hlen).mono ?_
        rintro e w2 ⟨co, cc, rfl, o2, g2⟩
        have hsz := (unhide G).size
        go_wp2
        go_ret
        exact ⟨co, cc, by rw [unhide HP]; rfl, by rw [unhide HP]; exact own_base o2 hsz, grown_trans (unhide G) g2⟩

end Go.Proofs.Ytcbaiagkdphkeaa
