/-
  The walk of the law that stuffed bytes are got back.
-/
import Derived.Test.YthnandohmggieaaDrawBytes
import Derived.Test.YthnandohmggieaaLawAid
import Derived.Test.YthnandohmggieaaStuff
import Derived.Test.YthnandohmggieaaUnstuff
import Derived.Laws.AppendOwnNone
namespace Go.Proofs.Ythnandohmggieaa
open Go.RowKit

theorem stuffL_cons (x : Int) (r : List Int) : stuffL (x :: r) = (if x = 255 then [x, 0] else [x]) ++ stuffL r := by simp [stuffL]
/-- What follows stuffed bytes is left. -/
theorem unst_stuff (bs tail : List Int) (ht : unst tail = ([], 0)) : unst (stuffL bs ++ tail) = (bs, (stuffL bs).length) := by
  induction bs with
  | nil => simpa [stuffL] using ht
  | cons x r ih =>
    rw [stuffL_cons]
    by_cases hx : x = 255
    · subst hx
      rw [if_pos rfl]
      simp only [List.cons_append, List.nil_append]
      rw [unst, if_pos rfl, if_pos rfl, ih]
      simp
    · rw [if_neg hx]
      simp only [List.cons_append, List.nil_append]
      rw [unst_other _ _ hx, ih]
      simp
/-- A 255 among stuffed bytes is followed by a nought. -/
theorem stuff_marks (bs : List Int) : ∀ i, i < (stuffL bs).length → (stuffL bs).getD i 0 = 255 → i + 1 < (stuffL bs).length ∧ (stuffL bs).getD (i + 1) 0 = 0 := by
  induction bs with
  | nil => intro i hi; simp [stuffL] at hi
  | cons x r ih =>
    rw [stuffL_cons]
    by_cases hx : x = 255
    · subst hx
      rw [if_pos rfl]
      simp only [List.cons_append, List.nil_append]
      intro i hi h
      match i, hi, h with
      | 0, _, _ => simp
      | 1, _, h => simp at h
      | i + 2, hi, h =>
        have h2 := ih i (by simpa using hi) (by simpa using h)
        exact ⟨by have := h2.1; simp only [List.length_cons] at *; omega, by simpa using h2.2⟩
    · rw [if_neg hx]
      simp only [List.cons_append, List.nil_append]
      intro i hi h
      match i, hi, h with
      | 0, _, h => exact absurd (by simpa using h) hx
      | i + 1, hi, h =>
        have h2 := ih i (by simpa using hi) (by simpa using h)
        exact ⟨by have := h2.1; simp; omega, by simpa using h2.2⟩

set_option maxHeartbeats 1600000 in
theorem lawStuffed_in (ao : Option Addr) (n cap : Nat) (zs : List Int) (w : World) (hr : Rd .u8 w ao n zs) (hb : ∀ i, 0 ≤ zs.getD i 0 ∧ zs.getD i 0 ≤ 255) (hn : n ≤ 1048576) :
    Calls Try.prog 4 #[.slice ao n cap] w fun e w' => e = .returned (.bool true) ∧ Below w.heap.size w w' := by
  have HR := hide hr
  have HB := hide hb
  obtain ⟨i0, hi, hz0, hz1, hz2⟩ := info_parts Try.info5
  have hbg : Hid (decide ((1048576 : Int) < (n : Int)) = false) := by unfold Hid; simp; omega
  clear hr hb
  go_enter Try.func4, Try.ntmps4
  go_wp2_with fail
  refine (lawBig ao n cap false w hbg).mono ?_
  rintro e w0 ⟨rfl, rfl⟩
  go_wp2_with fail
  refine (drawStuff ao n cap zs w (unhide HR) (unhide HB) hn).mono ?_
  rintro e w1 ⟨bs, bo, bc, rfl, hbl, _, o1, g1⟩
  have hst : stuffed bs = stuffL bs := by unfold stuffed; rw [if_pos (by omega)]
  have hsl : (stuffL bs).length ≤ 120 := by have := stuff_len bs; omega
  have HST := hide hst
  clear hst
  go_wp2_with fail
  refine (implStuff' bo _ bc bs w1 (own_rd o1) (by omega)).mono ?_
  rintro e w2 ⟨so, sc, rfl, o2, g2, hnn⟩
  have HNN := hide (hnn (by omega))
  clear hnn
  rw [unhide HST] at o2 HNN ⊢
  have p1 := own_grown o1 g2
  have G2 := grown_trans g1 g2
  clear o1 g1 g2
  go_wp2_with fail
  refine (specStuff bo _ bc bs w2 (own_rd p1) (by omega)).mono ?_
  rintro e w3 ⟨to, tc, rfl, o3, g3⟩
  rw [unhide HST] at o3 ⊢
  have q1 := own_grown p1 g3
  have q2 := own_grown o2 g3
  have G3 := grown_trans G2 g3
  clear p1 o2 g3 G2
  go_wp2_with fail
  refine (sameBytes so to _ sc tc (stuffL bs) w3 (own_rd q2) (own_rd o3) (by omega)).mono ?_
  rintro e w4 ⟨rfl, g4⟩
  have r1 := own_grown q1 g4
  have r2 := own_grown q2 g4
  have G4 := grown_trans G3 g4
  clear q1 q2 g4 G3 o3
  have HM := hide (stuff_marks bs)
  go_wp2
  go_loop [5] (fun i => ∃ k : Nat, k ≤ (stuffL bs).length ∧ i = .int .i64 k) (fun i => (stuffL bs).length - (intOf i).toNat)
  case atStart => exact ⟨0, Nat.zero_le _, rfl⟩
  case round =>
    obtain ⟨k, hk, rfl⟩ := hrel
    obtain ⟨hl2, hc2⟩ := own_rd r2
    by_cases hlt : k < (stuffL bs).length
    · obtain ⟨b, off, hso, hcell⟩ := hc2 k hlt
      subst hso
      by_cases hx : (stuffL bs).getD k 0 = 255
      · obtain ⟨h1, h2⟩ := unhide HM k hlt hx
        obtain ⟨b', off', hso', hcell'⟩ := hc2 (k + 1) h1
        simp at hso'
        obtain ⟨rfl, rfl⟩ := hso'
        rw [hx] at hcell
        rw [h2] at hcell'
        clear hc2 hx h2 HM
        go_wp2
        go_round
        case rel => exact ⟨k + 1, by omega, by go_num⟩
        case measure => simp [intOf]; omega
      · have hxb : ((stuffL bs).getD k 0 == 255) = false := by simpa using hx
        clear hc2 hx HM
        generalize (stuffL bs).getD k 0 = x at hcell hxb
        go_wp2
        go_round
        case rel => exact ⟨k + 1, by omega, by go_num⟩
        case measure => simp [intOf]; omega
    · clear hc2 HM hl2
      have hv0 : (w4.alloc (.cells #[] 5)).ownsRow w4.heap.size 5 1 (.slice (some ⟨w4.heap.size, 0, none⟩) 0 0) 0 [] := World.ownsRow_lit w4 #[] 0 (Nat.le_refl _) (by unfold maxLen; omega) rfl
      have L1 : Hid (∀ g, (Value.slice bo bs.length bc).ownBlock = some g → g < w4.heap.size) := fun g h => (r1.lt g h).2
      have L2 : Hid (∀ g, (Value.slice so (stuffL bs).length sc).ownBlock = some g → g < w4.heap.size) := fun g h => (r2.lt g h).2
      have hw4 : w.heap.size ≤ w4.heap.size := G4.size
      rcases r2.2 with ⟨hnil, _⟩ | ⟨g, cap', cur, hv, _, hg, _⟩
      · exact absurd hnil (unhide HNN)
      · simp only [Value.slice.injEq, true_and] at hv
        obtain ⟨rfl, rfl⟩ := hv
        clear hg
        go_wp2_with (at_builtin; refine wpList_append_own _ rfl _ _ 22 rfl w4.heap.size 5 i0 (.int .u8 0) 1 1 Try.underlying22 hi hz0 hz1 hz2 rfl (by decide) _ _ _ rfl hv0 ⟨g, 0, none⟩ (stuffL bs).length sc ((stuffL bs).map (Value.int .u8)) rfl (by simp) ((r2.alloc _).cells rfl) (ints_oneCell _ _) ?e3 ?e4 (by simp) ?_)
        case e3 => unfold maxLen; omega
        case e4 => omega
        intro v1 w5 ov1 gv1 _
        have G5 := grown_new (grown_alloc G4 _) gv1 (fun g e => by have := (hv0.lt g e).1; have := G4.size; omega)
        have s1 := own_beneath (r1.alloc (.cells #[] 5)) gv1 (fun g g' h h' => by have := (r1.lt g h).2; have := (hv0.lt g' h').1; omega)
        have s2 := own_beneath (r2.alloc (.cells #[] 5)) gv1 (fun g g' h h' => by have := (r2.lt g h).2; have := (hv0.lt g' h').1; omega)
        have hge5 : w4.heap.size ≤ w5.heap.size := Nat.le_trans (by simp) gv1.size
        clear r1 r2 G4 gv1 hv0
        go_wp2_with fail
        refine (lawPick ao n cap 0 255 zs w5 ((unhide HR).grown G5) (unhide HB) hn (by omega) (by omega) (by omega)).mono ?_
        rintro e w6 ⟨⟨x, rfl, hx0, hx1⟩, rfl⟩
        have hsz5 : w4.heap.size ≤ w5.heap.size := hge5
        go_wp2_with (at_builtin; refine wpList_append_own _ rfl _ _ 22 rfl w4.heap.size 5 i0 (.int .u8 0) 1 1 Try.underlying22 hi hz0 hz1 hz2 rfl (by decide) _ _ _ rfl (ov1.alloc _) ⟨w5.heap.size, 0, none⟩ 3 3 [.int .u8 255, .int .u8 (1 + x), .int .u8 7] rfl rfl (cells_new _ _ _) ?f2 ?f3 ?f4 ?f5 ?_)
        case f2 => intro u hu; simp at hu; rcases hu with rfl | rfl | rfl <;> rfl
        case f3 => unfold maxLen; omega
        case f4 => omega
        case f5 => simp; omega
        intro v2 w7 ov2 gv2 _
        have G7 := grown_new (grown_alloc G5 _) gv2 (fun g e => by have := (ov1.lt g e).1; have := hw4; omega)
        have hlv1 := fun g h => (ov1.lt g h).1
        have t1 := own_beneath (s1.alloc (.cells #[.int .u8 255, .int .u8 (1 + x), .int .u8 7] 5)) gv2 (fun g g' h h' => by have := unhide L1 g h; have := hlv1 g' h'; omega)
        have t2 := own_beneath (s2.alloc (.cells #[.int .u8 255, .int .u8 (1 + x), .int .u8 7] 5)) gv2 (fun g g' h h' => by have := unhide L2 g h; have := hlv1 g' h'; omega)
        obtain ⟨vo, vc, rfl⟩ := own_form ov2
        have rv2 : Rd .u8 w7 vo ((stuffL bs).length + 3) (stuffL bs ++ [255, 1 + x, 7]) := own_rd (by simpa using ov2)
        have U1 := hide (unst_stuff bs [255, 1 + x, 7] (by rw [unst, if_pos rfl, if_neg (by omega)]))
        have U2 := hide (unst_stuff bs [] rfl)
        rw [List.append_nil] at U2
        clear s1 s2 G5 gv2 ov1 ov2 hlv1
        go_wp2_with fail
        refine (implUnstuff vo _ vc _ w7 rv2 (by omega)).mono ?_
        rintro e w8 ⟨xo, xc, rfl, o8, g8⟩
        rw [unhide U1] at o8 ⊢
        have G8 := grown_trans G7 g8
        have k1 := own_grown t1 g8
        have k2 := own_grown t2 g8
        clear t1 t2 G7 g8 rv2
        go_wp2_with fail
        refine (implUnstuff _ _ sc (stuffL bs) w8 (own_rd k2) (by omega)).mono ?_
        rintro e w9 ⟨yo, yc, rfl, o9, g9⟩
        rw [unhide U2] at o9 ⊢
        have G9 := grown_trans G8 g9
        have m1 := own_grown k1 g9
        have m8 := own_grown o8 g9
        clear k1 k2 o8 G8 g9
        have heq : (((stuffL bs).length : Int) == ((stuffL bs).length : Int)) = true := by simp
        go_wp2_with fail
        refine (sameBytes xo bo _ xc bc bs w9 (own_rd m8) (own_rd m1) (by omega)).mono ?_
        rintro e wa ⟨rfl, ga⟩
        have Ga := grown_trans G9 ga
        have n1 := own_grown m1 ga
        have n9 := own_grown o9 ga
        clear m1 m8 o9 G9 ga
        go_wp2_with fail
        refine (sameBytes yo bo _ yc bc bs wa (own_rd n9) (own_rd n1) (by omega)).mono ?_
        rintro e wb ⟨rfl, gb⟩
        have Gb := grown_trans Ga gb
        go_wp2
        go_ret
        exact ⟨rfl, grown_below Gb⟩

theorem lawStuffed (ao : Option Addr) (n cap : Nat) (zs : List Int) (w : World) (hr : Rd .u8 w ao n zs) (hb : ∀ i, 0 ≤ zs.getD i 0 ∧ zs.getD i 0 ≤ 255) :
    Calls Try.prog 4 #[.slice ao n cap] w fun e w' => e = .returned (.bool true) ∧ Below w.heap.size w w' := by
  by_cases hn : n ≤ 1048576
  · exact lawStuffed_in ao n cap zs w hr hb hn
  · have hbg : Hid (decide ((1048576 : Int) < (n : Int)) = true) := by unfold Hid; simp; omega
    go_enter Try.func4, Try.ntmps4
    go_wp2_with fail
    refine (lawBig ao n cap true w hbg).mono ?_
    rintro e w0 ⟨rfl, rfl⟩
    go_wp2
    go_ret
    exact ⟨rfl, Below.refl _ _⟩

end Go.Proofs.Ythnandohmggieaa
