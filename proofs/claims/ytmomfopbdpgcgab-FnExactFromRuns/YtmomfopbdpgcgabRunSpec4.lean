/-
  The list of items, in the specification: the walk.
-/
import Derived.Test.YtmomfopbdpgcgabRunSpec3
import Derived.BigQuiet
namespace Go.Proofs.Ytmomfopbdpgcgab
open Go.RowKit

theorem itBox {w : World} {g : Nat} {a b c : Value} {t : TypeId} (hb : w.heap[g]? = some (.cells #[a, b, c] t (0, 0))) : w.cell? ⟨g, 0, none⟩ = some a ∧ w.cell? ⟨g, 1, none⟩ = some b ∧ w.cell? ⟨g, 2, none⟩ = some c :=
  ⟨by rw [cell_of_row w _ 0 _ _ (0, 0) hb]; rfl, by rw [cell_of_row w _ 1 _ _ (0, 0) hb]; rfl, by rw [cell_of_row w _ 2 _ _ (0, 0) hb]; rfl⟩
theorem put_pad {n : Nat} {X : List Int} {r s b : Int} (hs : s = 0) (hr : r = 0) : putIt n X (r, s, b) = X ++ List.replicate (n - X.length) 0 := by
  unfold putIt; rw [if_pos ⟨hs, hr⟩]
theorem put_num {n : Nat} {X : List Int} {r s b : Int} (h : s ≠ 0 ∨ r ≠ 0) {t : Nat} (ht : t = min r.toNat (n + 1 - X.length)) : putIt n X (r, s, b) = if (X ++ List.replicate t 0).length ≤ n then X ++ List.replicate t 0 ++ [numI s b] else X ++ List.replicate t 0 := by
  unfold putIt
  rw [if_neg (fun e => by rcases h with h | h; exact h e.1; exact h e.2), ht]

theorem lenV_own {w : World} {base : Nat} {e : TypeId} {v : Value} {X : List Int} (h : w.ownsRow base e 1 v X.length (X.map (Value.int .i64))) : lenV v = X.length := by
  obtain ⟨so, sc, rfl⟩ := own_form h
  rfl

set_option maxRecDepth 20000 in
set_option maxHeartbeats 6400000 in
theorem specFromRuns_in (ao : Option Addr) (n cap : Nat) (I : List It) (w : World) (hr : RdT w ao n I) (M : Nat) (hM : M ≤ 64) (hn : n ≤ 64) (ys : List Int) (ok : Bool) (HF : Hid (fromG I M = (ys, ok))) :
    Calls Try.prog 5 #[.slice ao n cap, .int .i64 (M : Int)] w fun e w' => ∃ v, e = .returned (.tuple #[v, .bool ok]) ∧ w'.ownsRow w.heap.size 3 1 v ys.length (ys.map (Value.int .i64)) ∧ w.grownBy w' none := by
  have hl := hr.1
  have HRW := hide hr
  have HO0 : Hid ((w.alloc (.cells #[] 3)).ownsRow w.heap.size 3 1 (.slice (some ⟨w.heap.size, 0, none⟩) 0 0) 0 []) := World.ownsRow_lit w #[] 0 (Nat.le_refl _) (by unfold maxLen; omega) rfl
  have HG0 : Hid (w.grownBy (w.alloc (.cells #[] 3)) none) := World.grownBy_alloc _ _ _
  obtain ⟨wa, hwa⟩ : ∃ wa, w.alloc (.cells #[] 3) = wa := ⟨_, rfl⟩
  rw [hwa] at HO0 HG0
  have HWA := hide hwa
  have HT : Hid (decide (0 ≤ (M : Int) ∧ (M : Int) ≤ 64) = true) := decide_eq_true (by omega)
  have hd : decide ((64 : Int) < (n : Int)) = false := decide_eq_false (by omega)
  clear hr hwa
  go_enter Try.func5, Try.ntmps5
  go_wp2_with fail
  rw [unhide HWA]
  refine (between M 0 64 true HT wa).mono ?_
  rintro e w1 ⟨rfl, rfl⟩
  go_wp2
  go_loopw [6, 7] (fun o i wr => ∃ (k : Nat) (X : List Int), k ≤ n ∧ i = .int .i64 k ∧ X.length ≤ M + 1 ∧ Hid (wr.ownsRow w.heap.size 3 1 o X.length (X.map (Value.int .i64))) ∧ Hid (putIts M [] (I.take k) = X) ∧ Hid (w.grownBy wr none)) (fun _ i _ => n - (intOf i).toNat)
  case atStart => exact ⟨0, [], Nat.zero_le _, rfl, by simp, HO0, rfl, HG0⟩
  case round =>
    clear HO0 HG0
    obtain ⟨k, X, hk, rfl, hX, ho, hput, hg⟩ := hrel
    obtain ⟨so, sc, rfl⟩ := own_form (unhide ho)
    by_cases hlt : k < n
    · obtain ⟨bb, off, rfl, c0, c1, c2⟩ := ((unhide HRW).grown (unhide hg)).2 k hlt
      have hstep := take_put (n := M) (I := I) (k := k) (by omega)
      rw [unhide hput] at hstep
      generalize I.getD k (0, 0, 0) = x at *
      obtain ⟨r, s, b⟩ := x
      dsimp only at c0 c1 c2
      have HST := hide hstep
      have hkI : (k : Int) < (n : Int) := by omega
      clear hstep hput
      by_cases hs0 : s = 0
      · by_cases hr0 : r = 0
        · have hd1 : s = 0 := hs0
          have hd2 : r = 0 := hr0
          subst hd1 hd2
          have HX7 : Hid (OwnX w wr.heap.size #[.int .i64 0, .int .i64 0, .int .i64 b] 36 (wr.alloc (.cells #[.int .i64 0, .int .i64 0, .int .i64 b] 36)) (.slice so X.length sc) X) := ⟨(unhide ho).alloc _, heap_alloc_new _ _, fun e => by have := ((unhide ho).lt _ e).2; omega, grown_alloc (unhide hg) _⟩
          obtain ⟨w7, hw7⟩ : ∃ w7, wr.alloc (.cells #[.int .i64 0, .int .i64 0, .int .i64 b] 36) = w7 := ⟨_, rfl⟩
          rw [hw7] at HX7
          have HW7 := hide hw7
          clear hw7
          go_wp2
          rw [unhide HW7]
          clear HW7
          obtain ⟨pb, hpb⟩ : ∃ pb, wr.heap.size = pb := ⟨_, rfl⟩
          rw [hpb] at HX7
          rw [hpb]
          clear ho hg c0 c1 c2 hpb
          go_loopw [6] (fun o wv => ∃ t : Nat, t ≤ M - X.length ∧ Hid (OwnX w pb #[.int .i64 0, .int .i64 0, .int .i64 b] 36 wv o (X ++ List.replicate t 0))) (fun o _ => M - lenV o)
          case atStart => exact ⟨0, Nat.zero_le _, by simpa using HX7⟩
          case round =>
            clear HX7
            obtain ⟨t, ht, hY⟩ := hrel
            have hYl : (X ++ List.replicate t (0 : Int)).length = X.length + t := by simp
            have hnext : X ++ List.replicate (t + 1) (0 : Int) = X ++ List.replicate t 0 ++ [0] := by rw [List.replicate_succ', List.append_assoc]
            rw [put_pad rfl rfl] at HST
            generalize hYY : X ++ List.replicate t (0 : Int) = Y at *
            obtain ⟨so2, sc2, rfl⟩ := own_form (unhide hY).own
            by_cases hlt2 : Y.length < M
            · have hd3 : decide ((Y.length : Int) < (M : Int)) = true := decide_eq_true (by omega)
              have HNX := hide hnext
              clear hnext HST hYY
              go_wp2_with (at_builtin; refine append_x rfl _ _ rfl w pb _ _ (.slice so2 Y.length sc2) Y rfl (unhide hY) 0 rfl (by omega) ?_; intro v' w8 h8)
              have H8 := hide h8
              clear h8 hY
              go_wp2
              go_roundw
              case rel => exact ⟨t + 1, by omega, by unfold Hid; rw [unhide HNX]; exact unhide H8⟩
              case measure => have hl8 := lenV_own (unhide H8).own; rw [hl8]; simp [lenV]; omega
            · have hd3 : decide ((Y.length : Int) < (M : Int)) = false := decide_eq_false (by omega)
              have et : t = M - X.length := by omega
              rw [← et, hYY] at HST
              clear hnext
              go_wp2
              go_roundw
              case rel => exact ⟨k + 1, Y, by omega, by go_num, by omega, (unhide hY).own, unhide HST, (unhide hY).grown⟩
              case measure => simp [intOf]; omega
        · have hne : s ≠ 0 ∨ r ≠ 0 := .inr hr0
          have hb1 : (s == 0) = true := by rw [hs0]; rfl
          have hb2 : (r == 0) = false := beq_false_of_ne hr0
          clear hs0 hr0
          have HX7 : Hid (OwnX w wr.heap.size #[.int .i64 r, .int .i64 s, .int .i64 b] 36 (wr.alloc (.cells #[.int .i64 r, .int .i64 s, .int .i64 b] 36)) (.slice so X.length sc) X) := ⟨(unhide ho).alloc _, heap_alloc_new _ _, fun e => by have := ((unhide ho).lt _ e).2; omega, grown_alloc (unhide hg) _⟩
          obtain ⟨w7, hw7⟩ : ∃ w7, wr.alloc (.cells #[.int .i64 r, .int .i64 s, .int .i64 b] 36) = w7 := ⟨_, rfl⟩
          rw [hw7] at HX7
          have HW7 := hide hw7
          clear hw7
          go_wp2
          rw [unhide HW7]
          clear HW7
          obtain ⟨pb, hpb⟩ : ∃ pb, wr.heap.size = pb := ⟨_, rfl⟩
          rw [hpb] at HX7
          rw [hpb]
          clear ho hg c0 c1 c2 hpb
          go_loopw [6, 9] (fun o q wv => ∃ t : Nat, (t = 0 ∨ (t : Int) ≤ r) ∧ t ≤ M + 1 - X.length ∧ q = .int .i64 t ∧ Hid (OwnX w pb #[.int .i64 r, .int .i64 s, .int .i64 b] 36 wv o (X ++ List.replicate t 0))) (fun o _ _ => M + 1 - lenV o)
          case atStart => exact ⟨0, .inl rfl, Nat.zero_le _, rfl, by simpa using HX7⟩
          case round =>
            clear HX7
            obtain ⟨t, hrt, ht, rfl, hY⟩ := hrel
            have hYl : (X ++ List.replicate t (0 : Int)).length = X.length + t := by simp
            have hnext : X ++ List.replicate (t + 1) (0 : Int) = X ++ List.replicate t 0 ++ [0] := by rw [List.replicate_succ', List.append_assoc]
            have hfin : t = min r.toNat (M + 1 - X.length) → putIts M [] (I.take (k + 1)) = if (X ++ List.replicate t (0 : Int)).length ≤ M then X ++ List.replicate t (0 : Int) ++ [numI s b] else X ++ List.replicate t (0 : Int) := fun e => by rw [unhide HST, put_num hne e]
            generalize hYY : X ++ List.replicate t (0 : Int) = Y at *
            obtain ⟨so2, sc2, rfl⟩ := own_form (unhide hY).own
            obtain ⟨f0, f1, f2⟩ := itBox (unhide hY).box
            by_cases h1 : (t : Int) < r
            · have hd3 : decide ((t : Int) < r) = true := decide_eq_true h1
              by_cases h2 : Y.length ≤ M
              · have hd4 : decide ((Y.length : Int) ≤ (M : Int)) = true := decide_eq_true (by omega)
                have HNX := hide hnext
                clear hnext hfin HST hYY
                go_wp2_with (at_builtin; refine append_x rfl _ _ rfl w pb _ _ (.slice so2 Y.length sc2) Y rfl (unhide hY) 0 rfl (by omega) ?_; intro v' w8 h8)
                have H8 := hide h8
                clear h8 hY
                go_wp2
                go_roundw
                case rel => exact ⟨t + 1, .inr (by omega), by omega, by go_num, by unfold Hid; rw [unhide HNX]; exact unhide H8⟩
                case measure => have hl8 := lenV_own (unhide H8).own; rw [hl8]; simp [lenV]; omega
              · have hd4 : decide ((Y.length : Int) ≤ (M : Int)) = false := decide_eq_false (by omega)
                have HST := hide (hfin (by omega))
                clear hnext hfin
                rw [if_neg (by omega)] at HST
                go_wp2
                go_roundw
                case rel => exact ⟨k + 1, Y, by omega, by go_num, by omega, (unhide hY).own, unhide HST, (unhide hY).grown⟩
                case measure => simp [intOf]; omega
            · have hd3 : decide ((t : Int) < r) = false := decide_eq_false h1
              have HST := hide (hfin (by omega))
              clear hnext hfin
              by_cases h2 : Y.length ≤ M
              · have hd4 : decide ((Y.length : Int) ≤ (M : Int)) = true := decide_eq_true (by omega)
                rw [if_pos h2] at HST
                obtain ⟨v, HV⟩ : ∃ v, Hid (numI s b = v) := ⟨_, rfl⟩
                rw [unhide HV] at HST
                clear hYl
                go_wp2_with fail
                refine (specNumOf s b v HV wr).mono ?_
                rintro e w8 ⟨rfl, rfl⟩
                go_wp2_with (at_builtin; refine append_x rfl _ _ rfl w pb _ _ (.slice so2 Y.length sc2) Y rfl (unhide hY) v rfl (by omega) ?_; intro v' w9 h9)
                have H9 := hide h9
                clear h9 hY
                go_wp2
                go_roundw
                case rel => exact ⟨k + 1, Y ++ [v], by omega, by go_num, by simp; omega, (unhide H9).own, unhide HST, (unhide H9).grown⟩
                case measure => simp [intOf]; omega
              · have hd4 : decide ((Y.length : Int) ≤ (M : Int)) = false := decide_eq_false (by omega)
                rw [if_neg (by omega)] at HST
                go_wp2
                go_roundw
                case rel => exact ⟨k + 1, Y, by omega, by go_num, by omega, (unhide hY).own, unhide HST, (unhide hY).grown⟩
                case measure => simp [intOf]; omega
      · have hne : s ≠ 0 ∨ r ≠ 0 := .inl hs0
        have hb1 : (s == 0) = false := beq_false_of_ne hs0
        clear hs0
        have HX7 : Hid (OwnX w wr.heap.size #[.int .i64 r, .int .i64 s, .int .i64 b] 36 (wr.alloc (.cells #[.int .i64 r, .int .i64 s, .int .i64 b] 36)) (.slice so X.length sc) X) := ⟨(unhide ho).alloc _, heap_alloc_new _ _, fun e => by have := ((unhide ho).lt _ e).2; omega, grown_alloc (unhide hg) _⟩
        obtain ⟨w7, hw7⟩ : ∃ w7, wr.alloc (.cells #[.int .i64 r, .int .i64 s, .int .i64 b] 36) = w7 := ⟨_, rfl⟩
        rw [hw7] at HX7
        have HW7 := hide hw7
        clear hw7
        go_wp2
        rw [unhide HW7]
        clear HW7
        obtain ⟨pb, hpb⟩ : ∃ pb, wr.heap.size = pb := ⟨_, rfl⟩
        rw [hpb] at HX7
        rw [hpb]
        clear ho hg c0 c1 c2 hpb
        go_loopw [6, 9] (fun o q wv => ∃ t : Nat, (t = 0 ∨ (t : Int) ≤ r) ∧ t ≤ M + 1 - X.length ∧ q = .int .i64 t ∧ Hid (OwnX w pb #[.int .i64 r, .int .i64 s, .int .i64 b] 36 wv o (X ++ List.replicate t 0))) (fun o _ _ => M + 1 - lenV o)
        case atStart => exact ⟨0, .inl rfl, Nat.zero_le _, rfl, by simpa using HX7⟩
        case round =>
          clear HX7
          obtain ⟨t, hrt, ht, rfl, hY⟩ := hrel
          have hYl : (X ++ List.replicate t (0 : Int)).length = X.length + t := by simp
          have hnext : X ++ List.replicate (t + 1) (0 : Int) = X ++ List.replicate t 0 ++ [0] := by rw [List.replicate_succ', List.append_assoc]
          have hfin : t = min r.toNat (M + 1 - X.length) → putIts M [] (I.take (k + 1)) = if (X ++ List.replicate t (0 : Int)).length ≤ M then X ++ List.replicate t (0 : Int) ++ [numI s b] else X ++ List.replicate t (0 : Int) := fun e => by rw [unhide HST, put_num hne e]
          generalize hYY : X ++ List.replicate t (0 : Int) = Y at *
          obtain ⟨so2, sc2, rfl⟩ := own_form (unhide hY).own
          obtain ⟨f0, f1, f2⟩ := itBox (unhide hY).box
          by_cases h1 : (t : Int) < r
          · have hd3 : decide ((t : Int) < r) = true := decide_eq_true h1
            by_cases h2 : Y.length ≤ M
            · have hd4 : decide ((Y.length : Int) ≤ (M : Int)) = true := decide_eq_true (by omega)
              have HNX := hide hnext
              clear hnext hfin HST hYY
              go_wp2_with (at_builtin; refine append_x rfl _ _ rfl w pb _ _ (.slice so2 Y.length sc2) Y rfl (unhide hY) 0 rfl (by omega) ?_; intro v' w8 h8)
              have H8 := hide h8
              clear h8 hY
              go_wp2
              go_roundw
              case rel => exact ⟨t + 1, .inr (by omega), by omega, by go_num, by unfold Hid; rw [unhide HNX]; exact unhide H8⟩
              case measure => have hl8 := lenV_own (unhide H8).own; rw [hl8]; simp [lenV]; omega
            · have hd4 : decide ((Y.length : Int) ≤ (M : Int)) = false := decide_eq_false (by omega)
              have HST := hide (hfin (by omega))
              clear hnext hfin
              rw [if_neg (by omega)] at HST
              go_wp2
              go_roundw
              case rel => exact ⟨k + 1, Y, by omega, by go_num, by omega, (unhide hY).own, unhide HST, (unhide hY).grown⟩
              case measure => simp [intOf]; omega
          · have hd3 : decide ((t : Int) < r) = false := decide_eq_false h1
            have HST := hide (hfin (by omega))
            clear hnext hfin
            by_cases h2 : Y.length ≤ M
            · have hd4 : decide ((Y.length : Int) ≤ (M : Int)) = true := decide_eq_true (by omega)
              rw [if_pos h2] at HST
              obtain ⟨v, HV⟩ : ∃ v, Hid (numI s b = v) := ⟨_, rfl⟩
              rw [unhide HV] at HST
              clear hYl
              go_wp2_with fail
              refine (specNumOf s b v HV wr).mono ?_
              rintro e w8 ⟨rfl, rfl⟩
              go_wp2_with (at_builtin; refine append_x rfl _ _ rfl w pb _ _ (.slice so2 Y.length sc2) Y rfl (unhide hY) v rfl (by omega) ?_; intro v' w9 h9)
              have H9 := hide h9
              clear h9 hY
              go_wp2
              go_roundw
              case rel => exact ⟨k + 1, Y ++ [v], by omega, by go_num, by simp; omega, (unhide H9).own, unhide HST, (unhide H9).grown⟩
              case measure => simp [intOf]; omega
            · have hd4 : decide ((Y.length : Int) ≤ (M : Int)) = false := decide_eq_false (by omega)
              rw [if_neg (by omega)] at HST
              go_wp2
              go_roundw
              case rel => exact ⟨k + 1, Y, by omega, by go_num, by omega, (unhide hY).own, unhide HST, (unhide hY).grown⟩
              case measure => simp [intOf]; omega
    · obtain rfl : n = k := by omega
      have hall : putIts M [] I = X := by
        have h := unhide hput
        rw [← hl, List.take_length] at h
        exact h
      by_cases hXM : X.length = M
      · have hb1 : ((X.length : Int) != (M : Int)) = false := by rw [hXM]; simp
        obtain ⟨R, HRR⟩ : ∃ R, Hid (runsG X = R) := ⟨_, rfl⟩
        have HALL := hide hall
        have HXM := hide hXM
        clear hall hput hXM
        go_wp2_with fail
        refine (specRunsOf so X.length sc X wr (own_rd (unhide ho))).mono ?_
        rw [unhide HRR]
        rintro e w2 ⟨v, rfl, o2, g2⟩
        obtain ⟨ro, rc, rfl⟩ := own_form o2
        have HR2 := hide (own_rdT o2)
        have HO2 := hide (own_grown (unhide ho) g2)
        have HG2 := hide (grown_trans (unhide hg) g2)
        have HI2 := hide ((unhide HRW).grown (unhide HG2))
        clear o2 g2 ho hg
        go_wp2
        go_loopw [11, 12] (fun o i wv => ∃ (t : Nat) (sm : Bool), t ≤ R.length ∧ i = .int .i64 t ∧ o = .bool sm ∧ Hid (sm = true → R.length = n ∧ R.take t = I.take t) ∧ Hid (sm = false → R ≠ I) ∧ Hid (w2.grownBy wv none)) (fun _ i _ => R.length - (intOf i).toNat)
        case atStart => exact ⟨0, _, Nat.zero_le _, rfl, rfl, fun h => ⟨by have := eq_of_beq h; omega, rfl⟩, fun h e => by rw [e, hl] at h; simp at h, World.grownBy.refl _ _⟩
        case round =>
          obtain ⟨t, sm, ht, rfl, rfl, hT, hF, hg⟩ := hrel
          cases sm with
          | false =>
            have hne := unhide hF rfl
            have hf : fromG I M = ([], false) := by
              unfold fromG
              rw [if_neg (fun h => hne (by have h2 := h.2.2.2; rw [Int.toNat_natCast, unhide HALL, unhide HRR] at h2; exact h2))]
            have hf2 := (unhide HF).symm.trans hf
            simp only [Prod.mk.injEq] at hf2
            obtain ⟨rfl, rfl⟩ := hf2
            have HG3 := hide (grown_trans (unhide HG2) (unhide hg))
            have HF2 : Hid ((wr.alloc (.cells #[] 3)).ownsRow wr.heap.size 3 1 (.slice (some ⟨wr.heap.size, 0, none⟩) 0 0) 0 [] ∧ w.grownBy (wr.alloc (.cells #[] 3)) none) := ⟨World.ownsRow_lit wr #[] 0 (Nat.le_refl _) (by unfold maxLen; omega) rfl, grown_alloc (unhide HG3) _⟩
            clear hf hne hT hF
            by_cases h1 : t < R.length
            · have hd1 : decide ((t : Int) < (R.length : Int)) = true := decide_eq_true (by omega)
              go_wp2
              refine bodyPost_ret (v := .tuple #[.slice (some ⟨wr.heap.size, 0, none⟩) 0 0, .bool false]) (by simp [results, Try.results5, go_sem, *]) rfl ?_
              exact ⟨_, rfl, own_base (unhide HF2).1 (unhide HG3).size, (unhide HF2).2⟩
            · have hd1 : decide ((t : Int) < (R.length : Int)) = false := decide_eq_false (by omega)
              go_wp2
              refine bodyPost_ret (v := .tuple #[.slice (some ⟨wr.heap.size, 0, none⟩) 0 0, .bool false]) (by simp [results, Try.results5, go_sem, *]) rfl ?_
              exact ⟨_, rfl, own_base (unhide HF2).1 (unhide HG3).size, (unhide HF2).2⟩
          | true =>
            obtain ⟨hRn, htk⟩ := unhide hT rfl
            by_cases h1 : t < R.length
            · have hd1 : decide ((t : Int) < (R.length : Int)) = true := decide_eq_true (by omega)
              obtain ⟨rb, roff, rfl, a0, a1, a2⟩ := ((unhide HR2).grown (unhide hg)).2 t h1
              obtain ⟨ib, ioff, rfl, c0, c1, c2⟩ := ((unhide HI2).grown (unhide hg)).2 t (by omega)
              have hRt : R.take (t + 1) = R.take t ++ [R.getD t (0, 0, 0)] := by rw [List.take_succ_eq_append_getElem h1]; simp [h1]
              have hIt : I.take (t + 1) = I.take t ++ [I.getD t (0, 0, 0)] := by rw [List.take_succ_eq_append_getElem (show t < I.length by omega)]; simp [show t < I.length by omega]
              have hIR : R.getD t (0, 0, 0) ≠ I.getD t (0, 0, 0) → R ≠ I := fun h e => h (by rw [e])
              generalize R.getD t (0, 0, 0) = x at *
              generalize I.getD t (0, 0, 0) = y at *
              obtain ⟨x0, x1, x2⟩ := x
              obtain ⟨y0, y1, y2⟩ := y
              dsimp only at a0 a1 a2 c0 c1 c2
              have hInt : (t : Int) < (n : Int) := by omega
              have hIntR : (t : Int) < (R.length : Int) := by omega
              have HEQ : Hid (x0 = y0 → x1 = y1 → x2 = y2 → R.take (t + 1) = I.take (t + 1)) := fun h0 h1 h2 => by rw [hRt, hIt, htk, h0, h1, h2]
              have HNE : Hid (¬ (x0 = y0 ∧ x1 = y1 ∧ x2 = y2) → R ≠ I) := fun h => hIR (fun e => h (by simpa using e))
              have HRN := hide hRn
              clear hRt hIt hIR htk hT hF hRn
              go_wp2
              cases he0 : (x0 == y0) <;> cases he1 : (x1 == y1) <;> cases he2 : (x2 == y2)
              all_goals (go_quiet (fail))
              all_goals go_wp2
              all_goals go_roundw
              all_goals first
                | exact ⟨t + 1, false, by omega, by go_num, rfl, fun h => absurd h (by simp), fun _ => unhide HNE (fun h => by first | exact ne_of_beq_false he0 h.1 | exact ne_of_beq_false he1 h.2.1 | exact ne_of_beq_false he2 h.2.2), grown_drewN (unhide hg) _⟩
                | exact ⟨t + 1, true, by omega, by go_num, rfl, fun _ => ⟨unhide HRN, unhide HEQ (eq_of_beq he0) (eq_of_beq he1) (eq_of_beq he2)⟩, fun h => absurd h (by simp), grown_drewN (unhide hg) _⟩
                | (simp [intOf]; omega)
            · have hd1 : decide ((t : Int) < (R.length : Int)) = false := decide_eq_false (by omega)
              have hRI : R = I := by
                have e1 : t = R.length := by omega
                rw [e1, List.take_length, hRn, ← hl, List.take_length] at htk
                exact htk
              have hf : fromG I M = (X, true) := by
                unfold fromG
                rw [Int.toNat_natCast, unhide HALL, unhide HRR, if_pos ⟨by omega, by omega, unhide HXM, hRI⟩]
              have hf2 := (unhide HF).symm.trans hf
              simp only [Prod.mk.injEq] at hf2
              obtain ⟨rfl, rfl⟩ := hf2
              have HO3 := hide (own_grown (unhide HO2) (unhide hg))
              have HG3 := hide (grown_trans (unhide HG2) (unhide hg))
              clear hf hRI htk hT hF hRn
              go_wp2
              refine bodyPost_ret (v := .tuple #[.slice so ys.length sc, .bool true]) (by simp [results, Try.results5, go_sem, *]) rfl ?_
              exact ⟨_, rfl, unhide HO3, unhide HG3⟩
      · have hb1 : ((X.length : Int) != (M : Int)) = true := by simp; omega
        have hf : fromG I M = ([], false) := by
          unfold fromG
          rw [if_neg (fun h => hXM (by have h2 := h.2.2.1; rw [Int.toNat_natCast, hall] at h2; exact h2))]
        have hf2 := (unhide HF).symm.trans hf
        simp only [Prod.mk.injEq] at hf2
        obtain ⟨rfl, rfl⟩ := hf2
        have HF2 : Hid ((wr.alloc (.cells #[] 3)).ownsRow wr.heap.size 3 1 (.slice (some ⟨wr.heap.size, 0, none⟩) 0 0) 0 [] ∧ w.grownBy (wr.alloc (.cells #[] 3)) none) := ⟨World.ownsRow_lit wr #[] 0 (Nat.le_refl _) (by unfold maxLen; omega) rfl, grown_alloc (unhide hg) _⟩
        clear hall hput hf
        go_wp2
        refine bodyPost_ret (v := .tuple #[.slice (some ⟨wr.heap.size, 0, none⟩) 0 0, .bool false]) (by simp [results, Try.results5, go_sem, *]) rfl ?_
        exact ⟨_, rfl, own_base (unhide HF2).1 (unhide hg).size, (unhide HF2).2⟩

end Go.Proofs.Ytmomfopbdpgcgab
