/-
  The best lens in the specification.
-/
import Derived.Test.YtcbaiagkdphkeaaMergeSpec
import Derived.Test.YtcbaiagkdphkeaaCodeSpec
import Derived.Test.YtcbaiagkdphkeaaAppRdI
import Derived.Test.YtcbaiagkdphkeaaBestPure5
namespace Go.Proofs.Ytcbaiagkdphkeaa
open Go.RowKit

theorem made_zeros (M : Nat) : (madeCells (#[.int .i64 0] : Array Value) M).toList = (List.replicate M (0 : Int)).map (Value.int .i64) := by
  apply List.ext_getElem?
  intro c
  by_cases hc : c < M
  · have e : c % 1 = 0 := Nat.mod_one c
    simp [madeCells, hc, e]
  · simp [madeCells, hc]
/-- Symbols as numbers. -/
def symI (l : List Nat) : List Int := l.map fun s : Nat => (s : Int)
theorem symI_len (l : List Nat) : (symI l).length = l.length := by simp [symI]
theorem symI_at (l : List Nat) (k : Nat) : (symI l).getD k 0 = ((l.getD k 0 : Nat) : Int) := by
  unfold symI
  rw [List.getD_eq_getElem?_getD, List.getElem?_map, List.getD_eq_getElem?_getD]
  cases l[k]? <;> rfl
theorem symI_put (l : List Nat) (k i : Nat) : (symI l).take k ++ [(i : Int)] ++ (symI l).drop k = symI (putAt l k i) := by
  unfold symI putAt
  rw [List.map_append, List.map_append, List.map_take, List.map_drop, List.append_assoc]
  rfl
theorem rd_take {w : World} {ao : Option Addr} {n : Nat} {zs : List Int} (h : Rd .i64 w ao n zs) (k : Nat) (hk : k ≤ n) : Rd .i64 w ao k (zs.take k) := by
  have hl := h.1
  refine ⟨by simp; omega, fun i hi => ?_⟩
  obtain ⟨b, off, e, hc⟩ := h.2 i (by omega)
  exact ⟨b, off, e, by rw [hc]; simp [hi]⟩
theorem rd_drop {w : World} {b off n : Nat} {zs : List Int} (h : Rd .i64 w (some ⟨b, off, none⟩) n zs) (k : Nat) (hk : k ≤ n) : Rd .i64 w (some ⟨b, off + k, none⟩) (n - k) (zs.drop k) := by
  have hl := h.1
  refine ⟨by simp; omega, fun i hi => ?_⟩
  obtain ⟨b', off', e, hc⟩ := h.2 (k + i) (by omega)
  simp only [Option.some.injEq, Addr.mk.injEq, and_true] at e
  obtain ⟨rfl, rfl⟩ := e
  refine ⟨b, off + k, rfl, ?_⟩
  rw [Nat.add_assoc, hc]
  simp
theorem rd_one (w : World) (x : Int) : Rd .i64 (w.alloc (.cells #[.int .i64 x] 3)) (some ⟨w.heap.size, 0, none⟩) 1 [x] :=
  ⟨rfl, fun i hi => by
    obtain rfl : i = 0 := by omega
    refine ⟨w.heap.size, 0, rfl, ?_⟩
    rw [cell_of_row _ w.heap.size _ _ _ (0, 0) (heap_alloc_new w _)]
    rfl⟩
theorem own_cap {w : World} {base : Nat} {e : TypeId} {g n cap : Nat} {xs : List Value} (h : w.ownsRow base e 1 (.slice (some ⟨g, 0, none⟩) n cap) n xs) : n ≤ cap := by
  rcases h.2 with ⟨h1, _⟩ | ⟨g', cap', cur, h1, _, _, h4, _⟩
  · simp at h1
  · simp only [Value.slice.injEq, true_and] at h1
    omega
theorem hold_on {p : Prop} (h : Unit → p) : p := h ()
theorem order_below (fs : List Int) (i : Nat) {k : Nat} (hk : k < (orderTo fs i).length) : (orderTo fs i).getD k 0 < i := by
  have e : (orderTo fs i).getD k 0 = (orderTo fs i)[k] := by simp [hk]
  rw [e]
  exact ((order_mem fs i _).1 (List.getElem_mem hk)).1

set_option maxRecDepth 100000 in
set_option maxHeartbeats 12800000 in
theorem specBestLens (ao : Option Addr) (n cap : Nat) (fs : List Int) (w : World) (hr : Rd .i64 w ao n fs) :
    Calls Try.prog 17 #[.slice ao n cap] w fun e w' => ∃ v, e = .returned v ∧ w'.ownsRow w.heap.size 3 1 v (bestG fs).length ((bestG fs).map (Value.int .i64)) ∧ w.grownBy w' none := by
  have hl := hr.1
  have HRW := hide hr
  clear hr
  obtain ⟨b, HB⟩ : ∃ b, Hid (freqsB fs = b) := ⟨_, rfl⟩
  cases b with
  | false =>
    have e : bestG fs = [] := by rw [bestG, unhide HB]; rfl
    rw [e]
    have HO0 : Hid ((w.alloc (.cells #[] 3)).ownsRow w.heap.size 3 1 (.slice (some ⟨w.heap.size, 0, none⟩) 0 0) 0 []) := World.ownsRow_lit w #[] 0 (Nat.le_refl _) (by unfold maxLen; omega) rfl
    have HG0 : Hid (w.grownBy (w.alloc (.cells #[] 3)) none) := World.grownBy_alloc _ _ _
    go_enter Try.func17, Try.ntmps17
    go_wp2_with fail
    refine (specFreqs ao n cap fs w (unhide HRW) false HB).mono ?_
    rintro e w1 ⟨rfl, rfl⟩
    go_wp2
    go_ret
    exact ⟨_, rfl, unhide HO0, unhide HG0⟩
  | true =>
    obtain ⟨hfl, hfb, _⟩ := freqs_parts (unhide HB)
    have hn : n ≤ 256 := by omega
    have HFB := hide hfb
    have HBE := hide (best_eq (unhide HB))
    have hblen := best_len (unhide HB)
    obtain ⟨R, HRR⟩ : ∃ R, Hid (bestG fs = R) := ⟨_, rfl⟩
    rw [unhide HRR] at hblen HBE
    rw [unhide HRR]
    have HRL : Hid (R.length = n) := by unfold Hid; rw [hblen, hl]
    obtain ⟨i0, hi, hz0, hz1, hz2⟩ := info_parts info_i9
    clear hfb hblen hfl
    go_enter Try.func17, Try.ntmps17
    go_wp2_with fail
    refine (specFreqs ao n cap fs w (unhide HRW) true HB).mono ?_
    rintro e w1 ⟨rfl, rfl⟩
    go_wp2_with (at_make; refine wpList_make_full _ rfl _ _ 24 rfl w1.heap.size 3 i0 (.int .i64 0) 1 Try.underlying24 hi hz0 hz1 .i64 .i64 _ _ n rfl rfl rfl rfl (by rw [hz2]; omega) (by unfold maxLen; omega) (Nat.le_refl _) ?_)
    intro w2 hown hgrow
    have HOUT : Hid (w2.ownsRow w1.heap.size 3 1 (.slice (some ⟨w1.heap.size, 0, none⟩) n n) n ((List.replicate n (0 : Int)).map (Value.int .i64))) := by
      unfold Hid; rw [← made_zeros]; exact hown
    have HG2 := hide hgrow
    have hs2 : w1.heap.size < w2.heap.size := (hown.lt _ rfl).2
    have HR2 := hide ((unhide HRW).grown hgrow)
    clear hown hgrow
    have HO3 : Hid ((w2.alloc (.cells #[] 3)).ownsRow w2.heap.size 3 1 (.slice (some ⟨w2.heap.size, 0, none⟩) 0 0) (orderTo fs 0).length ((symI (orderTo fs 0)).map (Value.int .i64))) := World.ownsRow_lit w2 #[] 0 (Nat.le_refl _) (by unfold maxLen; omega) rfl
    have HG3 : Hid (w2.grownBy (w2.alloc (.cells #[] 3)) none) := World.grownBy_alloc _ _ _
    go_wp2
    go_loopw [4, 5] (fun v i wr => ∃ k : Nat, k ≤ n ∧ i = .int .i64 k ∧ Hid (wr.ownsRow w2.heap.size 3 1 v (orderTo fs k).length ((symI (orderTo fs k)).map (Value.int .i64))) ∧ Hid (v ≠ .slice none 0 0) ∧ Hid (w2.grownBy wr none)) (fun _ i _ => n - (intOf i).toNat)
    case atStart => exact ⟨0, Nat.zero_le _, rfl, HO3, fun h => by simp at h, HG3⟩
    case round =>
      clear HO3 HG3
      obtain ⟨k, hk, rfl, ho, hnn, hg⟩ := hrel
      have hol := order_le fs k
      obtain ⟨wo, rfl⟩ : ∃ wo, wo = wr := ⟨wr, rfl⟩
      by_cases hlt : k < n
      · obtain ⟨fb, fo, hao, hcf⟩ := ((unhide HR2).grown (unhide hg)).2 k hlt
        have HNX : Hid (orderTo fs (k + 1) = if fs.getD k 0 = 0 then orderTo fs k else putAt (orderTo fs k) (posB (fun s => fs.getD s 0) (fs.getD k 0) (orderTo fs k) (orderTo fs k).length) k) := rfl
        have hgd := unhide HFB k (by omega)
        have HCF : Hid (∀ s wv, s < n → wo.grownBy wv none → wv.cell? ⟨fb, fo + s, none⟩ = some (.int .i64 (fs.getD s 0))) := fun s wv hs g => by
          obtain ⟨fb', fo', e, hc⟩ := ((unhide HR2).grown (grown_trans (unhide hg) g)).2 s hs
          rw [hao] at e
          simp only [Option.some.injEq, Addr.mk.injEq, and_true] at e
          obtain ⟨rfl, rfl⟩ := e
          exact hc
        obtain ⟨x, hx⟩ : ∃ x, fs.getD k 0 = x := ⟨_, rfl⟩
        rw [hx] at hcf hgd HNX
        have ek := i64_in ((k : Int) + 1) (by omega)
        subst hao
        by_cases h0 : x = 0
        · subst h0
          rw [if_pos rfl] at HNX
          have HO1 := ho
          rw [← unhide HNX] at HO1
          clear HNX
          go_wp2
          go_roundw
          case rel => exact ⟨k + 1, by omega, by go_num, HO1, hnn, hg⟩
          case measure => simp [intOf]; omega
        · rw [if_neg h0] at HNX
          have hx0 : (x == 0) = false := beq_false_of_ne h0
          have HXE := hide hx
          have hbelow := fun j (hj : j < (orderTo fs k).length) => order_below fs k hj
          generalize orderTo fs k = l at *
          obtain ⟨oo, oc, rfl⟩ := own_form (unhide ho)
          obtain ⟨og, hog⟩ : ∃ og, oo = some ⟨og, 0, none⟩ := by
            rcases (unhide ho).2 with ⟨h, _⟩ | ⟨g, c, _, h, _⟩
            · exact absurd h (unhide hnn)
            · simp only [Value.slice.injEq, true_and] at h
              exact ⟨g, h.1⟩
          subst hog
          have HRO : Hid (Rd .i64 wo (some ⟨og, 0, none⟩) l.length (symI l)) := own_rd (unhide ho)
          have HBW := hide hbelow
          clear hbelow hx
          go_wp2
          go_loopw [6] (fun j wv => ∃ q : Nat, q ≤ l.length ∧ j = .int .i64 q ∧ Hid (posB (fun s => fs.getD s 0) x l l.length = posB (fun s => fs.getD s 0) x l q) ∧ Hid (wo.grownBy wv none)) (fun j _ => (intOf j).toNat)
          case atStart => exact ⟨l.length, Nat.le_refl _, rfl, rfl, World.grownBy.refl _ _⟩
          case round =>
            obtain ⟨q, hq, rfl, hpos, hgv⟩ := hrel
            have cfk := unhide HCF k wr hlt (unhide hgv)
            rw [unhide HXE] at cfk
            have hkI : (k : Int) < (n : Int) := by omega
            by_cases hq0 : 0 < q
            · obtain ⟨p, rfl⟩ : ∃ p, q = p + 1 := ⟨q - 1, by omega⟩
              obtain ⟨b1, o1, e1, hco⟩ := ((unhide HRO).grown (unhide hgv)).2 p (by omega)
              simp only [Option.some.injEq, Addr.mk.injEq, and_true] at e1
              obtain ⟨rfl, rfl⟩ := e1
              rw [Nat.zero_add, symI_at] at hco
              have hsl := unhide HBW p (by omega)
              have hpb : posB (fun s => fs.getD s 0) x l (p + 1) = if x < fs.getD (l.getD p 0) 0 then posB (fun s => fs.getD s 0) x l p else p + 1 := rfl
              generalize l.getD p 0 = s at *
              have cfs := unhide HCF s wr (by omega) (unhide hgv)
              generalize fs.getD s 0 = y at *
              have hsI : (s : Int) < (n : Int) := by omega
              have hpI : (p : Int) < (l.length : Int) := by omega
              have hp0 : decide ((0 : Int) < ((p + 1 : Nat) : Int)) = true := decide_eq_true (by omega)
              have hp00 : decide ((0 : Int) < (p : Int) + 1) = true := decide_eq_true (by omega)
              have e3 := i64_in (p : Int) (by omega)
              by_cases hxy : x < y
              · have hd5 : decide (x < y) = true := decide_eq_true hxy
                rw [if_pos hxy] at hpb
                have HP2 : Hid (posB (fun s => fs.getD s 0) x l l.length = posB (fun s => fs.getD s 0) x l p) := by unfold Hid; rw [unhide hpos, hpb]
                clear hpos hpb
                go_wp2
                go_quiet (fail)
                go_wp2
                go_roundw
                case rel => exact ⟨p, by omega, by go_num, HP2, grown_drewN (unhide hgv) _⟩
                case measure => simp [intOf]
              · have hd5 : decide (x < y) = false := decide_eq_false hxy
                rw [if_neg hxy] at hpb
                have HP2 : Hid (posB (fun s => fs.getD s 0) x l l.length = p + 1) := by unfold Hid; rw [unhide hpos, hpb]
                clear hpos hpb
                go_wp2
                go_quiet (fail)
                obtain ⟨wq, hwq⟩ : ∃ wq, wr.drewN nq = wq := ⟨_, rfl⟩
                rw [hwq]
                have HGQ : Hid (wo.grownBy wq none) := hwq ▸ grown_drewN (unhide hgv) nq
                clear hwq hgv
                have HL0 : Hid ((wq.alloc (.cells #[] 3)).ownsRow wq.heap.size 3 1 (.slice (some ⟨wq.heap.size, 0, none⟩) 0 0) ([] : List Int).length (([] : List Int).map (Value.int .i64))) := World.ownsRow_lit wq #[] 0 (Nat.le_refl _) (by unfold maxLen; omega) rfl
                have HRT : Hid (Rd .i64 (wq.alloc (.cells #[] 3)) (some ⟨og, 0, none⟩) (p + 1) ((symI l).take (p + 1))) := rd_take ((unhide HRO).grown (grown_alloc (unhide HGQ) _)) _ (by omega)
                obtain ⟨A1, HA1⟩ : ∃ A1, Hid ((symI l).take (p + 1) = A1) := ⟨_, rfl⟩
                have hA1 : A1.length ≤ 256 := by rw [← unhide HA1, List.length_take, symI_len]; omega
                rw [unhide HA1] at HRT
                have HLE : Hid (l.length ≤ oc) := own_cap (unhide ho)
                have hqc : (p : Int) + 1 ≤ (oc : Int) := by have := unhide HLE; omega
                have hqc2 : (0 : Int) ≤ (p : Int) + 1 := by omega
                have hqc3 : p + 1 ≤ oc := by have := unhide HLE; omega
                go_wp2_with (at_builtin; refine append_rdI rfl (.tmp 56) (.tmp 59) rfl wq.heap.size _ [] rfl (unhide HL0) ⟨og, 0, none⟩ (p + 1) oc A1 rfl (unhide HRT) (by simp <;> omega) (by simp) A1 (List.nil_append _) ?_)
                intro v1 w3 o3 g3
                obtain ⟨r1, c1, rfl⟩ := own_form o3
                have HO3 := hide o3
                have HG3 : Hid (wq.grownBy w3 none) := grown_new (World.grownBy_alloc _ _ _) g3 (fun g e => by simp [Value.ownBlock] at e; omega)
                clear o3 g3 HL0 HRT
                obtain ⟨A2, HA2⟩ : ∃ A2, Hid (A1 ++ [(k : Int)] = A2) := ⟨_, rfl⟩
                have hA2 : A2.length ≤ 257 := by rw [← unhide HA2, List.length_append]; simp; omega
                go_wp2_with (at_builtin; (refine append_rdI rfl (.tmp 61) (.tmp 63) rfl wq.heap.size (.slice r1 A1.length c1) A1 rfl ((unhide HO3).alloc _) ⟨w3.heap.size, 0, none⟩ 1 1 [(k : Int)] rfl (rd_one w3 (k : Int)) (by omega) (by have := (unhide HG3).size; simp; omega) A2 (unhide HA2) ?_))
                intro v2 w4 o4 g4
                obtain ⟨r2, c2, rfl⟩ := own_form o4
                have HO4 := hide o4
                have HG4 : Hid (wq.grownBy w4 none) := grown_new (grown_alloc (unhide HG3) _) g4 (fun g e => ((unhide HO3).lt g e).1)
                clear o4 g4 HO3 HG3
                by_cases hoc : oc = p + 1
                · have hlq : l.length = p + 1 := by have := unhide HLE; omega
                  have HZ0 : Hid ((symI l).drop (p + 1) = []) := List.drop_eq_nil_of_le (by rw [symI_len]; omega)
                  have HRD : Hid (Rd .i64 w4 (some ⟨og, 0, none⟩) 0 ([] : List Int)) := ⟨rfl, fun i hi => absurd hi (by omega)⟩
                  have hll : l.length - (p + 1) = 0 := by omega
                  have hoo : oc - (p + 1) = 0 := by omega
                  have HLQ := hide hlq
                  clear hlq
                  obtain ⟨A3, HA3⟩ : ∃ A3, Hid (A2 ++ ([] : List Int) = A3) := ⟨_, rfl⟩
                  go_wp2_with (at_builtin; refine append_rdI rfl (.tmp 65) (.tmp 68) rfl wq.heap.size (.slice r2 A2.length c2) A2 rfl (unhide HO4) ⟨og, 0, none⟩ 0 0 [] rfl (unhide HRD) (by omega) (unhide HG4).size A3 (unhide HA3) ?_)
                  intro v3 w5 o5 g5
                  obtain ⟨r3, c3, rfl⟩ := own_form o5
                  have HG5 : Hid (w2.grownBy w5 none) := grown_trans (unhide hg) (grown_trans (unhide HGQ) (grown_new (unhide HG4) g5 (fun g e => ((unhide HO4).lt g e).1)))
                  have HE5 : Hid (A3 = symI (orderTo fs (k + 1))) := by unfold Hid; rw [unhide HNX, unhide HP2, ← symI_put, unhide HA1, unhide HA2, unhide HZ0, unhide HA3]
                  have HL5 : Hid (A3.length = (orderTo fs (k + 1)).length) := by unfold Hid; rw [unhide HE5, symI_len]
                  have HO5 : Hid (w5.ownsRow w2.heap.size 3 1 (.slice r3 A3.length c3) (orderTo fs (k + 1)).length ((symI (orderTo fs (k + 1))).map (Value.int .i64))) := by
                    have h := own_base o5 (base' := w2.heap.size) (by have h1 := (unhide hg).size; have h2 := (unhide HGQ).size; omega)
                    rw [unhide HE5, symI_len] at h
                    rw [unhide HE5, symI_len]
                    exact h
                  have HN5 : Hid (Value.slice r3 A3.length c3 ≠ .slice none 0 0) := fun h => by
                    simp only [Value.slice.injEq] at h
                    have h2 := h.2.1
                    have h3 := congrArg List.length (unhide HA3)
                    rw [List.length_append] at h3
                    have h4 : A2.length = A1.length + 1 := by rw [← unhide HA2, List.length_append]; rfl
                    omega
                  clear o5 g5 HO4 HG4
                  go_wp2
                  go_roundw
                  case rel => exact ⟨k + 1, by omega, by go_num, HO5, HN5, HG5⟩
                  case measure => simp [intOf]; omega
                · have HRD0 : Hid (Rd .i64 w4 (some ⟨og, p + 1, none⟩) (l.length - (p + 1)) ((symI l).drop (p + 1))) := by
                    have h := rd_drop ((unhide HRO).grown (grown_trans (unhide HGQ) (unhide HG4))) (p + 1) (by omega)
                    rw [Nat.zero_add] at h
                    exact h
                  obtain ⟨D, HD⟩ : ∃ D, Hid ((symI l).drop (p + 1) = D) := ⟨_, rfl⟩
                  rw [unhide HD] at HRD0
                  have hDl : D.length ≤ 256 := by rw [← unhide HD, List.length_drop, symI_len]; omega
                  have hlb : l.length ≤ 256 := by omega
                  obtain ⟨A3, HA3⟩ : ∃ A3, Hid (A2 ++ D = A3) := ⟨_, rfl⟩
                  go_wp2_with (at_builtin; refine append_rdI rfl (.tmp 65) (.tmp 68) rfl wq.heap.size (.slice r2 A2.length c2) A2 rfl (unhide HO4) _ _ _ D rfl (unhide HRD0) (by omega) (unhide HG4).size A3 (unhide HA3) ?_)
                  intro v3 w5 o5 g5
                  obtain ⟨r3, c3, rfl⟩ := own_form o5
                  have HG5 : Hid (w2.grownBy w5 none) := grown_trans (unhide hg) (grown_trans (unhide HGQ) (grown_new (unhide HG4) g5 (fun g e => ((unhide HO4).lt g e).1)))
                  have HE5 : Hid (A3 = symI (orderTo fs (k + 1))) := by unfold Hid; rw [unhide HNX, unhide HP2, ← symI_put, unhide HA1, unhide HA2, unhide HD, unhide HA3]
                  have HL5 : Hid (A3.length = (orderTo fs (k + 1)).length) := by unfold Hid; rw [unhide HE5, symI_len]
                  have HO5 : Hid (w5.ownsRow w2.heap.size 3 1 (.slice r3 A3.length c3) (orderTo fs (k + 1)).length ((symI (orderTo fs (k + 1))).map (Value.int .i64))) := by
                    have h := own_base o5 (base' := w2.heap.size) (by have h1 := (unhide hg).size; have h2 := (unhide HGQ).size; omega)
                    rw [unhide HE5, symI_len] at h
                    rw [unhide HE5, symI_len]
                    exact h
                  have HN5 : Hid (Value.slice r3 A3.length c3 ≠ .slice none 0 0) := fun h => by
                    simp only [Value.slice.injEq] at h
                    have h2 := h.2.1
                    have h3 := congrArg List.length (unhide HA3)
                    rw [List.length_append] at h3
                    have h4 : A2.length = A1.length + 1 := by rw [← unhide HA2, List.length_append]; rfl
                    omega
                  clear o5 g5 HO4 HG4
                  go_wp2
                  go_roundw
                  case rel => exact ⟨k + 1, by omega, by go_num, HO5, HN5, HG5⟩
                  case measure => simp [intOf]; omega
            · obtain rfl : q = 0 := by omega
              have HP2 : Hid (posB (fun s => fs.getD s 0) x l l.length = 0) := unhide hpos
              clear hpos
              go_wp2
              go_quiet (fail)
              obtain ⟨wq, hwq⟩ : ∃ wq, wr.drewN nq = wq := ⟨_, rfl⟩
              rw [hwq]
              have HGQ : Hid (wo.grownBy wq none) := hwq ▸ grown_drewN (unhide hgv) nq
              clear hwq hgv
              have HL0 : Hid ((wq.alloc (.cells #[] 3)).ownsRow wq.heap.size 3 1 (.slice (some ⟨wq.heap.size, 0, none⟩) 0 0) ([] : List Int).length (([] : List Int).map (Value.int .i64))) := World.ownsRow_lit wq #[] 0 (Nat.le_refl _) (by unfold maxLen; omega) rfl
              have HRT : Hid (Rd .i64 (wq.alloc (.cells #[] 3)) (some ⟨og, 0, none⟩) (0) ((symI l).take (0))) := rd_take ((unhide HRO).grown (grown_alloc (unhide HGQ) _)) _ (by omega)
              obtain ⟨A1, HA1⟩ : ∃ A1, Hid ((symI l).take (0) = A1) := ⟨_, rfl⟩
              have hA1 : A1.length ≤ 256 := by rw [← unhide HA1, List.length_take, symI_len]; omega
              rw [unhide HA1] at HRT
              have HLE : Hid (l.length ≤ oc) := own_cap (unhide ho)
              go_wp2_with (at_builtin; refine append_rdI rfl (.tmp 56) (.tmp 59) rfl wq.heap.size _ [] rfl (unhide HL0) ⟨og, 0, none⟩ (0) oc A1 rfl (unhide HRT) (by simp <;> omega) (by simp) A1 (List.nil_append _) ?_)
              intro v1 w3 o3 g3
              obtain ⟨r1, c1, rfl⟩ := own_form o3
              have HO3 := hide o3
              have HG3 : Hid (wq.grownBy w3 none) := grown_new (World.grownBy_alloc _ _ _) g3 (fun g e => by simp [Value.ownBlock] at e; omega)
              clear o3 g3 HL0 HRT
              obtain ⟨A2, HA2⟩ : ∃ A2, Hid (A1 ++ [(k : Int)] = A2) := ⟨_, rfl⟩
              have hA2 : A2.length ≤ 257 := by rw [← unhide HA2, List.length_append]; simp; omega
              go_wp2_with (at_builtin; (refine append_rdI rfl (.tmp 61) (.tmp 63) rfl wq.heap.size (.slice r1 A1.length c1) A1 rfl ((unhide HO3).alloc _) ⟨w3.heap.size, 0, none⟩ 1 1 [(k : Int)] rfl (rd_one w3 (k : Int)) (by omega) (by have := (unhide HG3).size; simp; omega) A2 (unhide HA2) ?_))
              intro v2 w4 o4 g4
              obtain ⟨r2, c2, rfl⟩ := own_form o4
              have HO4 := hide o4
              have HG4 : Hid (wq.grownBy w4 none) := grown_new (grown_alloc (unhide HG3) _) g4 (fun g e => ((unhide HO3).lt g e).1)
              clear o4 g4 HO3 HG3
              by_cases hoc : oc = 0
              · have hlq : l.length = 0 := by have := unhide HLE; omega
                have HZ0 : Hid ((symI l).drop (0) = []) := List.drop_eq_nil_of_le (by rw [symI_len]; omega)
                have HRD : Hid (Rd .i64 w4 (some ⟨og, 0, none⟩) 0 ([] : List Int)) := ⟨rfl, fun i hi => absurd hi (by omega)⟩
                have hll : l.length - (0) = 0 := by omega
                have hoo : oc - (0) = 0 := by omega
                have HLQ := hide hlq
                clear hlq
                obtain ⟨A3, HA3⟩ : ∃ A3, Hid (A2 ++ ([] : List Int) = A3) := ⟨_, rfl⟩
                go_wp2_with (at_builtin; refine append_rdI rfl (.tmp 65) (.tmp 68) rfl wq.heap.size (.slice r2 A2.length c2) A2 rfl (unhide HO4) ⟨og, 0, none⟩ 0 0 [] rfl (unhide HRD) (by omega) (unhide HG4).size A3 (unhide HA3) ?_)
                intro v3 w5 o5 g5
                obtain ⟨r3, c3, rfl⟩ := own_form o5
                have HG5 : Hid (w2.grownBy w5 none) := grown_trans (unhide hg) (grown_trans (unhide HGQ) (grown_new (unhide HG4) g5 (fun g e => ((unhide HO4).lt g e).1)))
                have HE5 : Hid (A3 = symI (orderTo fs (k + 1))) := by unfold Hid; rw [unhide HNX, unhide HP2, ← symI_put, unhide HA1, unhide HA2, unhide HZ0, unhide HA3]
                have HL5 : Hid (A3.length = (orderTo fs (k + 1)).length) := by unfold Hid; rw [unhide HE5, symI_len]
                have HO5 : Hid (w5.ownsRow w2.heap.size 3 1 (.slice r3 A3.length c3) (orderTo fs (k + 1)).length ((symI (orderTo fs (k + 1))).map (Value.int .i64))) := by
                  have h := own_base o5 (base' := w2.heap.size) (by have h1 := (unhide hg).size; have h2 := (unhide HGQ).size; omega)
                  rw [unhide HE5, symI_len] at h
                  rw [unhide HE5, symI_len]
                  exact h
                have HN5 : Hid (Value.slice r3 A3.length c3 ≠ .slice none 0 0) := fun h => by
                  simp only [Value.slice.injEq] at h
                  have h2 := h.2.1
                  have h3 := congrArg List.length (unhide HA3)
                  rw [List.length_append] at h3
                  have h4 : A2.length = A1.length + 1 := by rw [← unhide HA2, List.length_append]; rfl
                  omega
                clear o5 g5 HO4 HG4
                go_wp2
                go_roundw
                case rel => exact ⟨k + 1, by omega, by go_num, HO5, HN5, HG5⟩
                case measure => simp [intOf]; omega
              · have HRD0 : Hid (Rd .i64 w4 (some ⟨og, 0, none⟩) (l.length - (0)) ((symI l).drop (0))) := by
                  have h := rd_drop ((unhide HRO).grown (grown_trans (unhide HGQ) (unhide HG4))) (0) (by omega)
                  rw [Nat.zero_add] at h
                  exact h
                obtain ⟨D, HD⟩ : ∃ D, Hid ((symI l).drop (0) = D) := ⟨_, rfl⟩
                rw [unhide HD] at HRD0
                have hDl : D.length ≤ 256 := by rw [← unhide HD, List.length_drop, symI_len]; omega
                have hlb : l.length ≤ 256 := by omega
                obtain ⟨A3, HA3⟩ : ∃ A3, Hid (A2 ++ D = A3) := ⟨_, rfl⟩
                go_wp2_with (at_builtin; refine append_rdI rfl (.tmp 65) (.tmp 68) rfl wq.heap.size (.slice r2 A2.length c2) A2 rfl (unhide HO4) _ _ _ D rfl (unhide HRD0) (by omega) (unhide HG4).size A3 (unhide HA3) ?_)
                intro v3 w5 o5 g5
                obtain ⟨r3, c3, rfl⟩ := own_form o5
                have HG5 : Hid (w2.grownBy w5 none) := grown_trans (unhide hg) (grown_trans (unhide HGQ) (grown_new (unhide HG4) g5 (fun g e => ((unhide HO4).lt g e).1)))
                have HE5 : Hid (A3 = symI (orderTo fs (k + 1))) := by unfold Hid; rw [unhide HNX, unhide HP2, ← symI_put, unhide HA1, unhide HA2, unhide HD, unhide HA3]
                have HL5 : Hid (A3.length = (orderTo fs (k + 1)).length) := by unfold Hid; rw [unhide HE5, symI_len]
                have HO5 : Hid (w5.ownsRow w2.heap.size 3 1 (.slice r3 A3.length c3) (orderTo fs (k + 1)).length ((symI (orderTo fs (k + 1))).map (Value.int .i64))) := by
                  have h := own_base o5 (base' := w2.heap.size) (by have h1 := (unhide hg).size; have h2 := (unhide HGQ).size; omega)
                  rw [unhide HE5, symI_len] at h
                  rw [unhide HE5, symI_len]
                  exact h
                have HN5 : Hid (Value.slice r3 A3.length c3 ≠ .slice none 0 0) := fun h => by
                  simp only [Value.slice.injEq] at h
                  have h2 := h.2.1
                  have h3 := congrArg List.length (unhide HA3)
                  rw [List.length_append] at h3
                  have h4 : A2.length = A1.length + 1 := by rw [← unhide HA2, List.length_append]; rfl
                  omega
                clear o5 g5 HO4 HG4
                go_wp2
                go_roundw
                case rel => exact ⟨k + 1, by omega, by go_num, HO5, HN5, HG5⟩
                case measure => simp [intOf]; omega
      · obtain rfl : k = n := by omega
        have HOG : Hid (orderTo fs k = orderG fs) := by unfold Hid orderG; rw [hl]
        have hpos := order_pos (unhide HB)
        have HIN : Hid (∀ j, j < (orderG fs).length → (orderG fs).getD j 0 < k ∧ fs.getD ((orderG fs).getD j 0) 0 ≤ 1000000) := fun j hj => by
          have h1 := order_in (unhide HB) hj
          have h2 := unhide HFB _ h1.1
          exact ⟨by omega, h2.2⟩
        have HWC := hide (coinW_len fs)
        have HWA := hide (coinW_at fs)
        have HWP : Hid (∀ x ∈ coinW fs, 0 ≤ x ∧ x ≤ 1000000) := fun x hx => by
          refine ⟨coins_pos (unhide HB) x hx, ?_⟩
          obtain ⟨j, hj, rfl⟩ := List.getElem_of_mem hx
          rw [coinW_len] at hj
          have h1 := (unhide HIN j hj).2
          rw [← coinW_at fs j hj] at h1
          have e : (coinW fs).getD j 0 = (coinW fs)[j]'(by rw [coinW_len]; exact hj) := by simp [coinW_len, hj]
          rw [e] at h1
          exact h1
        have HEN := hide (fun h => things_enough (ws := coinW fs) coins_rise (coins_pos (unhide HB)) h (coinW_few (unhide HB)))
        have HRE : Hid (R = spread k (orderG fs) (if (orderG fs).length = 1 then [1] else lensC (coinW fs))) := by
          have h := unhide HBE
          rw [hl] at h
          exact h
        rw [unhide HOG] at ho hol
        generalize orderG fs = l at *
        generalize coinW fs = ws at *
        obtain ⟨M, hM⟩ : ∃ M, l.length = M := ⟨_, rfl⟩
        rw [hM] at hpos hol
        obtain ⟨oo, oc, rfl⟩ := own_form (unhide ho)
        have HRO : Hid (Rd .i64 wo oo M (symI l)) := by
          have h := own_rd (unhide ho)
          rw [hM] at h
          exact h
        have HOW : Hid (wo.ownsRow w1.heap.size 3 1 (.slice (some ⟨w1.heap.size, 0, none⟩) k k) k ((List.replicate k (0 : Int)).map (Value.int .i64))) := own_grown (unhide HOUT) (unhide hg)
        have HOB : Hid (∀ b o, oo = some ⟨b, o, none⟩ → w2.heap.size ≤ b) := fun b o e => ((unhide ho).lt b (by rw [e]; rfl)).1
        rw [hM]
        have HM := hide hM
        have hM256 : M ≤ 256 := by omega
        clear hM ho HOUT HBE hnn hlt
        by_cases hone : M = 1
        · subst hone
          obtain ⟨ob, o1, rfl, hco⟩ := (unhide HRO).2 0 (by omega)
          rw [symI_at, Nat.add_zero] at hco
          have hs := (unhide HIN 0 (by rw [unhide HM]; omega)).1
          have hls : l = [l.getD 0 0] := by
            match l, unhide HM with
            | [a], _ => rfl
          obtain ⟨s, hse⟩ : ∃ s, l.getD 0 0 = s := ⟨_, rfl⟩
          rw [hse] at hco hs hls
          have HE1 : Hid ((List.replicate k (0 : Int)).set s 1 = R) := by
            unfold Hid
            rw [unhide HRE, if_pos (unhide HM), hls, spread_one k s hs]
          have hf := (unhide HOW).frozenAt s
          obtain ⟨u, hu⟩ : ∃ u, wo.cell? ⟨w1.heap.size, s, none⟩ = some u := by
            rw [(unhide HOW).cellAt s (by omega)]
            exact ⟨_, List.getElem?_eq_getElem (by rw [(unhide HOW).1]; omega)⟩
          have HST : Hid ((wo.setCell ⟨w1.heap.size, s, none⟩ (.int .i64 1)).ownsRow w1.heap.size 3 1 (.slice (some ⟨w1.heap.size, 0, none⟩) k k) k (R.map (Value.int .i64)) ∧ w1.grownBy (wo.setCell ⟨w1.heap.size, s, none⟩ (.int .i64 1)) none) := by
            have st := (unhide HOW).stored s (.int .i64 1)
            rw [List.map_set.symm, unhide HE1] at st
            exact ⟨st.1, grown_new (grown_trans (unhide HG2) (unhide hg)) st.2 (fun g e => by simp at e; omega)⟩
          have hsI : (s : Int) < (k : Int) := by omega
          clear hls hse
          go_wp2
          go_ret
          exact ⟨_, rfl, by rw [unhide HRL]; exact (unhide HST).1, (unhide HST).2⟩
        · have hM1 : ((M : Int) == 1) = false := by simp; omega
          have HREL : Hid (R = spread k l (lensC ws)) := by
            unfold Hid; rw [unhide HRE, if_neg (by rw [unhide HM]; exact hone)]
          have hwl : ws.length = M := by rw [unhide HWC, unhide HM]
          have HWL := hide hwl
          have HOC0 : Hid (OwnH wo (wo.alloc (.cells #[] 57)) (.slice (some ⟨wo.heap.size, 0, none⟩) 0 0) []) :=
            ⟨World.ownsRow_lit wo #[] 0 (Nat.le_refl _) (by unfold maxLen; omega) rfl, fun _ h => by simp at h, fun _ h => by simp at h, fun _ h => by simp at h, World.grownBy_alloc _ _ _⟩
          clear hwl HRE
          go_wp2
          go_loopw [9, 10] (fun v i wr => ∃ (q : Nat) (C : List Hd), q ≤ M ∧ i = .int .i64 q ∧ Hid (OwnH wo wr v C) ∧ Hid (C.map hdTh = (coinsG ws).take q) ∧ Hid (∀ h ∈ C, h.cs.length = M ∧ ∀ b o, h.co = some ⟨b, o, none⟩ → w2.heap.size ≤ b)) (fun _ i _ => M - (intOf i).toNat)
          case atStart => exact ⟨0, [], Nat.zero_le _, rfl, HOC0, rfl, fun _ h => by simp at h⟩
          case round =>
            clear HOC0
            obtain ⟨q, C, hq, rfl, hC, hCT, hCN⟩ := hrel
            obtain ⟨wc, rfl⟩ : ∃ wc, wc = wr := ⟨wr, rfl⟩
            have HCL : Hid (C.length = q) := by
              have h := congrArg List.length (unhide hCT)
              rw [List.length_map, List.length_take, coins_len, unhide HWL] at h
              unfold Hid; omega
            have hCb : C.length ≤ 256 := by have := unhide HCL; omega
            obtain ⟨co, cc, rfl⟩ := own_form (unhide hC).own
            by_cases hqM : q < M
            · have hd2 : decide ((q : Int) < (M : Int)) = true := decide_eq_true (by omega)
              obtain ⟨ob, o1, hoo, hco⟩ := (unhide HRO).2 q hqM
              rw [symI_at] at hco
              have hin := unhide HIN q (by rw [unhide HM]; exact hqM)
              have hwa := unhide HWA q (by rw [unhide HM]; exact hqM)
              have HTK : Hid ((coinsG ws).take (q + 1) = (coinsG ws).take q ++ [⟨ws.getD q 0, unitV M q⟩]) := by
                unfold Hid
                rw [List.take_succ_eq_append_getElem (by rw [coins_len, unhide HWL]; exact hqM)]
                simp [coinsG, unhide HWL]
              generalize l.getD q 0 = s at *
              obtain ⟨fb, fo, hao, hcf⟩ := ((unhide HR2).grown (unhide hg)).2 s hin.1
              generalize fs.getD s 0 = f at *
              rw [hwa] at HTK
              subst hoo hao
              have hqI : (q : Int) < (M : Int) := by omega
              have hsI : (s : Int) < (k : Int) := by omega
              have eq1 := i64_in ((q : Int) + 1) (by omega)
              have HGC := hide (unhide hC).grown
              go_wp2_with (at_make; refine wpList_make_full _ rfl _ _ 24 rfl wc.heap.size 3 i0 (.int .i64 0) 1 Try.underlying24 hi hz0 hz1 .i64 .i64 _ _ M rfl rfl rfl rfl (by rw [hz2]; omega) (by unfold maxLen; omega) (Nat.le_refl _) ?_)
              intro w5 hown5 hgrow5
              have HOW5 : Hid (w5.ownsRow wc.heap.size 3 1 (.slice (some ⟨wc.heap.size, 0, none⟩) M M) M ((List.replicate M (0 : Int)).map (Value.int .i64))) := by
                unfold Hid; rw [← made_zeros]; exact hown5
              have hf5 := (unhide HOW5).frozenAt q
              obtain ⟨u5, hu5⟩ : ∃ u, w5.cell? ⟨wc.heap.size, q, none⟩ = some u := by
                rw [(unhide HOW5).cellAt q (by omega)]
                exact ⟨_, List.getElem?_eq_getElem (by rw [(unhide HOW5).1]; omega)⟩
              have st := (unhide HOW5).stored q (.int .i64 1)
              rw [List.map_set.symm] at st
              have HU5 : Hid ((w5.setCell ⟨wc.heap.size, q, none⟩ (.int .i64 1)).ownsRow wc.heap.size 3 1 (.slice (some ⟨wc.heap.size, 0, none⟩) M M) M ((unitV M q).map (Value.int .i64))) := st.1
              have HG6 : Hid (wc.grownBy (w5.setCell ⟨wc.heap.size, q, none⟩ (.int .i64 1)) none) := grown_new hgrow5 st.2 (fun g e => by simp at e; omega)
              have co6 := (grown_trans (unhide HGC) (unhide HG6)).cell hco (by simp)
              have cf6 := (grown_trans (unhide HGC) (unhide HG6)).cell hcf (by simp)
              clear st hown5 hgrow5 HOW5
              have HOC6 := hide ((unhide hC).more (unhide HG6))
              have HUL : Hid ((unitV M q).length = M) := unit_len M q
              have HRD6 : Hid (Rd .i64 (w5.setCell ⟨wc.heap.size, q, none⟩ (.int .i64 1)) (some ⟨wc.heap.size, 0, none⟩) (unitV M q).length (unitV M q)) := by
                unfold Hid
                rw [unhide HUL]
                exact own_rd (unhide HU5)
              have HPO6 : Hid (∀ b o, (some ⟨wc.heap.size, 0, none⟩ : Option Addr) = some ⟨b, o, none⟩ → 0 < (unitV M q).length) := fun _ _ _ => by rw [unhide HUL]; omega
              have HAW6 : Hid (∀ b o, (some ⟨wc.heap.size, 0, none⟩ : Option Addr) = some ⟨b, o, none⟩ → (Value.slice co C.length cc).ownBlock ≠ some b) := fun b o e e2 => by
                simp only [Option.some.injEq, Addr.mk.injEq, and_true] at e
                have := ((unhide hC).own.lt b e2).2
                omega
              have HCT7 : Hid ((C ++ [(⟨f, some ⟨wc.heap.size, 0, none⟩, M, unitV M q⟩ : Hd)]).map hdTh = (coinsG ws).take (q + 1)) := by
                unfold Hid
                rw [List.map_append, unhide hCT, unhide HTK]
                rfl
              have HCN7 : Hid (∀ h ∈ C ++ [(⟨f, some ⟨wc.heap.size, 0, none⟩, M, unitV M q⟩ : Hd)], h.cs.length = M ∧ ∀ b o, h.co = some ⟨b, o, none⟩ → w2.heap.size ≤ b) := fun h hh => by
                rcases List.mem_append.1 hh with hh | hh
                · exact unhide hCN h hh
                · rw [List.mem_singleton] at hh
                  subst hh
                  refine ⟨unhide HUL, fun b o e => ?_⟩
                  simp only [Option.some.injEq, Addr.mk.injEq, and_true] at e
                  have h1 := (unhide hg).size
                  have h2 := (unhide HGC).size
                  omega
              clear hC hCT hCN HTK hco hcf
              go_wp2_with (at_builtin; refine hold_on ?_)
              intro _
              obtain ⟨w6, hw6⟩ : ∃ w6, w5.setCell ⟨wc.heap.size, q, none⟩ (.int .i64 1) = w6 := ⟨_, rfl⟩
              have hs6 : w5.heap.size = w6.heap.size := by rw [← hw6]; simp
              rw [hw6] at HRD6 HOC6
              rw [hw6, hs6]
              clear hs6 hw6
              refine append_hd rfl _ _ rfl wo (.slice co C.length cc) C rfl (unhide HOC6) ⟨f, some ⟨wc.heap.size, 0, none⟩, M, unitV M q⟩ M (unhide HUL) (unhide HRD6) (unhide HPO6) (unhide HAW6) rfl (by omega) ?_
              intro v7 w7 o7 g7
              obtain ⟨so7, sc7, rfl⟩ := own_form o7.own
              simp only [List.length_append, List.length_singleton] at o7
              have HO7 := hide o7
              clear o7 g7
              go_wp2
              go_roundw
              case rel => exact ⟨q + 1, C ++ [(⟨f, some ⟨wc.heap.size, 0, none⟩, M, unitV M q⟩ : Hd)], by omega, by go_num, HO7, HCT7, HCN7⟩
              case measure => simp [intOf]; omega
            · obtain rfl : q = M := by omega
              have hCall : C.map hdTh = coinsG ws := by
                rw [unhide hCT, List.take_of_length_le (by rw [coins_len, unhide HWL]; exact Nat.le_refl _)]
              have HCA := hide hCall
              have HCR := hide (unhide hC).rdH
              have HCB : Hid (∀ b o, co = some ⟨b, o, none⟩ → w2.heap.size ≤ b) := fun b o e => by
                have h1 := ((unhide hC).own.lt b (by rw [e]; rfl)).1
                have h2 := (unhide hg).size
                omega
              have HGC := hide (grown_trans (unhide hg) (unhide hC).grown)
              have HRC := hide ((unhide HRO).grown (unhide hC).grown)
              have HWC2 := hide (own_grown (unhide HOW) (unhide hC).grown)
              clear hCall hCT hC
              go_wp2
              go_loopw [12, 13] (fun v i wr => ∃ (p : Nat) (H : List Hd) (ha : Option Addr) (hc : Nat), 1 ≤ p ∧ p ≤ 16 ∧ v = .slice ha H.length hc ∧ i = .int .i64 p ∧ Hid (RdH wr ha H.length H) ∧ Hid (H.map hdTh = thingsG (coinsG ws) (p - 1)) ∧ Hid (∀ b o, ha = some ⟨b, o, none⟩ → w2.heap.size ≤ b) ∧ Hid (∀ h ∈ H, ∀ b o, h.co = some ⟨b, o, none⟩ → w2.heap.size ≤ b) ∧ Hid (wc.grownBy wr none)) (fun _ i _ => 16 - (intOf i).toNat)
              case atStart => exact ⟨1, C, co, cc, Nat.le_refl _, by omega, rfl, rfl, HCR, unhide HCA, HCB, fun h hh => (unhide hCN h hh).2, World.grownBy.refl _ _⟩
              case round =>
                obtain ⟨p, H, ha, hc, hp1, hp, rfl, rfl, hH, hHT, hHB, hHN, hgc⟩ := hrel
                have hHl : H.length ≤ 512 := by
                  have h := congrArg List.length (unhide hHT)
                  have h2 := things_count (ws := ws) (p - 1)
                  rw [List.length_map] at h
                  have := unhide HWL
                  omega
                have HTH : Hid (∀ h ∈ H, hdTh h ∈ thingsG (coinsG ws) (p - 1)) := fun h hh => by
                  rw [← unhide hHT]
                  exact List.mem_map.2 ⟨h, hh, rfl⟩
                have HHL : Hid (∀ h ∈ H, h.cs.length = q) := fun h hh => by
                  have := things_len (ws := ws) (p - 1) _ (unhide HTH h hh)
                  rw [unhide HWL] at this
                  exact this
                by_cases hp16 : p < 16
                · have hd3 : decide ((p : Int) < 16) = true := decide_eq_true (by omega)
                  have ep := i64_in ((p : Int) + 1) (by omega)
                  have hpw : (2 : Int) ^ (p - 1) ≤ 32768 := by
                    have h1 : (2 : Nat) ^ (p - 1) ≤ 2 ^ 15 := Nat.pow_le_pow_right (by omega) (by omega)
                    have h2 : ((2 ^ (p - 1) : Nat) : Int) = (2 : Int) ^ (p - 1) := by simp
                    omega
                  have HBD : Hid (∀ h ∈ H, (0 ≤ h.w ∧ h.w ≤ 1000000000000) ∧ ∀ c ∈ h.cs, 0 ≤ c ∧ c ≤ 1000000000) := fun h hh => by
                    obtain ⟨h1, h2⟩ := things_bound (unhide HWP) (p - 1) _ (unhide HTH h hh)
                    have h3 : h.w ≤ 1000000 * 2 ^ (p - 1) := h1.2
                    have h4 : 0 ≤ h.w := h1.1
                    refine ⟨⟨h4, by omega⟩, fun c hc => ?_⟩
                    have := h2 c hc
                    omega
                  clear hpw
                  go_wp2_with fail
                  refine (specPairs co C.length cc C ha H.length hc H wr ((unhide HCR).grown (unhide hgc)) (unhide hH) (by omega) hHl q (by omega) (fun h hh => (unhide hCN h hh).1) (unhide HHL) (fun h hh => (unhide HBD h hh).1) (fun h hh => (unhide HBD h hh).2)).mono ?_
                  rintro e w8 ⟨v8, H8, rfl, o8, hT8, hN8⟩
                  obtain ⟨a8, c8, rfl⟩ := own_form o8.own
                  have HH8 := hide o8.rdH
                  have HT8 : Hid (H8.map hdTh = thingsG (coinsG ws) (p + 1 - 1)) := by
                    unfold Hid
                    have e : p + 1 - 1 = (p - 1) + 1 := by omega
                    rw [e, thingsG, hT8, unhide HCA, unhide hHT]
                  have HB8 : Hid (∀ b o, a8 = some ⟨b, o, none⟩ → w2.heap.size ≤ b) := fun b o e => by
                    have h1 := (o8.own.lt b (by rw [e]; rfl)).1
                    have h2 := (unhide HGC).size
                    have h3 := (unhide hgc).size
                    omega
                  have HN8 : Hid (∀ h ∈ H8, ∀ b o, h.co = some ⟨b, o, none⟩ → w2.heap.size ≤ b) := fun h hh b o e => by
                    rcases hN8 h hh with h1 | h1
                    · exact (unhide hCN h h1).2 b o e
                    · have h2 := h1 b o e
                      have h3 := (unhide HGC).size
                      have h4 := (unhide hgc).size
                      omega
                  have HG8 := hide (grown_trans (unhide hgc) o8.grown)
                  clear o8 hT8 hN8 hH hHT hHB hHN hgc HTH HHL HBD
                  go_wp2
                  go_roundw
                  case rel => exact ⟨p + 1, H8, a8, c8, by omega, by omega, rfl, by go_num, HH8, HT8, HB8, HN8, HG8⟩
                  case measure => simp [intOf]; omega
                · have hpe : p = 16 := by omega
                  have hd3 : decide ((p : Int) < 16) = false := decide_eq_false (by omega)
                  rw [hpe] at hHT
                  obtain ⟨X, HX⟩ : ∃ X, Hid (thingsG (coinsG ws) 15 = X) := ⟨_, rfl⟩
                  have hHX : H.map hdTh = X := by rw [unhide hHT, ← unhide HX]
                  have hXl : 2 * q - 2 ≤ H.length := by
                    have h1 := unhide HEN (by rw [unhide HWL]; omega)
                    rw [unhide HX, unhide HWL, ← hHX, List.length_map] at h1
                    exact h1
                  have HXA : Hid (∀ i, i < H.length → X.getD i default = hdTh (H.getD i default)) := fun i hi => by
                    rw [← hHX]
                    simp [hi]
                  have HXB : Hid (∀ t j, 0 ≤ getc j (X.getD t default) ∧ getc j (X.getD t default) ≤ 32768) := fun t j => by
                    have key : ∀ T : Th, (∀ c ∈ T.cs, 0 ≤ c ∧ c ≤ 32768) → 0 ≤ getc j T ∧ getc j T ≤ 32768 := fun T hT => by
                      unfold getc
                      by_cases hj : j < T.cs.length
                      · have e : T.cs.getD j 0 = T.cs[j] := by simp [hj]
                        rw [e]; exact hT _ (List.getElem_mem hj)
                      · rw [List.getD_eq_getElem?_getD, List.getElem?_eq_none (by omega)]
                        decide
                    apply key
                    intro c hc
                    by_cases ht : t < X.length
                    · have e : X.getD t default = X[t] := by simp [ht]
                      rw [e] at hc
                      have h1 := (things_bound (unhide HWP) 15 X[t] (by rw [unhide HX]; exact List.getElem_mem ht)).2 c hc
                      simp at h1
                      omega
                    · rw [List.getD_eq_getElem?_getD, List.getElem?_eq_none (by omega)] at hc
                      have hc' : c ∈ (default : Th).cs := hc
                      simp [default, instInhabitedTh.default] at hc'
                  have HEND : Hid (outL k l X (2 * q - 2) 0 = R) := by
                    unfold Hid
                    have h1 := outL_end (n := k) (order := l) (ws := ws) (by rw [unhide HWL, unhide HM]) (unhide HEN (by rw [unhide HWL]; omega))
                    rw [unhide HX, unhide HWL] at h1
                    rw [h1, unhide HREL]
                  obtain ⟨wd, rfl⟩ : ∃ wd, wd = wr := ⟨wr, rfl⟩
                  have HRD : Hid (Rd .i64 wd oo q (symI l)) := (unhide HRC).grown (unhide hgc)
                  have HOD : Hid (wd.ownsRow w1.heap.size 3 1 (.slice (some ⟨w1.heap.size, 0, none⟩) k k) k ((outL k l X 0 0).map (Value.int .i64))) := by
                    unfold Hid; rw [outL_start]; exact own_grown (unhide HWC2) (unhide hgc)
                  have HGD := hide (grown_trans (unhide HG2) (grown_trans (unhide HGC) (unhide hgc)))
                  have em1 := i64_in (2 * (q : Int)) (by omega)
                  have em2 := i64_in (2 * (q : Int) - 2) (by omega)
                  obtain ⟨E, hE⟩ : ∃ E, 2 * q - 2 = E := ⟨_, rfl⟩
                  have hEI : 2 * (q : Int) - 2 = (E : Int) := by omega
                  rw [hE] at HEND hXl
                  have hE510 : E ≤ 510 := by omega
                  clear hHX hHT hgc hE hpe HTH
                  go_wp2
                  go_loopw [14] (fun i wr => ∃ p : Nat, p ≤ E ∧ i = .int .i64 p ∧ Hid (wr.ownsRow w1.heap.size 3 1 (.slice (some ⟨w1.heap.size, 0, none⟩) k k) k ((outL k l X p 0).map (Value.int .i64))) ∧ Hid (wd.grownBy wr (some w1.heap.size))) (fun i _ => E - (intOf i).toNat)
                  case atStart => exact ⟨0, Nat.zero_le _, rfl, HOD, World.grownBy.refl _ _⟩
                  case round =>
                    clear HOD
                    obtain ⟨p, hp, rfl, hop, hgp⟩ := hrel
                    obtain ⟨we, rfl⟩ : ∃ we, we = wr := ⟨wr, rfl⟩
                    by_cases hpE : p < E
                    · have hd4 : decide ((p : Int) < (E : Int)) = true := decide_eq_true (by omega)
                      have ep := i64_in ((p : Int) + 1) (by omega)
                      obtain ⟨hb, hbo, hha, _, hcs⟩ := (unhide hH).2.1 p (by omega)
                      have hcr := (unhide hH).counts (i := p) (by omega)
                      have hxp := unhide HXA p (by omega)
                      have hhl : (H.getD p default).cs.length = q ∧ H.getD p default ∈ H := by
                        have e : H.getD p default = H[p]'(by omega) := by simp [show p < H.length by omega]
                        rw [e]
                        exact ⟨unhide HHL _ (List.getElem_mem _), List.getElem_mem _⟩
                      have hhb := unhide hHN _ hhl.2
                      generalize H.getD p default = h at *
                      obtain ⟨hw, ho, hcp, hs⟩ := h
                      dsimp only at hcs hcr hhb hhl
                      rw [hhl.1] at hcs hcr
                      subst hha
                      have hbn : w1.heap.size ≠ hb := by have := unhide hHB hb hbo rfl; omega
                      have HCS : Hid (∀ wv, wd.grownBy wv (some w1.heap.size) → wv.cell? ⟨hb, hbo + p * 2 + 1, none⟩ = some (.slice ho q hcp)) := fun wv g => g.cell hcs (by simp; omega)
                      have HCR := hide hcr
                      have HHB := hide hhb
                      have HXP := hide hxp
                      have hpI : (p : Int) < (H.length : Int) := by omega
                      clear hcs hcr hhb hxp hhl hbn
                      go_wp2
                      go_loopw [15] (fun j wv => ∃ c : Nat, c ≤ q ∧ j = .int .i64 c ∧ Hid (wv.ownsRow w1.heap.size 3 1 (.slice (some ⟨w1.heap.size, 0, none⟩) k k) k ((outL k l X p c).map (Value.int .i64))) ∧ Hid (wd.grownBy wv (some w1.heap.size))) (fun j _ => q - (intOf j).toNat)
                      case atStart => exact ⟨0, Nat.zero_le _, rfl, hop, hgp⟩
                      case round =>
                        clear hop hgp
                        obtain ⟨c, hc, rfl, hoc, hgc⟩ := hrel
                        by_cases hcq : c < q
                        · have hd5 : decide ((c : Int) < (q : Int)) = true := decide_eq_true (by omega)
                          have ec := i64_in ((c : Int) + 1) (by omega)
                          obtain ⟨ob, o1, hoo, hco⟩ := (unhide HRD).2 c hcq
                          rw [symI_at] at hco
                          obtain ⟨cb, c1, hho, hcc⟩ := (unhide HCR).2 c hcq
                          have hin := (unhide HIN c (by rw [unhide HM]; exact hcq)).1
                          have hstep := outL_step k l X p c hin
                          have hbd := added_bound (order := l) (H := X) (i := p) (k := c) (s := l.getD c 0) (unhide HXB) (by rw [unhide HM]; omega) (by omega) (by omega)
                          have hbc := unhide HXB p c
                          rw [← outL_at k l X p c _ hin] at hbd
                          have hgc1 : getc c (X.getD p default) = hs.getD c 0 := by rw [unhide HXP]; rfl
                          rw [hgc1] at hstep hbc
                          generalize l.getD c 0 = s at *
                          have hcu : wr.cell? ⟨w1.heap.size, s, none⟩ = some (.int .i64 ((outL k l X p c).getD s 0)) := by
                            rw [(unhide hoc).cellAt s (by omega), List.getElem?_map]
                            have e : (outL k l X p c)[s]? = some ((outL k l X p c).getD s 0) := by
                              rw [List.getD_eq_getElem?_getD, List.getElem?_eq_getElem (by rw [outL_len]; exact hin)]; rfl
                            rw [e]; rfl
                          generalize (outL k l X p c).getD s 0 = y at *
                          generalize hs.getD c 0 = z at *
                          have hf := (unhide hoc).frozenAt s
                          have ey := i64_in (y + z) (by omega)
                          have st := (unhide hoc).stored s (.int .i64 (y + z))
                          rw [List.map_set.symm, hstep] at st
                          have HST := hide st
                          subst hoo hho
                          have hco2 := (unhide hgc).cell hco (by simp; have := unhide HOB ob o1 rfl; omega)
                          have hcc2 := (unhide hgc).cell hcc (by simp; have := unhide HHB cb c1 rfl; omega)
                          have hcs2 := unhide HCS wr (unhide hgc)
                          have hsI : (s : Int) < (k : Int) := by omega
                          have hcI : (c : Int) < (q : Int) := by omega
                          clear hco hcc hstep st hgc1 hbc
                          go_wp2
                          refine wp_region_noPanic ?_
                          refine wp_region_tailL 3 (fun w' => w'.cell? ⟨ob, o1 + c, none⟩ = some (.int .i64 (s : Int)) ∧ w'.cell? ⟨w1.heap.size, s, none⟩ = some (.int .i64 y) ∧ w'.cell? ⟨hb, hbo + p * 2 + 1, none⟩ = some (.slice (some ⟨cb, c1, none⟩) q hcp) ∧ w'.cell? ⟨cb, c1 + c, none⟩ = some (.int .i64 z)) [true, true, true, true, true, true, true, true, true, true, true, true, true, true, true, true, true, true, true, true, true, true, false] (by kernel_rfl) (fun _ _ _ _ _ h => h) rfl (by decide) (by kernel_rfl) ⟨hco2, hcu, hcs2, hcc2⟩ ?_
                          iterate 22
                            refine heldF_take (v := ?_) (Or.inl ⟨by rfl, ?_⟩) ?_
                            rotate_left 1
                            · intro w' hSw
                              try dsimp only at hSw
                              go_simp
                              try with_reducible rfl
                            simp only [Act.put, List.setIfInBounds_toArray, List.set_cons_zero, List.set_cons_succ]
                          refine heldF_skip (heldF_nil ?_)
                          iterate 22 refine tailL_skip ?_
                          refine tailL_step (fun K hK => ?_)
                          go_simp
                          refine hK.out _ _ (.inl rfl) ?_
                          clear hK K
                          refine tailL_nil (NoPanic.normal ?_)
                          go_wp2
                          go_roundw
                          case rel => exact ⟨c + 1, by omega, by go_num, (unhide HST).1, grown_drew (grown_trans (unhide hgc) (unhide HST).2)⟩
                          case measure => simp [intOf]; omega
                        · obtain rfl : c = q := by omega
                          have hnx := outL_next k l X p
                          rw [unhide HM] at hnx
                          have HON := hoc
                          rw [hnx] at HON
                          clear hnx hoc
                          go_wp2
                          go_roundw
                          case rel => exact ⟨p + 1, by omega, by go_num, HON, hgc⟩
                          case measure => simp [intOf]; omega
                    · obtain rfl : p = E := by omega
                      have HOF := hop
                      rw [unhide HEND] at HOF
                      clear hop
                      go_wp2
                      go_ret
                      exact ⟨_, rfl, by rw [unhide HRL]; exact unhide HOF, grown_new (unhide HGD) (unhide hgp) (fun g e => by simp at e; omega)⟩

end Go.Proofs.Ytcbaiagkdphkeaa
