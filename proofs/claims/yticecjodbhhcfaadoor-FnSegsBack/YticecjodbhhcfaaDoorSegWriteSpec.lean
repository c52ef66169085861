/-
  The walk of the specification's WriteSegs.
-/
import Derived.Test.YticecjodbhhcfaaDoorSegOkSpec
import Derived.Test.YticecjodbhhcfaaDoorStuff
import Derived.Test.YticecjodbhhcfaaDoorAppRd
import Derived.Outline
namespace Go.Proofs.YticecjodbhhcfaaDoor
open Go.RowKit

/-- The bytes of one segment. -/
def segBytes (s : Int × List Int) : List Int := if kindOf s.1 = 1 then [255, s.1, ((s.2.length / 256 : Nat) : Int), ((s.2.length % 256 : Nat) : Int)] ++ s.2 else if kindOf s.1 = 2 then [255, s.1] else stuffL s.2
/-- The bytes of segments, behind the beginning. -/
def bodyS (ss : List (Int × List Int)) : List Int := [84, 83] ++ ss.flatMap segBytes
theorem bodyS_take (ss : List (Int × List Int)) (k : Nat) (h : k < ss.length) : bodyS (ss.take (k + 1)) = bodyS (ss.take k) ++ segBytes (ss.getD k (0, [])) := by
  have e : ss.getD k (0, []) = ss[k] := by simp [h]
  rw [List.take_succ_eq_append_getElem h, e]
  simp only [bodyS, List.flatMap_append, List.flatMap_cons, List.flatMap_nil, List.append_nil, List.append_assoc]
theorem bodyS_mono (ss : List (Int × List Int)) (k : Nat) : (bodyS (ss.take k)).length ≤ (bodyS ss).length := by
  have e : bodyS ss = bodyS (ss.take k) ++ (ss.drop k).flatMap segBytes := by
    have h : ss = ss.take k ++ ss.drop k := (List.take_append_drop k ss).symm
    conv => lhs; rw [h]
    simp only [bodyS, List.flatMap_append, List.append_assoc]
  rw [e, List.length_append]
  omega
/-- What WriteSegs answers. -/
def writeS (ss : List (Int × List Int)) : List Int := if okS ss = true ∧ (bodyS ss).length + 2 ≤ 60000 then bodyS ss ++ [255, 254] else []
theorem okFrom_get : ∀ (ss : List (Int × List Int)) (was : Int), okFrom was ss = true → ∀ k, k < ss.length → (ss.getD k (0, [])).2.length ≤ 20000 ∧ kindOf (ss.getD k (0, [])).1 ≠ 0
  | [], _, _, k, hk => by simp at hk
  | s :: r, was, h, k, hk => by
    rw [okFrom, Bool.and_eq_true] at h
    cases k with
    | zero =>
      have h1 := h.1
      simp only [segOk1, Bool.and_eq_true, decide_eq_true_eq] at h1
      refine ⟨h1.1.1.2, fun e => ?_⟩
      have e' : kindOf s.1 = 0 := e
      rw [e'] at h1
      simp [fitsK] at h1
    | succ k => simpa using okFrom_get r _ h.2 k (by simpa using hk)
theorem okS_get {ss : List (Int × List Int)} (h : okS ss = true) (k : Nat) (hk : k < ss.length) : (ss.getD k (0, [])).2.length ≤ 20000 ∧ kindOf (ss.getD k (0, [])).1 ≠ 0 := by
  simp only [okS, Bool.and_eq_true] at h
  exact okFrom_get ss 0 h.2 k hk
set_option maxHeartbeats 1600000 in
theorem specWriteSegs (ao : Option Addr) (n cap : Nat) (ss : List (Int × List Int)) (w : World) (hr : RdS w ao n ss) :
    Calls Tryd.prog 7 #[.slice ao n cap] w fun e w' => ∃ bo cap', e = .returned (.slice bo (writeS ss).length cap') ∧
      w'.ownsRow w.heap.size 5 1 (.slice bo (writeS ss).length cap') (writeS ss).length ((writeS ss).map (Value.int .u8)) ∧ w.grownBy w' none := by
  obtain ⟨i0, hi, hz0, hz1, hz2⟩ := info_parts Tryd.info5
  have HR := hide hr
  obtain ⟨hl, hc⟩ := hr
  cases hok : okS ss with
  | false =>
    have HW : Hid (writeS ss = []) := by unfold Hid writeS; rw [hok]; rfl
    have HOK := hide hok
    clear hok hc
    go_enter Tryd.func7, Tryd.ntmps7
    go_wp2_with fail
    refine (specSegsOk ao n cap ss w (unhide HR)).mono ?_
    rintro e w1 ⟨rfl, g1⟩
    rw [unhide HOK]
    go_wp2
    go_ret
    exact ⟨some ⟨w1.heap.size, 0, none⟩, 0, by rw [unhide HW]; rfl, by rw [unhide HW]; exact World.ownsRow_lit w1 #[] 0 g1.size (by unfold maxLen; omega) rfl, grown_alloc g1 _⟩
  | true =>
    have HOK := hide hok
    have hn300 : n ≤ 300 := by simp only [okS, Bool.and_eq_true, decide_eq_true_eq] at hok; omega
    have HW : Hid (writeS ss = if (bodyS ss).length + 2 ≤ 60000 then bodyS ss ++ [255, 254] else []) := by unfold Hid writeS; rw [hok]; simp
    have HBM := hide (bodyS_mono ss)
    clear hok
    go_enter Tryd.func7, Tryd.ntmps7
    go_wp2_with fail
    refine (specSegsOk ao n cap ss w (unhide HR)).mono ?_
    rintro e w1 ⟨rfl, g1⟩
    rw [unhide HOK]
    have o0 : (w1.alloc (.cells #[.int .u8 84, .int .u8 83] 5)).ownsRow w.heap.size 5 1 (.slice (some ⟨w1.heap.size, 0, none⟩) 2 2) 2 [.int .u8 84, .int .u8 83] := World.ownsRow_lit w1 #[.int .u8 84, .int .u8 83] 2 g1.size (by unfold maxLen; omega) rfl
    have G0 := grown_alloc g1 (.cells #[.int .u8 84, .int .u8 83] 5)
    go_wp2
    go_loopw [3, 4] (fun v i wr => ∃ k : Nat, k ≤ n ∧ i = .int .i64 k ∧ (bodyS (ss.take k)).length ≤ 60000 ∧ wr.ownsRow w.heap.size 5 1 v (bodyS (ss.take k)).length ((bodyS (ss.take k)).map (Value.int .u8)) ∧ w.grownBy wr none) (fun _ i _ => n - (intOf i).toNat)
    case atStart => exact ⟨0, Nat.zero_le _, rfl, by simp [bodyS], o0, G0⟩
    case round =>
      obtain ⟨k, hk, rfl, hlen, hob, hgk⟩ := hrel
      clear o0 G0 g1
      by_cases hlt : k < n
      · obtain ⟨b, off, dd, dc, rfl, hc1, hc2, hrd, hnil⟩ := hc k hlt
        have hca := hgk.cell hc1 (by simp)
        have hcb := hgk.cell hc2 (by simp)
        have hsl := okS_get (unhide HOK) k (by omega)
        have HT := hide (bodyS_take ss k (by omega))
        have HB1 := hide (unhide HBM (k + 1))
        have HRD := hide hrd
        have HNIL := hide hnil
        clear hc hc1 hc2 hrd hnil
        obtain ⟨⟨mk, bk⟩, hf⟩ : ∃ f, ss.getD k (0, []) = f := ⟨_, rfl⟩
        rw [hf] at hca hcb hsl HT HRD
        dsimp only at hca hcb hsl HRD
        clear hf
        generalize bodyS (ss.take k) = acc at *
        have hkb := kind_bounds mk
        have hkc := kindOf_cases mk
        obtain ⟨kd, hkd⟩ : ∃ kd, kindOf mk = kd := ⟨_, rfl⟩
        have HKD := hide hkd
        rw [hkd] at hkb hkc hsl
        clear hkd
        have hbl := hsl.1
        have hk0 := hsl.2
        have HR2 := hide ((unhide HRD).grown hgk)
        clear hsl
        rcases hkc with rfl | rfl | rfl | rfl
        · exact absurd rfl hk0
        · have hmb := hkb.1 rfl
          have HSB : Hid (segBytes (mk, bk) = [255, mk, ((bk.length / 256 : Nat) : Int), ((bk.length % 256 : Nat) : Int)] ++ bk) := by unfold Hid segBytes; dsimp only; rw [unhide HKD]; rfl
          clear hkb hk0
          go_wp2_with fail
          refine (specKind mk 1 _ HKD).mono ?_
          rintro e wz ⟨rfl, rfl⟩
          have ho1 := hob.alloc (.cells #[.int .i64 mk, .slice dd bk.length dc] 41)
          have G1 := grown_alloc hgk (.cells #[.int .i64 mk, .slice dd bk.length dc] 41)
          go_wp2_with (at_builtin; refine wpList_append_own _ rfl (.tmp 31) (.tmp 45) 22 rfl w.heap.size 5 i0 (.int .u8 0) 1 1 Tryd.underlying22 hi hz0 hz1 hz2 rfl (by decide) _ _ _ rfl (ho1.alloc _) ⟨wr.heap.size + 1, 0, none⟩ 4 4 [.int .u8 255, .int .u8 mk, .int .u8 ((bk.length : Int) / 256), .int .u8 ((bk.length : Int) % 256)] rfl rfl ?a1 ?a2 ?a3 ?a4 ?a5 ?_)
          case a1 => have := new_cells (wr.alloc (.cells #[.int .i64 mk, .slice dd bk.length dc] 41)) #[.int .u8 255, .int .u8 mk, .int .u8 ((bk.length : Int) / 256), .int .u8 ((bk.length : Int) % 256)] 5; simpa using this
          case a2 => intro u hu; simp at hu; rcases hu with rfl | rfl | rfl | rfl <;> rfl
          case a3 => unfold maxLen; omega
          case a4 => omega
          case a5 => have := hgk.size; simp; omega
          intro v2 w2 hown2 hgrow2 _
          have hg2 := grown_new (grown_alloc G1 _) hgrow2 (fun g e => (hob.lt g e).1)
          have HR3 := hide ((unhide HRD).grown hg2)
          obtain ⟨c1, c2⟩ := two_cells hgrow2 (fun g e => (hob.lt g e).2)
          clear hgrow2 hob hgk ho1 G1 hca hcb
          go_wp2_with (at_builtin; refine append_rd rfl _ _ rfl w.heap.size _ _ _ rfl hown2 dd bk.length dc bk rfl (unhide HR3) (unhide HNIL) (by omega) hg2.size ?_)
          intro v3 w3 hown3 hgrow3
          have hg3 := grown_new hg2 hgrow3 (fun g e => (hown2.lt g e).1)
          clear hgrow3 hown2 hg2 c1 c2
          have HRES : w3.ownsRow w.heap.size 5 1 v3 (bodyS (ss.take (k + 1))).length ((bodyS (ss.take (k + 1))).map (Value.int .u8)) := by rw [unhide HT, unhide HSB]; exact own_as hown3 (by simp only [List.length_append, List.length_cons, List.length_nil]; omega) (by simp)
          clear hown3
          obtain ⟨nx, hnx⟩ : ∃ nx, bodyS (ss.take (k + 1)) = nx := ⟨_, rfl⟩
          rw [hnx] at HRES HB1
          have HNX := hide hnx
          clear hnx HT
          obtain ⟨bo, bc, rfl⟩ := own_form HRES
          by_cases hbig : nx.length ≤ 60000
          · have hdec : decide ((60000 : Int) < (nx.length : Int)) = false := decide_eq_false (by omega)
            go_wp2
            go_roundw
            case rel => exact ⟨k + 1, by omega, by go_num, by rw [unhide HNX]; exact hbig, by rw [unhide HNX]; exact HRES, hg3⟩
            case measure => simp [intOf]; omega
          · have hdec : decide ((60000 : Int) < (nx.length : Int)) = true := decide_eq_true (by omega)
            have HE : Hid (writeS ss = []) := by unfold Hid; rw [unhide HW, if_neg]; have := unhide HB1; omega
            go_wp2
            go_ret
            exact ⟨some ⟨w3.heap.size, 0, none⟩, 0, by rw [unhide HE]; rfl, by rw [unhide HE]; exact World.ownsRow_lit w3 #[] 0 hg3.size (by unfold maxLen; omega) rfl, grown_alloc hg3 _⟩
        · have hmb := hkb.2 rfl
          have HSB : Hid (segBytes (mk, bk) = [255, mk]) := by unfold Hid segBytes; dsimp only; rw [unhide HKD]; rfl
          clear hkb hk0
          go_wp2_with fail
          refine (specKind mk 2 _ HKD).mono ?_
          rintro e wz ⟨rfl, rfl⟩
          have ho1 := hob.alloc (.cells #[.int .i64 mk, .slice dd bk.length dc] 41)
          have G1 := grown_alloc hgk (.cells #[.int .i64 mk, .slice dd bk.length dc] 41)
          go_wp2_with (at_builtin; refine wpList_append_own _ rfl _ _ 22 rfl w.heap.size 5 i0 (.int .u8 0) 1 1 Tryd.underlying22 hi hz0 hz1 hz2 rfl (by decide) _ _ _ rfl (ho1.alloc _) ⟨wr.heap.size + 1, 0, none⟩ 2 2 [.int .u8 255, .int .u8 mk] rfl rfl ?a1 ?a2 ?a3 ?a4 ?a5 ?_)
          case a1 => have := new_cells (wr.alloc (.cells #[.int .i64 mk, .slice dd bk.length dc] 41)) #[.int .u8 255, .int .u8 mk] 5; simpa using this
          case a2 => intro u hu; simp at hu; rcases hu with rfl | rfl <;> rfl
          case a3 => unfold maxLen; omega
          case a4 => omega
          case a5 => have := hgk.size; simp; omega
          intro v2 w2 hown2 hgrow2 _
          have hg2 := grown_new (grown_alloc G1 _) hgrow2 (fun g e => (hob.lt g e).1)
          clear hgrow2 hob hgk ho1 G1 hca hcb
          have HRES : w2.ownsRow w.heap.size 5 1 v2 (bodyS (ss.take (k + 1))).length ((bodyS (ss.take (k + 1))).map (Value.int .u8)) := by rw [unhide HT, unhide HSB]; exact own_as hown2 (by simp only [List.length_append, List.length_cons, List.length_nil]) (by simp)
          clear hown2
          obtain ⟨nx, hnx⟩ : ∃ nx, bodyS (ss.take (k + 1)) = nx := ⟨_, rfl⟩
          rw [hnx] at HRES HB1
          have HNX := hide hnx
          clear hnx HT
          obtain ⟨bo, bc, rfl⟩ := own_form HRES
          by_cases hbig : nx.length ≤ 60000
          · have hdec : decide ((60000 : Int) < (nx.length : Int)) = false := decide_eq_false (by omega)
            go_wp2
            go_roundw
            case rel => exact ⟨k + 1, by omega, by go_num, by rw [unhide HNX]; exact hbig, by rw [unhide HNX]; exact HRES, hg2⟩
            case measure => simp [intOf]; omega
          · have hdec : decide ((60000 : Int) < (nx.length : Int)) = true := decide_eq_true (by omega)
            have HE : Hid (writeS ss = []) := by unfold Hid; rw [unhide HW, if_neg]; have := unhide HB1; omega
            go_wp2
            go_ret
            exact ⟨some ⟨w2.heap.size, 0, none⟩, 0, by rw [unhide HE]; rfl, by rw [unhide HE]; exact World.ownsRow_lit w2 #[] 0 hg2.size (by unfold maxLen; omega) rfl, grown_alloc hg2 _⟩
        · have HSB : Hid (segBytes (mk, bk) = stuffL bk) := by unfold Hid segBytes; dsimp only; rw [unhide HKD]; rfl
          have HSF : Hid (stuffed bk = stuffL bk) := by unfold Hid stuffed; rw [if_pos (by omega)]
          have hsl := stuff_len bk
          clear hkb hk0
          go_wp2_with fail
          refine (specKind mk 3 _ HKD).mono ?_
          rintro e wz ⟨rfl, rfl⟩
          have ho1 := hob.alloc (.cells #[.int .i64 mk, .slice dd bk.length dc] 41)
          have G1 := grown_alloc hgk (.cells #[.int .i64 mk, .slice dd bk.length dc] 41)
          go_wp2_with fail
          refine (specStuff dd bk.length dc bk _ ((unhide HRD).grown G1) (by omega)).mono ?_
          rintro e w2 ⟨bo2, bc2, rfl, hown2, g2⟩
          rw [unhide HSF] at hown2 ⊢
          have hg2 := grown_trans G1 g2
          have ho2 := own_grown ho1 g2
          have HRS := hide (own_rd hown2)
          have HNS := hide (own_nil hown2)
          clear hob hgk ho1 G1 hca hcb hown2 g2
          go_wp2_with (at_builtin; refine append_rd rfl _ _ rfl w.heap.size _ _ _ rfl ho2 bo2 (stuffL bk).length bc2 (stuffL bk) rfl (unhide HRS) (unhide HNS) (by omega) hg2.size ?_)
          intro v3 w3 hown3 hgrow3
          have hg3 := grown_new hg2 hgrow3 (fun g e => (ho2.lt g e).1)
          clear hgrow3 ho2 hg2
          have HRES : w3.ownsRow w.heap.size 5 1 v3 (bodyS (ss.take (k + 1))).length ((bodyS (ss.take (k + 1))).map (Value.int .u8)) := by rw [unhide HT, unhide HSB]; exact own_as hown3 (by rw [List.length_append]) (by rw [List.map_append])
          clear hown3
          obtain ⟨nx, hnx⟩ : ∃ nx, bodyS (ss.take (k + 1)) = nx := ⟨_, rfl⟩
          rw [hnx] at HRES HB1
          have HNX := hide hnx
          clear hnx HT
          obtain ⟨bo, bc, rfl⟩ := own_form HRES
          by_cases hbig : nx.length ≤ 60000
          · have hdec : decide ((60000 : Int) < (nx.length : Int)) = false := decide_eq_false (by omega)
            go_wp2
            go_roundw
            case rel => exact ⟨k + 1, by omega, by go_num, by rw [unhide HNX]; exact hbig, by rw [unhide HNX]; exact HRES, hg3⟩
            case measure => simp [intOf]; omega
          · have hdec : decide ((60000 : Int) < (nx.length : Int)) = true := decide_eq_true (by omega)
            have HE : Hid (writeS ss = []) := by unfold Hid; rw [unhide HW, if_neg]; have := unhide HB1; omega
            go_wp2
            go_ret
            exact ⟨some ⟨w3.heap.size, 0, none⟩, 0, by rw [unhide HE]; rfl, by rw [unhide HE]; exact World.ownsRow_lit w3 #[] 0 hg3.size (by unfold maxLen; omega) rfl, grown_alloc hg3 _⟩
      · have hkn : k = n := by omega
        subst hkn
        rw [List.take_of_length_le (by omega)] at hob hlen
        generalize bodyS ss = acc at *
        go_wp2_with (at_builtin; refine wpList_append_own _ rfl _ _ 22 rfl w.heap.size 5 i0 (.int .u8 0) 1 1 Tryd.underlying22 hi hz0 hz1 hz2 rfl (by decide) _ _ _ rfl (hob.alloc _) ⟨wr.heap.size, 0, none⟩ 2 2 [.int .u8 255, .int .u8 254] rfl rfl ?a1 ?a2 ?a3 ?a4 ?a5 ?_)
        case a1 => have := new_cells wr #[.int .u8 255, .int .u8 254] 5; simpa using this
        case a2 => intro u hu; simp at hu; rcases hu with rfl | rfl <;> rfl
        case a3 => unfold maxLen; omega
        case a4 => omega
        case a5 => have := hgk.size; simp; omega
        intro v2 w2 hown2 hgrow2 _
        have hg2 := grown_new (grown_alloc hgk _) hgrow2 (fun g e => (hob.lt g e).1)
        clear hgrow2 hob hgk
        have HRES : w2.ownsRow w.heap.size 5 1 v2 (acc ++ [255, 254]).length ((acc ++ [255, 254]).map (Value.int .u8)) := own_as hown2 (by rw [List.length_append]; rfl) (by rw [List.map_append]; rfl)
        clear hown2
        have HLN : Hid ((acc ++ [255, 254]).length = acc.length + 2) := by unfold Hid; rw [List.length_append]; rfl
        obtain ⟨nx, hnx⟩ : ∃ nx : List Int, acc ++ [255, 254] = nx := ⟨_, rfl⟩
        have HNX := hide hnx
        rw [hnx] at HRES HLN
        clear hnx
        obtain ⟨bo, bc, rfl⟩ := own_form HRES
        by_cases hbig : nx.length ≤ 60000
        · have hdec : decide ((60000 : Int) < (nx.length : Int)) = false := decide_eq_false (by omega)
          have HE : Hid (writeS ss = nx) := by unfold Hid; have := unhide HLN; rw [unhide HW, if_pos (by omega)]; exact unhide HNX
          go_wp2
          go_ret
          exact ⟨bo, bc, by rw [unhide HE]; rfl, by rw [unhide HE]; exact HRES, hg2⟩
        · have hdec : decide ((60000 : Int) < (nx.length : Int)) = true := decide_eq_true (by omega)
          have HE : Hid (writeS ss = []) := by unfold Hid; have := unhide HLN; rw [unhide HW, if_neg (by omega)]
          go_wp2
          go_ret
          exact ⟨some ⟨w2.heap.size, 0, none⟩, 0, by rw [unhide HE]; rfl, by rw [unhide HE]; exact World.ownsRow_lit w2 #[] 0 hg2.size (by unfold maxLen; omega) rfl, grown_alloc hg2 _⟩

end Go.Proofs.YticecjodbhhcfaaDoor
