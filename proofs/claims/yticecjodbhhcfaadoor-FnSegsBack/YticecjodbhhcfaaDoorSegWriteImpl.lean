/-
  The walk of the program's WriteSegs.
-/
import Derived.Test.YticecjodbhhcfaaDoorSegWriteSpec
import Derived.Test.YticecjodbhhcfaaDoorSegOkImpl
namespace Go.Proofs.YticecjodbhhcfaaDoor
open Go.RowKit

set_option maxHeartbeats 1600000 in
theorem implAppendSeg (w0 : World) (v : Value) (acc : List Int) (mk : Int) (dd : Option Addr) (dc : Nat) (bk : List Int) (w : World) (hg : w0.grownBy w none)
    (ho : w.ownsRow w0.heap.size 5 1 v acc.length (acc.map (Value.int .u8))) (hr : Rd .u8 w0 dd bk.length bk) (hnil : dd = none → dc = 0) (hacc : acc.length ≤ 60000) (hbl : bk.length ≤ 20000) (hk0 : kindOf mk ≠ 0) :
    Calls Tryd.prog 19 #[v, .agg #[.int .i64 mk, .slice dd bk.length dc]] w fun e w' => ∃ v', e = .returned v' ∧
      w'.ownsRow w0.heap.size 5 1 v' (acc ++ segBytes (mk, bk)).length ((acc ++ segBytes (mk, bk)).map (Value.int .u8)) ∧ w0.grownBy w' none := by
  obtain ⟨i0, hi, hz0, hz1, hz2⟩ := info_parts Tryd.info5
  have HR := hide hr
  have HNIL := hide hnil
  have hik := ikOf_kind mk
  have hkb := kind_bounds mk
  have hkc := kindOf_cases mk
  have ho1 := ho.alloc (.cells #[.int .i64 mk, .slice dd bk.length dc] 41)
  have G1 := grown_alloc hg (.cells #[.int .i64 mk, .slice dd bk.length dc] 41)
  clear hr hnil
  obtain ⟨kd, hkd⟩ : ∃ kd, kindOf mk = kd := ⟨_, rfl⟩
  have HKD := hide hkd
  rw [hkd] at hik hkb hkc hk0
  clear hkd
  have HIK : Hid (ikOf mk = toI kd) := by rcases hik with ⟨h, _⟩ | ⟨_, h⟩; exact absurd h hk0; exact h
  clear hik
  rcases hkc with rfl | rfl | rfl | rfl
  · exact absurd rfl hk0
  · have hmb := hkb.1 rfl
    have HSB : Hid (segBytes (mk, bk) = [255, mk, ((bk.length / 256 : Nat) : Int), ((bk.length % 256 : Nat) : Int)] ++ bk) := by unfold Hid segBytes; dsimp only; rw [unhide HKD]; rfl
    clear hkb hk0
    go_enter Tryd.func19, Tryd.ntmps19
    go_wp2_with fail
    refine (implKind mk 2 _ HIK).mono ?_
    rintro e wz ⟨rfl, rfl⟩
    go_wp2_with (at_builtin; refine wpList_append_own _ rfl _ _ 22 rfl w0.heap.size 5 i0 (.int .u8 0) 1 1 Tryd.underlying22 hi hz0 hz1 hz2 rfl (by decide) _ _ _ rfl (ho1.alloc _) ⟨w.heap.size + 1, 0, none⟩ 4 4 [.int .u8 255, .int .u8 mk, .int .u8 ((bk.length : Int) / 256), .int .u8 ((bk.length : Int) % 256)] rfl rfl ?a1 ?a2 ?a3 ?a4 ?a5 ?_)
    case a1 => have := new_cells (w.alloc (.cells #[.int .i64 mk, .slice dd bk.length dc] 41)) #[.int .u8 255, .int .u8 mk, .int .u8 ((bk.length : Int) / 256), .int .u8 ((bk.length : Int) % 256)] 5; simpa using this
    case a2 => intro u hu; simp at hu; rcases hu with rfl | rfl | rfl | rfl <;> rfl
    case a3 => unfold maxLen; omega
    case a4 => omega
    case a5 => have := hg.size; simp; omega
    intro v2 w2 hown2 hgrow2 _
    have hg2 := grown_new (grown_alloc G1 _) hgrow2 (fun g e => (ho.lt g e).1)
    have HR3 := hide ((unhide HR).grown hg2)
    obtain ⟨c1, c2⟩ := two_cells hgrow2 (fun g e => (ho.lt g e).2)
    clear hgrow2 ho hg ho1 G1
    go_wp2_with (at_builtin; refine append_rd rfl _ _ rfl w0.heap.size _ _ _ rfl hown2 dd bk.length dc bk rfl (unhide HR3) (unhide HNIL) (by omega) hg2.size ?_)
    intro v3 w3 hown3 hgrow3
    have hg3 := grown_new hg2 hgrow3 (fun g e => (hown2.lt g e).1)
    clear hgrow3 hown2 hg2 c1 c2
    have HRES : w3.ownsRow w0.heap.size 5 1 v3 (acc ++ segBytes (mk, bk)).length ((acc ++ segBytes (mk, bk)).map (Value.int .u8)) := by rw [unhide HSB]; exact own_as hown3 (by simp only [List.length_append, List.length_cons, List.length_nil]; omega) (by simp)
    clear hown3
    go_wp2
    go_ret
    exact ⟨v3, rfl, HRES, hg3⟩
  · have hmb := hkb.2 rfl
    have HSB : Hid (segBytes (mk, bk) = [255, mk]) := by unfold Hid segBytes; dsimp only; rw [unhide HKD]; rfl
    clear hkb hk0
    go_enter Tryd.func19, Tryd.ntmps19
    go_wp2_with fail
    refine (implKind mk 3 _ HIK).mono ?_
    rintro e wz ⟨rfl, rfl⟩
    go_wp2_with (at_builtin; refine wpList_append_own _ rfl _ _ 22 rfl w0.heap.size 5 i0 (.int .u8 0) 1 1 Tryd.underlying22 hi hz0 hz1 hz2 rfl (by decide) _ _ _ rfl (ho1.alloc _) ⟨w.heap.size + 1, 0, none⟩ 2 2 [.int .u8 255, .int .u8 mk] rfl rfl ?a1 ?a2 ?a3 ?a4 ?a5 ?_)
    case a1 => have := new_cells (w.alloc (.cells #[.int .i64 mk, .slice dd bk.length dc] 41)) #[.int .u8 255, .int .u8 mk] 5; simpa using this
    case a2 => intro u hu; simp at hu; rcases hu with rfl | rfl <;> rfl
    case a3 => unfold maxLen; omega
    case a4 => omega
    case a5 => have := hg.size; simp; omega
    intro v2 w2 hown2 hgrow2 _
    have hg2 := grown_new (grown_alloc G1 _) hgrow2 (fun g e => (ho.lt g e).1)
    clear hgrow2 ho hg ho1 G1
    have HRES : w2.ownsRow w0.heap.size 5 1 v2 (acc ++ segBytes (mk, bk)).length ((acc ++ segBytes (mk, bk)).map (Value.int .u8)) := by rw [unhide HSB]; exact own_as hown2 (by simp only [List.length_append, List.length_cons, List.length_nil]) (by simp)
    clear hown2
    go_wp2
    go_ret
    exact ⟨v2, rfl, HRES, hg2⟩
  · have HSB : Hid (segBytes (mk, bk) = stuffL bk) := by unfold Hid segBytes; dsimp only; rw [unhide HKD]; rfl
    have HSF : Hid (stuffed bk = stuffL bk) := by unfold Hid stuffed; rw [if_pos (by omega)]
    have hsl := stuff_len bk
    clear hkb hk0
    go_enter Tryd.func19, Tryd.ntmps19
    go_wp2_with fail
    refine (implKind mk 1 _ HIK).mono ?_
    rintro e wz ⟨rfl, rfl⟩
    go_wp2_with fail
    refine (implStuff dd bk.length dc bk _ ((unhide HR).grown G1) (by omega)).mono ?_
    rintro e w2 ⟨bo2, bc2, rfl, hown2, g2⟩
    rw [unhide HSF] at hown2 ⊢
    have hg2 := grown_trans G1 g2
    have ho2 := own_grown ho1 g2
    have HRS := hide (own_rd hown2)
    have HNS := hide (own_nil hown2)
    clear ho hg ho1 G1 hown2 g2
    go_wp2_with (at_builtin; refine append_rd rfl _ _ rfl w0.heap.size _ _ _ rfl ho2 bo2 (stuffL bk).length bc2 (stuffL bk) rfl (unhide HRS) (unhide HNS) (by omega) hg2.size ?_)
    intro v3 w3 hown3 hgrow3
    have hg3 := grown_new hg2 hgrow3 (fun g e => (ho2.lt g e).1)
    clear hgrow3 ho2 hg2
    have HRES : w3.ownsRow w0.heap.size 5 1 v3 (acc ++ segBytes (mk, bk)).length ((acc ++ segBytes (mk, bk)).map (Value.int .u8)) := by rw [unhide HSB]; exact own_as hown3 (by rw [List.length_append]) (by rw [List.map_append])
    clear hown3
    go_wp2
    go_ret
    exact ⟨v3, rfl, HRES, hg3⟩

set_option maxHeartbeats 1600000 in
theorem implWriteSegs (ao : Option Addr) (n cap : Nat) (ss : List (Int × List Int)) (w : World) (hr : RdS w ao n ss) :
    Calls Tryd.prog 6 #[.slice ao n cap] w fun e w' => ∃ bo cap', e = .returned (.slice bo (writeS ss).length cap') ∧
      w'.ownsRow w.heap.size 5 1 (.slice bo (writeS ss).length cap') (writeS ss).length ((writeS ss).map (Value.int .u8)) ∧ w.grownBy w' none := by
  obtain ⟨i0, hi, hz0, hz1, hz2⟩ := info_parts Tryd.info5
  have HR := hide hr
  obtain ⟨hl, hc⟩ := hr
  cases hok : okS ss with
  | false =>
    have HW : Hid (writeS ss = []) := by unfold Hid writeS; rw [hok]; rfl
    have HOK := hide hok
    clear hok hc
    go_enter Tryd.func6, Tryd.ntmps6
    go_wp2_with fail
    refine (implSegsOk ao n cap ss w (unhide HR)).mono ?_
    rintro e w1 ⟨rfl, g1⟩
    rw [unhide HOK]
    go_wp2
    go_ret
    exact ⟨none, 0, by rw [unhide HW]; rfl, by rw [unhide HW]; exact World.ownsRow_nil _ _ _ _, g1⟩
  | true =>
    have HOK := hide hok
    have hn300 : n ≤ 300 := by simp only [okS, Bool.and_eq_true, decide_eq_true_eq] at hok; omega
    have HW : Hid (writeS ss = if (bodyS ss).length + 2 ≤ 60000 then bodyS ss ++ [255, 254] else []) := by unfold Hid writeS; rw [hok]; simp
    have HBM := hide (bodyS_mono ss)
    clear hok
    go_enter Tryd.func6, Tryd.ntmps6
    go_wp2_with fail
    refine (implSegsOk ao n cap ss w (unhide HR)).mono ?_
    rintro e w1 ⟨rfl, g1⟩
    rw [unhide HOK]
    have o0 : (w1.alloc (.cells #[.int .u8 84, .int .u8 83] 5)).ownsRow w.heap.size 5 1 (.slice (some ⟨w1.heap.size, 0, none⟩) 2 2) 2 [.int .u8 84, .int .u8 83] := World.ownsRow_lit w1 #[.int .u8 84, .int .u8 83] 2 g1.size (by unfold maxLen; omega) rfl
    have G0 := grown_alloc g1 (.cells #[.int .u8 84, .int .u8 83] 5)
    go_wp2
    go_loopw [3, 12] (fun v i wr => ∃ k : Nat, k ≤ n ∧ i = .int .i64 k ∧ (bodyS (ss.take k)).length ≤ 60000 ∧ wr.ownsRow w.heap.size 5 1 v (bodyS (ss.take k)).length ((bodyS (ss.take k)).map (Value.int .u8)) ∧ w.grownBy wr none) (fun _ i _ => n - (intOf i).toNat)
    case atStart => exact ⟨0, Nat.zero_le _, rfl, by simp [bodyS], o0, G0⟩
    case round =>
      obtain ⟨k, hk, rfl, hlen, hob, hgk⟩ := hrel
      clear o0 G0 g1
      by_cases hlt : k < n
      · obtain ⟨b, off, dd, dc, rfl, hc1, hc2, hrd, hnil⟩ := hc k hlt
        have hca := hgk.cell hc1 (by simp)
        have hcb := hgk.cell hc2 (by simp)
        have hsl := okS_get (unhide HOK) k (by omega)
        have HT := hide (bodyS_take ss k (by omega))
        have HB1 := hide (unhide HBM (k + 1))
        have HRD := hide hrd
        have HNIL := hide hnil
        clear hc hc1 hc2 hrd hnil
        obtain ⟨⟨mk, bk⟩, hf⟩ : ∃ f, ss.getD k (0, []) = f := ⟨_, rfl⟩
        rw [hf] at hca hcb hsl HT HRD
        dsimp only at hca hcb hsl HRD
        clear hf
        generalize bodyS (ss.take k) = acc at *
        have hbl := hsl.1
        have HK0 := hide hsl.2
        clear hsl
        go_wp2_with fail
        refine (implAppendSeg w _ acc mk dd dc bk _ (grown_alloc hgk _) (hob.alloc _) (unhide HRD) (unhide HNIL) hlen hbl (unhide HK0)).mono ?_
        rintro e w2 ⟨v2, rfl, hown2, hg2⟩
        clear hob hgk hca hcb
        have HRES : w2.ownsRow w.heap.size 5 1 v2 (bodyS (ss.take (k + 1))).length ((bodyS (ss.take (k + 1))).map (Value.int .u8)) := by rw [unhide HT]; exact hown2
        clear hown2
        obtain ⟨nx, hnx⟩ : ∃ nx, bodyS (ss.take (k + 1)) = nx := ⟨_, rfl⟩
        rw [hnx] at HRES HB1
        have HNX := hide hnx
        clear hnx HT
        obtain ⟨bo, bc, rfl⟩ := own_form HRES
        by_cases hbig : nx.length ≤ 60000
        · have hdec : decide ((60000 : Int) < (nx.length : Int)) = false := decide_eq_false (by omega)
          go_wp2
          go_roundw
          case rel => exact ⟨k + 1, by omega, by go_num, by rw [unhide HNX]; exact hbig, by rw [unhide HNX]; exact HRES, hg2⟩
          case measure => simp [intOf]; omega
        · have hdec : decide ((60000 : Int) < (nx.length : Int)) = true := decide_eq_true (by omega)
          have HE : Hid (writeS ss = []) := by unfold Hid; rw [unhide HW, if_neg]; have := unhide HB1; omega
          go_wp2
          go_ret
          exact ⟨none, 0, by rw [unhide HE]; rfl, by rw [unhide HE]; exact World.ownsRow_nil _ _ _ _, hg2⟩
      · have hkn : k = n := by omega
        subst hkn
        rw [List.take_of_length_le (by omega)] at hob hlen
        generalize bodyS ss = acc at *
        go_wp2_with (at_builtin; refine wpList_append_own _ rfl _ _ 22 rfl w.heap.size 5 i0 (.int .u8 0) 1 1 Tryd.underlying22 hi hz0 hz1 hz2 rfl (by decide) _ _ _ rfl (hob.alloc _) ⟨wr.heap.size, 0, none⟩ 2 2 [.int .u8 255, .int .u8 254] rfl rfl ?a1 ?a2 ?a3 ?a4 ?a5 ?_)
        case a1 => have := new_cells wr #[.int .u8 255, .int .u8 254] 5; simpa using this
        case a2 => intro u hu; simp at hu; rcases hu with rfl | rfl <;> rfl
        case a3 => unfold maxLen; omega
        case a4 => omega
        case a5 => have := hgk.size; simp; omega
        intro v2 w2 hown2 hgrow2 _
        have hg2 := grown_new (grown_alloc hgk _) hgrow2 (fun g e => (hob.lt g e).1)
        clear hgrow2 hob hgk
        have HRES : w2.ownsRow w.heap.size 5 1 v2 (acc ++ [255, 254]).length ((acc ++ [255, 254]).map (Value.int .u8)) := own_as hown2 (by rw [List.length_append]; rfl) (by rw [List.map_append]; rfl)
        clear hown2
        have HLN : Hid ((acc ++ [255, 254]).length = acc.length + 2) := by unfold Hid; rw [List.length_append]; rfl
        obtain ⟨nx, hnx⟩ : ∃ nx : List Int, acc ++ [255, 254] = nx := ⟨_, rfl⟩
        have HNX := hide hnx
        rw [hnx] at HRES HLN
        clear hnx
        obtain ⟨bo, bc, rfl⟩ := own_form HRES
        by_cases hbig : nx.length ≤ 60000
        · have hdec : decide ((60000 : Int) < (nx.length : Int)) = false := decide_eq_false (by omega)
          have HE : Hid (writeS ss = nx) := by unfold Hid; have := unhide HLN; rw [unhide HW, if_pos (by omega)]; exact unhide HNX
          go_wp2
          go_ret
          exact ⟨bo, bc, by rw [unhide HE]; rfl, by rw [unhide HE]; exact HRES, hg2⟩
        · have hdec : decide ((60000 : Int) < (nx.length : Int)) = true := decide_eq_true (by omega)
          have HE : Hid (writeS ss = []) := by unfold Hid; have := unhide HLN; rw [unhide HW, if_neg (by omega)]
          go_wp2
          go_ret
          exact ⟨none, 0, by rw [unhide HE]; rfl, by rw [unhide HE]; exact World.ownsRow_nil _ _ _ _, hg2⟩

end Go.Proofs.YticecjodbhhcfaaDoor
