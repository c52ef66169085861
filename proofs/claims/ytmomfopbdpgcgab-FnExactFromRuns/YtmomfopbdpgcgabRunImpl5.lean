/-
  Items laid out and compared in the program.
-/
import Derived.Test.YtmomfopbdpgcgabRunImpl4
import Derived.Test.YtmomfopbdpgcgabRunLay
namespace Go.Proofs.Ytmomfopbdpgcgab
open Go.RowKit

theorem drop_it {I : List It} {k : Nat} (hk : k < I.length) : I.drop k = I.getD k (0, 0, 0) :: I.drop (k + 1) := by
  rw [List.drop_eq_getElem_cons hk]
  simp [hk]

theorem made_laid (M : Nat) : (madeCells (#[.int .i64 0] : Array Value) M).toList = (laid M []).map (Value.int .i64) := by
  apply List.ext_getElem?
  intro c
  by_cases hc : c < M
  · have e : c % 1 = 0 := Nat.mod_one c
    simp [madeCells, laid, hc, e]
  · simp [madeCells, laid, hc]

set_option maxRecDepth 20000 in
set_option maxHeartbeats 3200000 in
theorem implLaidOut (io : Option Addr) (n ic : Nat) (I : List It) (w : World) (hr : RdT w io n I) (M : Nat) (hM : M ≤ 64) (R : Option (List Int)) (HR : Hid (layGo M [] I = R)) :
    Calls Try.prog 18 #[.slice io n ic, .int .i64 M] w fun e w' => ∃ v, e = .returned (.tuple #[v, .bool R.isSome]) ∧ w'.ownsRow w.heap.size 3 1 v (R.getD []).length ((R.getD []).map (Value.int .i64)) ∧ w.grownBy w' none := by
  have hl := hr.1
  have HRW := hide hr
  clear hr
  obtain ⟨i0, hi, hz0, hz1, hz2⟩ := info_parts info_i3
  go_enter Try.func18, Try.ntmps18
  go_wp2_with (at_make; refine wpList_make_full _ rfl _ _ 24 rfl w.heap.size 3 i0 (.int .i64 0) 1 Try.underlying24 hi hz0 hz1 .i64 .i64 _ _ M rfl rfl rfl rfl (by rw [hz2]; omega) (by unfold maxLen; omega) (Nat.le_refl _) ?_)
  intro w1 hown hgrow
  have HO1 : Hid (w1.ownsRow w.heap.size 3 1 (.slice (some ⟨w.heap.size, 0, none⟩) M M) M ((laid M []).map (Value.int .i64))) := by
    unfold Hid; rw [← made_laid]; exact hown
  have HG1 := hide hgrow
  clear hown hgrow hi hz0 hz1 hz2
  go_wp2
  go_loopw [7, 14] (fun p i wr => ∃ (k : Nat) (acc : List Int), k ≤ n ∧ k ≤ acc.length ∧ acc.length ≤ M ∧ i = .int .i64 k ∧ p = .int .i64 acc.length ∧ Hid (wr.ownsRow w.heap.size 3 1 (.slice (some ⟨w.heap.size, 0, none⟩) M M) M ((laid M acc).map (Value.int .i64))) ∧ Hid (layGo M acc (I.drop k) = R) ∧ Hid (w.grownBy wr none)) (fun _ i _ => n - (intOf i).toNat)
  case atStart => exact ⟨0, [], Nat.zero_le _, Nat.zero_le _, Nat.zero_le _, rfl, rfl, HO1, unhide HR, HG1⟩
  case round =>
    clear HO1 HG1
    obtain ⟨k, acc, hk, hka, haM, rfl, rfl, ho, hL, hg⟩ := hrel
    by_cases hlt : k < n
    · have hL2 := unhide hL
      rw [drop_it (by omega)] at hL2
      obtain ⟨bb, off, rfl, c0, c1, c2⟩ := ((unhide HRW).grown (unhide hg)).2 k hlt
      generalize I.getD k (0, 0, 0) = x at *
      obtain ⟨r, s, b⟩ := x
      rw [layGo] at hL2
      dsimp only at c0 c1 c2 hL2
      clear hL
      have e1 := i64_in ((M : Int) - (acc.length : Int)) (by omega)
      have e2 := i64_in ((M : Int) - (acc.length : Int) - 1) (by omega)
      by_cases hrr : 0 ≤ r ∧ r ≤ (M : Int) - (acc.length : Int) - 1
      · rw [if_pos hrr] at hL2
        have HD : Hid (decide (0 ≤ r ∧ r ≤ (M : Int) - (acc.length : Int) - 1) = true) := decide_eq_true hrr
        obtain ⟨v, HV⟩ : ∃ v, Hid (numI s b = v) := ⟨_, rfl⟩
        rw [unhide HV] at hL2
        obtain ⟨q, rfl⟩ := Int.eq_ofNat_of_zero_le hrr.1
        rw [Int.toNat_natCast] at hL2
        have hq : acc.length + q < M := by omega
        have HL2 := hide hL2
        have HS := hide (laid_set (M := M) (acc := acc) (r := q) v hq)
        obtain ⟨p, hp⟩ : ∃ p, acc.length + q = p := ⟨_, rfl⟩
        have e3 : IntKind.i64.wrap ((acc.length : Int) + (q : Int)) = (p : Int) := by rw [i64_in _ (by omega)]; omega
        have e4 := i64_in ((p : Int) + 1) (by omega)
        have hpM : p < M := by omega
        have hpI : (p : Int) < (M : Int) := by omega
        have HAL : Hid ((acc ++ List.replicate q 0 ++ [v]).length = p + 1) := by unfold Hid; simp; omega
        have hpk : k ≤ p := by omega
        rw [hp] at HS
        have HOA := hide ((unhide ho).alloc (.cells #[.int .i64 (q : Int), .int .i64 s, .int .i64 b] 36))
        have hgl : w.heap.size < wr.heap.size := ((unhide ho).lt _ rfl).2
        have hf := (unhide HOA).frozenAt p
        obtain ⟨u, hu⟩ : ∃ u, (wr.alloc (.cells #[.int .i64 (q : Int), .int .i64 s, .int .i64 b] 36)).cell? ⟨w.heap.size, p, none⟩ = some u := by
          rw [(unhide HOA).cellAt p (by omega)]
          exact ⟨_, List.getElem?_eq_getElem (by rw [(unhide HOA).1]; omega)⟩
        have HST : Hid (((wr.alloc (.cells #[.int .i64 (q : Int), .int .i64 s, .int .i64 b] 36)).setCell ⟨w.heap.size, p, none⟩ (.int .i64 v)).ownsRow w.heap.size 3 1 (.slice (some ⟨w.heap.size, 0, none⟩) M M) M ((laid M (acc ++ List.replicate q 0 ++ [v])).map (Value.int .i64)) ∧ w.grownBy ((wr.alloc (.cells #[.int .i64 (q : Int), .int .i64 s, .int .i64 b] 36)).setCell ⟨w.heap.size, p, none⟩ (.int .i64 v)) none) := by
          have st := (unhide HOA).stored p (.int .i64 v)
          rw [List.map_set.symm, unhide HS] at st
          exact ⟨st.1, grown_new (grown_alloc (unhide hg) _) st.2 (fun g e => by simp at e; omega)⟩
        obtain ⟨wx, hwx⟩ : ∃ wx, wr.alloc (.cells #[.int .i64 (q : Int), .int .i64 s, .int .i64 b] 36) = wx := ⟨_, rfl⟩
        have d0 : wx.cell? ⟨wr.heap.size, 0, none⟩ = some (.int .i64 (q : Int)) := by rw [← hwx, cell_of_row _ wr.heap.size 0 _ _ (0, 0) (heap_alloc_new wr _)]; rfl
        have d1 : wx.cell? ⟨wr.heap.size, 1, none⟩ = some (.int .i64 s) := by rw [← hwx, cell_of_row _ wr.heap.size 1 _ _ (0, 0) (heap_alloc_new wr _)]; rfl
        have d2 : wx.cell? ⟨wr.heap.size, 2, none⟩ = some (.int .i64 b) := by rw [← hwx, cell_of_row _ wr.heap.size 2 _ _ (0, 0) (heap_alloc_new wr _)]; rfl
        rw [hwx] at hf hu HST
        have HWX := hide hwx
        clear hwx HS HOA hp hq
        clear hL2 hrr
        go_wp2_with fail
        rw [unhide HWX]
        refine (inRange7 (q : Int) 0 _ true HD _).mono ?_
        rintro e w3 ⟨rfl, rfl⟩
        go_wp2_with fail
        refine (implNum7 s b v HV _).mono ?_
        rintro e w4 ⟨rfl, rfl⟩
        go_wp2
        go_roundw
        case rel => exact ⟨k + 1, acc ++ List.replicate q 0 ++ [v], by omega, by rw [unhide HAL]; omega, by rw [unhide HAL]; omega, by go_num, by rw [unhide HAL]; go_num, (unhide HST).1, HL2, (unhide HST).2⟩
        case measure => simp [intOf]; omega
      · rw [if_neg hrr] at hL2
        subst hL2
        have HD : Hid (decide (0 ≤ r ∧ r ≤ (M : Int) - (acc.length : Int) - 1) = false) := decide_eq_false hrr
        go_wp2_with fail
        refine (inRange7 r 0 _ false HD _).mono ?_
        rintro e w3 ⟨rfl, rfl⟩
        go_wp2
        refine bodyPost_ret (v := .tuple #[.slice none 0 0, .bool false]) (by simp [results, Try.results18, go_sem, *]) rfl ?_
        exact ⟨_, rfl, ⟨rfl, .inl ⟨rfl, rfl⟩⟩, grown_alloc (unhide hg) _⟩
    · obtain rfl : k = n := by omega
      have hL2 := unhide hL
      rw [List.drop_eq_nil_of_le (by omega), layGo] at hL2
      subst hL2
      have HX : Hid ((laid M acc).length = M) := laid_len haM
      go_wp2
      refine bodyPost_ret (v := .tuple #[.slice (some ⟨w.heap.size, 0, none⟩) M M, .bool true]) (by simp [results, Try.results18, go_sem, *]) rfl ?_
      refine ⟨_, rfl, ?_, unhide hg⟩
      show wr.ownsRow w.heap.size 3 1 _ (laid M acc).length ((laid M acc).map (Value.int .i64))
      rw [unhide HX]
      exact unhide ho

end Go.Proofs.Ytmomfopbdpgcgab
