/-
  The walks of FieldsOk, the program's and the specification's: both give the same answer.
-/
import Derived.Test.YtcbaiagkdphkeaaFieldRows
import Derived.Test.YtcbaiagkdphkeaaBetween
import Derived.Deep.QuietTactic
import Derived.BigQuiet
namespace Go.Proofs.Ytcbaiagkdphkeaa
open Go.RowKit

/-- A field that is well. -/
def fieldB (f : Int × Int) : Bool := decide ((0 ≤ f.1 ∧ f.1 ≤ 16) ∧ (0 ≤ f.2 ∧ f.2 < 2 ^ f.1.toNat))
/-- All lengths together. -/
def lens (fs : List (Int × Int)) : Int := (fs.map (·.1)).sum
/-- What FieldsOk answers. -/
def okF (fs : List (Int × Int)) : Bool := fs.all fieldB && decide (lens fs ≤ 480000)

theorem lens_append (a b : List (Int × Int)) : lens (a ++ b) = lens a + lens b := by simp [lens]
theorem take_next (fs : List (Int × Int)) (k : Nat) (h : k < fs.length) : fs.take (k + 1) = fs.take k ++ [fs.getD k (0, 0)] := by
  rw [List.take_succ_eq_append_getElem h]
  have e : fs.getD k (0, 0) = fs[k] := by simp [h]
  rw [e]
theorem lens_take (fs : List (Int × Int)) (k : Nat) (h : k < fs.length) : lens (fs.take (k + 1)) = lens (fs.take k) + (fs.getD k (0, 0)).1 := by
  rw [take_next fs k h, lens_append]; simp only [lens, List.map_cons, List.map_nil, List.sum_cons, List.sum_nil, Int.add_zero]
theorem all_take (fs : List (Int × Int)) (k : Nat) (h : k < fs.length) : (fs.take (k + 1)).all fieldB = ((fs.take k).all fieldB && fieldB (fs.getD k (0, 0))) := by
  rw [take_next fs k h, List.all_append]; simp only [List.all_cons, List.all_nil, Bool.and_true]
theorem lens_pos (fs : List (Int × Int)) (h : fs.all fieldB = true) : 0 ≤ lens fs := by
  induction fs with
  | nil => simp [lens]
  | cons f r ih =>
    simp only [List.all_cons, Bool.and_eq_true] at h
    have h1 := ih h.2
    have h2 := of_decide_eq_true h.1
    have e : lens (f :: r) = f.1 + lens r := by simp [lens]
    omega
theorem okF_bad (fs : List (Int × Int)) (k : Nat) (h : k < fs.length) (hb : fieldB (fs.getD k (0, 0)) = false) : okF fs = false := by
  have hm : fs.getD k (0, 0) ∈ fs := by simp [h]
  have : fs.all fieldB = false := by
    cases h2 : fs.all fieldB with
    | false => rfl
    | true => rw [List.all_eq_true.1 h2 _ hm] at hb; exact hb
  simp only [okF, this, Bool.false_and]
theorem okF_much (fs : List (Int × Int)) (k : Nat) (hs : 480000 < lens (fs.take k)) : okF fs = false := by
  cases h : okF fs with
  | false => rfl
  | true =>
    exfalso
    simp only [okF, Bool.and_eq_true, decide_eq_true_eq] at h
    have hd : (fs.drop k).all fieldB = true := by
      rw [List.all_eq_true] at h ⊢
      intro x hx
      exact h.1 x (List.mem_of_mem_drop hx)
    have h2 := lens_pos _ hd
    have e : lens fs = lens (fs.take k) + lens (fs.drop k) := by
      have h3 := lens_append (fs.take k) (fs.drop k)
      rwa [List.take_append_drop] at h3
    omega

set_option maxHeartbeats 800000 in
theorem specFieldsOk (ao : Option Addr) (n cap : Nat) (fs : List (Int × Int)) (w : World) (hr : RdF w ao n fs) (hn : n ≤ 4194304) :
    Calls Try.prog 61 #[.slice ao n cap] w fun e w' => e = .returned (.bool (okF fs)) ∧ w.grownBy w' none := by
  obtain ⟨hl, hc⟩ := hr
  go_enter Try.func61, Try.ntmps61
  go_wp2
  go_loopw [3, 4] (fun s i wr => ∃ k : Nat, k ≤ n ∧ i = .int .i64 k ∧ s = .int .i64 (lens (fs.take k)) ∧ (fs.take k).all fieldB = true ∧ 0 ≤ lens (fs.take k) ∧ lens (fs.take k) ≤ 480000 ∧ w.grownBy wr none) (fun _ i _ => n - (intOf i).toNat)
  case atStart => exact ⟨0, Nat.zero_le _, rfl, rfl, rfl, by simp [lens], by simp [lens], World.grownBy.refl _ _⟩
  case round =>
    obtain ⟨k, hk, rfl, rfl, hall, h0, h1, hgk⟩ := hrel
    by_cases hlt : k < n
    · obtain ⟨b, off, rfl, hc1, hc2⟩ := hc k hlt
      have hca := hgk.cell hc1 (by simp)
      have hcb := hgk.cell hc2 (by simp)
      have HL := hide (lens_take fs k (by omega))
      have HA := hide (all_take fs k (by omega))
      have HB := hide (okF_bad fs k (by omega))
      have HM := hide (okF_much fs (k + 1))
      have HAL := hide hall
      clear hc hc1 hc2 hall
      generalize fs.getD k (0, 0) = f at hca hcb HL HA HB
      obtain ⟨x, y⟩ := f
      generalize lens (fs.take k) = s0 at *
      by_cases hx : 0 ≤ x ∧ x ≤ 16
      · have hb1 : Hid (decide (0 ≤ x ∧ x ≤ 16) = true) := decide_eq_true hx
        obtain ⟨hx1, hx2⟩ := hx
        by_cases hy : 0 ≤ y ∧ y < 2 ^ x.toNat
        · have hb2 : Hid (decide (0 ≤ y ∧ y ≤ wrap64 (wrap64 (2 ^ x.toNat) - 1)) = true) := by rw [shl_sub x hx2]; exact decide_eq_true (by omega)
          have hf : Hid (fieldB (x, y) = true) := decide_eq_true ⟨⟨hx1, hx2⟩, hy⟩
          clear hy
          by_cases hs : s0 + x ≤ 480000
          · go_wp2
            go_quiet ((first | (go_at_call_of 39 (Value.int .i64 x); exact Calls.quiet_of_same (between x 0 16 true hb1 _)) | (go_at_call_of 39 (Value.int .i64 y); exact Calls.quiet_of_same (between y 0 _ true hb2 _))))
            go_wp2
            go_roundw
            case rel => exact ⟨k + 1, by omega, by go_num, by rw [unhide HL], by rw [unhide HA, unhide HAL, unhide hf]; rfl, by rw [unhide HL]; show 0 ≤ s0 + x; omega, by rw [unhide HL]; exact hs, grown_drewN (grown_alloc hgk _) _⟩
            case measure => simp [intOf]; omega
          · go_wp2
            go_quiet ((first | (go_at_call_of 39 (Value.int .i64 x); exact Calls.quiet_of_same (between x 0 16 true hb1 _)) | (go_at_call_of 39 (Value.int .i64 y); exact Calls.quiet_of_same (between y 0 _ true hb2 _))))
            go_wp2
            go_ret
            exact ⟨by rw [unhide HM (by rw [unhide HL]; show 480000 < s0 + x; omega)]; rfl, grown_drewN (grown_alloc hgk _) _⟩
        · have hb2 : Hid (decide (0 ≤ y ∧ y ≤ wrap64 (wrap64 (2 ^ x.toNat) - 1)) = false) := by rw [shl_sub x hx2]; exact decide_eq_false (by omega)
          have hf : Hid (fieldB (x, y) = false) := decide_eq_false (fun h => hy h.2)
          clear hy
          go_wp2
          go_quiet ((first | (go_at_call_of 39 (Value.int .i64 x); exact Calls.quiet_of_same (between x 0 16 true hb1 _)) | (go_at_call_of 39 (Value.int .i64 y); exact Calls.quiet_of_same (between y 0 _ false hb2 _))))
          go_wp2
          go_ret
          exact ⟨by rw [unhide HB (unhide hf)]; rfl, grown_drewN (grown_alloc hgk _) _⟩
      · have hb1 : Hid (decide (0 ≤ x ∧ x ≤ 16) = false) := decide_eq_false hx
        have hf : Hid (fieldB (x, y) = false) := decide_eq_false (fun h => hx h.1)
        clear hx
        go_wp2
        go_quiet ((go_at_call_of 39 (Value.int .i64 x); exact Calls.quiet_of_same (between x 0 16 false hb1 _)))
        go_wp2
        go_ret
        exact ⟨by rw [unhide HB (unhide hf)]; rfl, grown_drewN (grown_alloc hgk _) _⟩
    · have hkn : k = n := by omega
      subst hkn
      rw [List.take_of_length_le (by omega)] at hall h1
      have H : Hid (okF fs = true) := by simp only [Hid, okF, hall, Bool.true_and]; exact decide_eq_true h1
      go_wp2
      go_ret
      exact ⟨by rw [unhide H]; rfl, hgk⟩

theorem implLenOk (x : Int) (t : Bool) (ht : Hid (decide (0 ≤ x ∧ x ≤ 16) = t)) (w : World) :
    Calls Try.prog 71 #[.int .i64 x] w fun e w' => e = .returned (.bool t) ∧ w' = w := by
  by_cases h1 : 0 ≤ x
  · by_cases h2 : x ≤ 16
    · have e : t = true := by rw [← unhide ht]; simp [h1, h2]
      subst e
      go_enter Try.func71, Try.ntmps71
      go_wp2
      go_ret
      exact ⟨by simp, rfl⟩
    · have e : t = false := by rw [← unhide ht]; simp [h2]
      subst e
      go_enter Try.func71, Try.ntmps71
      go_wp2
      go_ret
      exact ⟨by simp, rfl⟩
  · have e : t = false := by rw [← unhide ht]; simp [h1]
    subst e
    have hd : decide (0 ≤ x) = false := by simpa using h1
    go_enter Try.func71, Try.ntmps71
    go_wp2
    go_ret
    exact ⟨rfl, rfl⟩

set_option maxHeartbeats 800000 in
theorem implFieldOk (x y : Int) (t : Bool) (ht : Hid (fieldB (x, y) = t)) (w : World) :
    Calls Try.prog 70 #[.agg #[.int .i64 x, .int .i64 y]] w fun e w' => e = .returned (.bool t) ∧ w.grownBy w' none := by
  by_cases hx : 0 ≤ x ∧ x ≤ 16
  · have hb1 : Hid (decide (0 ≤ x ∧ x ≤ 16) = true) := decide_eq_true hx
    obtain ⟨hx1, hx2⟩ := hx
    by_cases hy : 0 ≤ y
    · go_enter Try.func70, Try.ntmps70
      go_wp2_with fail
      refine (implLenOk x true hb1 _).mono ?_
      rintro e w1 ⟨rfl, rfl⟩
      go_wp2
      go_ret
      refine ⟨ret_bool (a := decide (y < wrap64 (2 ^ x.toNat))) ?_, grown_alloc (World.grownBy.refl _ _) _⟩
      have h := pow_small x hx2
      rw [IntWalk.wrap64_in (2 ^ x.toNat) (by omega), ← unhide ht]
      simp [fieldB, hx1, hx2, hy]
    · have e : t = false := by rw [← unhide ht]; exact decide_eq_false (fun h => hy h.2.1)
      subst e
      have hd : decide (0 ≤ y) = false := by simpa using hy
      go_enter Try.func70, Try.ntmps70
      go_wp2_with fail
      refine (implLenOk x true hb1 _).mono ?_
      rintro e w1 ⟨rfl, rfl⟩
      go_wp2
      go_ret
      exact ⟨rfl, grown_alloc (World.grownBy.refl _ _) _⟩
  · have e : t = false := by rw [← unhide ht]; exact decide_eq_false (fun h => hx h.1)
    subst e
    have hb1 : Hid (decide (0 ≤ x ∧ x ≤ 16) = false) := decide_eq_false hx
    clear hx
    go_enter Try.func70, Try.ntmps70
    go_wp2_with fail
    refine (implLenOk x false hb1 _).mono ?_
    rintro e w1 ⟨rfl, rfl⟩
    go_wp2
    go_ret
    exact ⟨rfl, grown_alloc (World.grownBy.refl _ _) _⟩

set_option maxHeartbeats 800000 in
theorem implFieldsOk (ao : Option Addr) (n cap : Nat) (fs : List (Int × Int)) (w : World) (hr : RdF w ao n fs) (hn : n ≤ 4194304) :
    Calls Try.prog 59 #[.slice ao n cap] w fun e w' => e = .returned (.bool (okF fs)) ∧ w.grownBy w' none := by
  obtain ⟨hl, hc⟩ := hr
  go_enter Try.func59, Try.ntmps59
  go_wp2
  go_loopw [3, 8] (fun s i wr => ∃ k : Nat, k ≤ n ∧ i = .int .i64 k ∧ s = .int .i64 (lens (fs.take k)) ∧ (fs.take k).all fieldB = true ∧ 0 ≤ lens (fs.take k) ∧ lens (fs.take k) ≤ 16 * k ∧ w.grownBy wr none) (fun _ i _ => n - (intOf i).toNat)
  case atStart => exact ⟨0, Nat.zero_le _, rfl, rfl, rfl, by simp [lens], by simp [lens], World.grownBy.refl _ _⟩
  case round =>
    obtain ⟨k, hk, rfl, rfl, hall, h0, h1, hgk⟩ := hrel
    by_cases hlt : k < n
    · obtain ⟨b, off, rfl, hc1, hc2⟩ := hc k hlt
      have hca := hgk.cell hc1 (by simp)
      have hcb := hgk.cell hc2 (by simp)
      have HL := hide (lens_take fs k (by omega))
      have HA := hide (all_take fs k (by omega))
      have HB := hide (okF_bad fs k (by omega))
      have HAL := hide hall
      clear hc hc1 hc2 hall
      generalize fs.getD k (0, 0) = f at hca hcb HL HA HB
      obtain ⟨x, y⟩ := f
      generalize lens (fs.take k) = s0 at *
      cases hf : fieldB (x, y) with
      | true =>
        have HF := hide hf
        have hx := of_decide_eq_true hf
        obtain ⟨⟨hx1, hx2⟩, _⟩ := hx
        have hx1' : 0 ≤ x := hx1
        have hx2' : x ≤ 16 := hx2
        clear hf hx1 hx2
        go_wp2_with fail
        refine (implFieldOk x y true HF _).mono ?_
        rintro e w2 ⟨rfl, g2⟩
        have hcx := (World.grownBy.cell g2 (a := ⟨wr.heap.size, 0, none⟩) (v := .int .i64 x) (by simp) (by simp))
        go_wp2
        go_roundw
        case rel => exact ⟨k + 1, by omega, by go_num, by rw [unhide HL], by rw [unhide HA, unhide HAL, unhide HF]; rfl, by rw [unhide HL]; show 0 ≤ s0 + x; omega, by rw [unhide HL]; show s0 + x ≤ 16 * ((k + 1 : Nat) : Int); omega, grown_trans (grown_alloc hgk _) g2⟩
        case measure => simp [intOf]; omega
      | false =>
        have HF := hide hf
        clear hf
        go_wp2_with fail
        refine (implFieldOk x y false HF _).mono ?_
        rintro e w2 ⟨rfl, g2⟩
        go_wp2
        go_ret
        exact ⟨by rw [unhide HB (unhide HF)]; rfl, grown_trans (grown_alloc hgk _) g2⟩
    · have hkn : k = n := by omega
      subst hkn
      rw [List.take_of_length_le (by omega)] at hall h1 h0
      have e : fs.take k = fs := List.take_of_length_le (by omega)
      have H : Hid (okF fs = decide (lens fs ≤ 480000)) := by simp only [Hid, okF, hall, Bool.true_and]
      rw [e]
      clear e hc
      go_wp2
      go_ret
      exact ⟨by rw [unhide H]; rfl, hgk⟩

end Go.Proofs.Ytcbaiagkdphkeaa
