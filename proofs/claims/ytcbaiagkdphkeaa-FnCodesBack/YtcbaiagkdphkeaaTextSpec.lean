/-
  Texts of codes in the specification.
-/
import Derived.Test.YtcbaiagkdphkeaaCodesSpec
import Derived.Test.YtcbaiagkdphkeaaTextPure
import Derived.Test.YtcbaiagkdphkeaaPackSpec
import Derived.Maps.AppendAt
import Derived.Deep.AppendLies
namespace Go.Proofs.Ytcbaiagkdphkeaa
open Go.RowKit

/-- A symbol that has a code. -/
def symB (xs : List Int) (s : Int) : Bool := decide (0 ≤ s ∧ s ≤ (xs.length : Int) - 1) && decide (xs.getD s.toNat 0 ≠ 0)
def textB (xs ss : List Int) : Bool := lensB xs && decide (ss.length ≤ 60000) && ss.all (symB xs)
def fieldsT (xs ss : List Int) : List (Int × Int) := ss.map fun s => codeG xs s.toNat
def textG (xs ss : List Int) : List Int := if textB xs ss then packed (fieldsT xs ss) else []
theorem fieldsT_take {xs ss : List Int} {k : Nat} (h : k < ss.length) : fieldsT xs (ss.take (k + 1)) = fieldsT xs (ss.take k) ++ [codeG xs (ss.getD k 0).toNat] := by
  unfold fieldsT
  rw [List.take_succ_eq_append_getElem h, List.map_append]
  simp [h]
theorem all_takeS {f : Int → Bool} {xs : List Int} {k : Nat} (hk : k < xs.length) : (xs.take (k + 1)).all f = ((xs.take k).all f && f (xs.getD k 0)) := by
  rw [List.take_succ_eq_append_getElem hk, List.all_append]
  simp [hk]
theorem lensB_pos {xs : List Int} (h : lensB xs = true) : 0 < xs.length := by
  have h1 := (lens_parts h).2.2.1
  cases xs with
  | nil => simp [krS, sumF] at h1
  | cons x xs => simp

theorem append_fd {w : World} {ops : Array Oper} {rest : List Oper} {o : Oper} {a : Act} {Q : Exit → Act → World → Prop} (hgd : o.guard = none) (s x : Operand)
    (ho : o.op = .call { callee := .builtin .append, args := #[s, x], argTypes := #[26, 26] })
    (B : World) (v : Value) (X : List (Int × Int)) (hs : a.eval s = v) (hown : w.ownsRow B.heap.size 30 2 v X.length (flat X)) (p q : Int) (hx : a.eval x = .slice (some ⟨w.heap.size, 0, none⟩) 1 1)
    (hb : X.length ≤ 1000000) (hB : B.grownBy w none) (R : List (Int × Int)) (hR : X ++ [(p, q)] = R)
    (h : ∀ v' w', w'.ownsRow B.heap.size 30 2 v' R.length (flat R) → B.grownBy w' none → w.grownBy w' v.ownBlock → wpList Try.prog ops Q rest (a.put o.dst v') w') :
    wpList Try.prog ops Q (o :: rest) a (w.alloc (.cells #[.int .i64 p, .int .i64 q] 30)) := by
  subst hR
  obtain ⟨i0, hi, hz0, hz1, hz2⟩ := info_parts Try.info30
  refine wpList_append_own_at _ hgd s x 26 ho B.heap.size 30 i0 _ 2 16 Try.underlying26 hi hz0 hz1 hz2 rfl (by decide) v X.length _ hs (hown.alloc _) ⟨w.heap.size, 0, none⟩ 1 1 [.int .i64 p, .int .i64 q] hx rfl (World.news_of_block (cs := #[.int .i64 p, .int .i64 q]) (t := 30) (fr := (0, 0)) (heap_alloc_new w _)) (by intro u hu; simp at hu; rcases hu with rfl | rfl <;> rfl) (by unfold maxLen; omega) (by omega) (by have := hB.size; simp; omega) ?_
  intro v' w' h1 h2 _ _
  have hga : w.grownBy w' v.ownBlock := ⟨h2.os, h2.tape, h2.output, by have h := h2.size; simp at h; omega, fun k hk hr => (h2.block k (by simp; omega) hr).trans (Below.heap_alloc _ _ _ hk)⟩
  refine h v' w' ?_ (grown_new hB hga (fun g e => (hown.lt g e).1)) hga
  rw [flat_append, List.length_append]
  exact h1

set_option maxRecDepth 20000 in
set_option maxHeartbeats 3200000 in
theorem specCodeText (ao : Option Addr) (n cap : Nat) (xs : List Int) (so : Option Addr) (m sc : Nat) (ss : List Int) (w : World) (hr : Rd .i64 w ao n xs) (hs : Rd .i64 w so m ss) :
    Calls Try.prog 26 #[.slice ao n cap, .slice so m sc] w fun e w' => ∃ v, e = .returned v ∧ w'.ownsRow w.heap.size 5 1 v (textG xs ss).length ((textG xs ss).map (Value.int .u8)) ∧ w.grownBy w' none := by
  have hl := hr.1
  have hl2 := hs.1
  have HR := hide hr
  have HS := hide hs
  clear hr hs
  have hnil : ∀ wz : World, w.grownBy wz none → Hid ((wz.alloc (.cells #[] 5)).ownsRow w.heap.size 5 1 (.slice (some ⟨wz.heap.size, 0, none⟩) 0 0) 0 [] ∧ w.grownBy (wz.alloc (.cells #[] 5)) none) := fun wz g => ⟨own_base (World.ownsRow_lit wz #[] 0 (Nat.le_refl _) (by unfold maxLen; omega) rfl) g.size, grown_alloc g _⟩
  have HNIL := hide hnil
  clear hnil
  obtain ⟨b, HB⟩ : ∃ b, Hid (lensB xs = b) := ⟨_, rfl⟩
  obtain ⟨C, HC⟩ : ∃ C, Hid (codesG xs = C) := ⟨_, rfl⟩
  cases b with
  | false =>
    have e : textG xs ss = [] := by rw [textG, textB, unhide HB]; rfl
    rw [e]
    have hC : C = [] := by rw [← unhide HC, codesG, unhide HB]; rfl
    subst hC
    go_enter Try.func26, Try.ntmps26
    go_wp2_with fail
    refine (specCodesOf ao n cap xs w (unhide HR)).mono ?_
    rw [unhide HC]
    rintro e w1 ⟨v, rfl, o1, g1⟩
    obtain ⟨co, cc, rfl⟩ := own_form o1
    have HF := hide (unhide HNIL _ (grown_alloc g1 (.cells #[] 30)))
    clear o1
    go_wp2
    go_ret
    refine ⟨_, rfl, ?_⟩
    have h := unhide (unhide HF)
    simpa using h
  | true =>
    have hpos := lensB_pos (unhide HB)
    have hn : n ≤ 256 := by have := (lens_parts (unhide HB)).1; omega
    have HCL : Hid (C.length = n) := by unfold Hid; rw [← unhide HC, codes_len (unhide HB), hl]
    have HCA : Hid (∀ s, s < n → C.getD s (0, 0) = codeG xs s) := fun s h => by rw [← unhide HC]; exact codes_at (unhide HB) s (by omega)
    by_cases hm : m ≤ 60000
    · obtain ⟨T, HT⟩ : ∃ T, Hid (textG xs ss = T) := ⟨_, rfl⟩
      rw [unhide HT]
      have HTB : Hid (textB xs ss = ss.all (symB xs)) := by unfold Hid textB; rw [unhide HB, hl2, decide_eq_true hm]; simp
      have hmd : decide ((60000 : Int) < (m : Int)) = false := decide_eq_false (by omega)
      have HL := hide hl
      have HL2 := hide hl2
      clear hl hl2
      go_enter Try.func26, Try.ntmps26
      go_wp2_with fail
      refine (specCodesOf ao n cap xs w (unhide HR)).mono ?_
      rw [unhide HC]
      rintro e w1 ⟨v, rfl, o1, g1⟩
      obtain ⟨co, cc, rfl⟩ := own_form o1
      have HRC : Hid (RdF w1 co C.length C) := own_rdF o1
      have hC0 : ((C.length : Int) == 0) = false := beq_false_of_ne (by have := unhide HCL; have := unhide HL; omega)
      have HG1 := hide g1
      have HR1 := hide ((unhide HR).grown g1)
      have HS1 := hide ((unhide HS).grown g1)
      have HO3 : Hid ((w1.alloc (.cells #[] 30)).ownsRow w1.heap.size 30 2 (.slice (some ⟨w1.heap.size, 0, none⟩) 0 0) ([] : List (Int × Int)).length (flat [])) := World.ownsRow_lit w1 #[] 0 (Nat.le_refl _) (by unfold maxLen; omega) rfl
      have HG3 : Hid (w1.grownBy (w1.alloc (.cells #[] 30)) none) := World.grownBy_alloc _ _ _
      clear o1 g1
      go_wp2
      go_loopw [6, 7] (fun v i wr => ∃ (k : Nat) (F : List (Int × Int)), k ≤ m ∧ i = .int .i64 k ∧ Hid (wr.ownsRow w1.heap.size 30 2 v F.length (flat F)) ∧ Hid (F = fieldsT xs (ss.take k)) ∧ Hid ((ss.take k).all (symB xs) = true) ∧ Hid (w1.grownBy wr none)) (fun _ i _ => m - (intOf i).toNat)
      case atStart => exact ⟨0, [], Nat.zero_le _, rfl, HO3, rfl, rfl, HG3⟩
      case round =>
        clear HO3 HG3
        obtain ⟨k, F, hk, rfl, ho, hF, hA, hg⟩ := hrel
        have hFl : F.length ≤ 60000 := by rw [unhide hF, fieldsT, List.length_map, List.length_take]; omega
        obtain ⟨fo, fc, rfl⟩ := own_form (unhide ho)
        by_cases hkm : k < m
        · obtain ⟨sb, sf, rfl, hcs⟩ := ((unhide HS1).grown (unhide hg)).2 k hkm
          have hks : k < ss.length := by rw [unhide HL2]; exact hkm
          have hal := all_takeS (f := symB xs) (xs := ss) (k := k) hks
          have hft := fieldsT_take (xs := xs) (ss := ss) (k := k) hks
          have hnot : symB xs (ss.getD k 0) = false → T = [] := fun h => by
            rw [← unhide HT, textG, unhide HTB]
            have : ss.all (symB xs) = false := by
              cases hx : ss.all (symB xs) with
              | false => rfl
              | true =>
                have e : ss.getD k 0 = ss[k] := by simp [hks]
                rw [e, List.all_eq_true.1 hx _ (List.getElem_mem hks)] at h
                exact h
            rw [this]; rfl
          generalize ss.getD k 0 = s at *
          have e1 := i64_in ((n : Int) - 1) (by omega)
          have e2 := i64_in ((k : Int) + 1) (by omega)
          have hkI : (k : Int) < (m : Int) := by omega
          by_cases hin : 0 ≤ s ∧ s ≤ (n : Int) - 1
          · have HD : Hid (decide (0 ≤ s ∧ s ≤ (n : Int) - 1) = true) := decide_eq_true hin
            obtain ⟨t, rfl⟩ := Int.eq_ofNat_of_zero_le hin.1
            have htn : t < n := by omega
            obtain ⟨xb, xf, rfl, hcx⟩ := ((unhide HR1).grown (unhide hg)).2 t htn
            have hsy : symB xs (t : Int) = decide (xs.getD t 0 ≠ 0) := by
              unfold symB
              rw [unhide HL, decide_eq_true hin, Int.toNat_natCast]; rfl
            rw [Int.toNat_natCast] at hft
            generalize xs.getD t 0 = x at *
            have htI : (t : Int) < (n : Int) := by omega
            by_cases hx : x = 0
            · subst hx
              have hT := hnot (by rw [hsy]; decide)
              subst hT
              have HF := hide (unhide HNIL wr (grown_trans (unhide HG1) (unhide hg)))
              clear hnot hal hft hsy
              go_wp2_with fail
              refine (between (t : Int) 0 _ true HD _).mono ?_
              rintro e w5 ⟨rfl, rfl⟩
              go_wp2
              go_ret
              exact ⟨_, rfl, (unhide (unhide HF)).1, (unhide (unhide HF)).2⟩
            · have hx0 : (x == 0) = false := beq_false_of_ne hx
              have HA2 : Hid ((ss.take (k + 1)).all (symB xs) = true) := by
                unfold Hid; rw [hal, unhide hA, hsy, decide_eq_true hx]; rfl
              obtain ⟨cb, cf, hcoe, cc0, cc1⟩ := ((unhide HRC).grown (unhide hg)).2 t (by rw [unhide HCL]; exact htn)
              rw [unhide HCA t htn] at cc0 cc1
              rw [← unhide hF] at hft
              generalize codeG xs t = cd at *
              obtain ⟨p, q⟩ := cd
              dsimp only at cc0 cc1
              obtain ⟨F2, HF2⟩ : ∃ F2, Hid (F ++ [(p, q)] = F2) := ⟨_, rfl⟩
              have HF3 : Hid (F2 = fieldsT xs (ss.take (k + 1))) := by unfold Hid; rw [hft, unhide HF2]
              have hF2l : F2.length ≤ 60001 := by rw [← unhide HF2, List.length_append]; simp; omega
              have htC : (t : Int) < (C.length : Int) := by have := unhide HCL; omega
              subst hcoe
              clear hnot hal hft hsy hx hA hF
              go_wp2_with fail
              refine (between (t : Int) 0 _ true HD _).mono ?_
              rintro e w5 ⟨rfl, rfl⟩
              go_wp2_with (at_builtin; refine append_fd rfl _ _ rfl w1 (.slice fo F.length fc) F rfl (unhide ho) p q rfl (by omega) (unhide hg) F2 (unhide HF2) ?_)
              intro v7 w7 o7 g7 _
              obtain ⟨so7, sc7, rfl⟩ := own_form o7
              have HO7 := hide o7
              have HG7 := hide g7
              clear o7 g7 ho hg
              go_wp2
              go_roundw
              case rel => exact ⟨k + 1, F2, by omega, by go_num, HO7, HF3, HA2, HG7⟩
              case measure => simp [intOf]; omega
          · have HD : Hid (decide (0 ≤ s ∧ s ≤ (n : Int) - 1) = false) := decide_eq_false hin
            have hT := hnot (by unfold symB; rw [unhide HL, decide_eq_false hin]; rfl)
            subst hT
            have HF := hide (unhide HNIL wr (grown_trans (unhide HG1) (unhide hg)))
            clear hnot hal hft
            go_wp2_with fail
            refine (between s 0 _ false HD _).mono ?_
            rintro e w5 ⟨rfl, rfl⟩
            go_wp2
            go_ret
            exact ⟨_, rfl, (unhide (unhide HF)).1, (unhide (unhide HF)).2⟩
        · obtain rfl : k = m := by omega
          have hall : ss.all (symB xs) = true := by
            have h := unhide hA
            rw [← unhide HL2, List.take_length] at h
            exact h
          have hFF : F = fieldsT xs ss := by
            have h := unhide hF
            rw [← unhide HL2, List.take_length] at h
            exact h
          have HPT : Hid (packed F = T) := by unfold Hid; rw [hFF, ← unhide HT, textG, unhide HTB, hall]; rfl
          have HRF : Hid (RdF wr fo F.length F) := own_rdF (unhide ho)
          clear hall hFF hF hA
          go_wp2_with fail
          refine (specPackBits fo F.length fc F wr (unhide HRF) (by omega)).mono ?_
          rw [unhide HPT]
          rintro e w8 ⟨bo8, c8, rfl, o8, g8⟩
          have HO8 := hide (own_base o8 (base' := w.heap.size) (by have h1 := (unhide HG1).size; have h2 := (unhide hg).size; omega))
          have HG8 := hide (grown_trans (unhide HG1) (grown_trans (unhide hg) g8))
          clear o8 g8
          go_wp2
          go_ret
          exact ⟨_, rfl, unhide HO8, unhide HG8⟩
    · have e : textG xs ss = [] := by rw [textG, textB, hl2, decide_eq_false hm]; simp
      rw [e]
      have hmd : decide ((60000 : Int) < (m : Int)) = true := decide_eq_true (by omega)
      have HL := hide hl
      clear hl hl2
      go_enter Try.func26, Try.ntmps26
      go_wp2_with fail
      refine (specCodesOf ao n cap xs w (unhide HR)).mono ?_
      rw [unhide HC]
      rintro e w1 ⟨v, rfl, o1, g1⟩
      obtain ⟨co, cc, rfl⟩ := own_form o1
      have hC0 : ((C.length : Int) == 0) = false := beq_false_of_ne (by have := unhide HCL; have := unhide HL; omega)
      have HF := hide (unhide HNIL _ (grown_alloc g1 (.cells #[] 30)))
      clear o1
      go_wp2
      go_ret
      refine ⟨_, rfl, ?_⟩
      have h := unhide (unhide HF)
      simpa using h

end Go.Proofs.Ytcbaiagkdphkeaa
