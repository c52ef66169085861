/-
  EncodeBins in the specification: the end, and all of it.
-/
import Derived.Test.YtemfonnkaddmfaaCoderEnc
namespace Go.Proofs.Ytemfonnkaddmfaa
open Go.RowKit

def laysN : Nat → En → En
  | 0, s => s
  | k + 1, s => layN (laysN k s)
theorem OkL.next {s : En} (h : OkL s) : OkL (layN s) := by
  obtain ⟨a1, a2, a3, a4⟩ := lay_ok h
  refine ⟨by omega, a1, ?_⟩
  have := h.room
  rw [a2, a3, Nat.pow_succ]
  omega
theorem lays_ok {s : En} (h : OkL s) : ∀ k, OkL (laysN k s) ∧ (laysN k s).out.length = s.out.length + k
  | 0 => ⟨h, rfl⟩
  | k + 1 => by
    obtain ⟨h1, h2⟩ := lays_ok h k
    have := (lay_ok h1).2.2.1
    exact ⟨h1.next, by show (layN (laysN k s)).out.length = _; omega⟩

set_option maxHeartbeats 1600000 in
theorem specEnd {B w : World} {xb ob : Nat} {v u : Value} {P : List Nat} {s : En} (h : Ow B xb ob w v u P s) (hok : OkL s) (hlen : s.out.length ≤ 900000) :
    Calls Try.prog 37 #[.pointer (some ⟨ob, 0, none⟩)] w fun e w' => ∃ u', e = .returned u' ∧ Ow B xb ob w' v u' P (endE s) := by
  have HL := hide (lays_ok hok)
  have H0 : Hid (Ow B xb ob w v u P (laysN 0 s)) := h
  clear h hok
  go_enter Try.func37, Try.ntmps37
  go_wp2
  go_loopw [3] (fun kv wr => ∃ (k : Nat) (u' : Value), k ≤ 4 ∧ kv = .int .i64 k ∧ Hid (Ow B xb ob wr v u' P (laysN k s))) (fun kv _ => 4 - (intOf kv).toNat)
  case atStart => exact ⟨0, u, Nat.zero_le _, rfl, H0⟩
  case round =>
    clear H0
    obtain ⟨k, u', hk, rfl, hw⟩ := hrel
    by_cases hlt : k < 4
    · have hd : decide ((k : Int) < 4) = true := decide_eq_true (by omega)
      obtain ⟨l1, l2⟩ := unhide HL k
      have HLY := hide (specLay (unhide hw) l1.low l1.bytes (by omega))
      clear l1 l2
      go_wp2_with fail
      refine (unhide HLY).mono ?_
      rintro e w2 ⟨rfl, u2, hw2⟩
      have HW2 : Hid (Ow B xb ob w2 v u2 P (laysN (k + 1) s)) := hw2
      clear hw2 HLY
      go_wp2
      go_roundw
      case rel => exact ⟨k + 1, u2, by omega, by go_num, HW2⟩
      case measure => simp [intOf]; omega
    · obtain rfl : k = 4 := by omega
      obtain ⟨uo, uc, rfl⟩ := own_form (unhide hw).own
      have c3 := (unhide hw).cells.2.2.2.1
      obtain ⟨ol, HOL⟩ : ∃ ol, Hid ((laysN 4 s).out.length = ol) := ⟨_, rfl⟩
      rw [unhide HOL] at c3
      have HF : Hid (Ow B xb ob wr v (.slice uo ol uc) P (endE s)) := by
        have h1 := unhide hw
        rw [unhide HOL] at h1
        exact h1
      clear hw
      go_wp2
      go_ret
      exact ⟨_, rfl, unhide HF⟩

theorem put_len1 (s : En) (p b : Nat) : (putE s p b).out.length ≤ s.out.length + 1 := by
  unfold putE wideE
  have hm : (midE s p b).out = s.out := by unfold midE; split <;> rfl
  split
  · show (layN (midE s p b)).out.length ≤ _
    unfold layN
    rw [List.length_cons, hm]
    split
    · rw [carryR_len]; omega
    · omega
  · rw [hm]; omega
theorem like_set {P : List Nat} {c x : Nat} (hc : c < P.length) : (fun y => (P.set c x).getD y 2048) = (fun y => if y = c then x else P.getD y 2048) := by
  funext y
  rw [List.getD_eq_getElem?_getD, List.getElem?_set]
  by_cases e : c = y
  · subst e; simp [hc]
  · rw [if_neg e, if_neg (fun h => e h.symm), List.getD_eq_getElem?_getD]
theorem like_zero (y : Nat) : (List.replicate 400 2048).getD y 2048 = 2048 := by
  rw [List.getD_eq_getElem?_getD, List.getElem?_replicate]
  split <;> rfl
theorem all_bins {fs : List (Int × Int)} (h : fs.all binB = true) (i : Nat) (hi : i < fs.length) : (0 ≤ (fs.getD i (0, 0)).1 ∧ (fs.getD i (0, 0)).1 ≤ 399) ∧ 0 ≤ (fs.getD i (0, 0)).2 ∧ (fs.getD i (0, 0)).2 ≤ 1 := by
  have e : fs.getD i (0, 0) = fs[i] := by simp [hi]
  have h1 := List.all_eq_true.1 h _ (List.getElem_mem hi)
  rw [← e] at h1
  unfold binB at h1
  rw [Bool.and_eq_true] at h1
  exact ⟨of_decide_eq_true h1.1, of_decide_eq_true h1.2⟩
theorem bins_drop {fs : List (Int × Int)} {i : Nat} (hi : i < fs.length) : binsN (fs.drop i) = ((fs.getD i (0, 0)).1.toNat, (fs.getD i (0, 0)).2.toNat) :: binsN (fs.drop (i + 1)) := by
  have e : fs.getD i (0, 0) = fs[i] := by simp [hi]
  rw [List.drop_eq_getElem_cons hi, e]
  rfl
theorem all_takeB {f : Int × Int → Bool} {xs : List (Int × Int)} {k : Nat} (hk : k < xs.length) : (xs.take (k + 1)).all f = ((xs.take k).all f && f (xs.getD k (0, 0))) := by
  rw [List.take_succ_eq_append_getElem hk, List.all_append]
  simp [hk]
theorem all_noB {f : Int × Int → Bool} {xs : List (Int × Int)} {k : Nat} (hk : k < xs.length) (h : f (xs.getD k (0, 0)) = false) : xs.all f = false := by
  cases hx : xs.all f with
  | false => rfl
  | true =>
    have e : xs.getD k (0, 0) = xs[k] := by simp [hk]
    rw [e, List.all_eq_true.1 hx _ (List.getElem_mem hk)] at h
    exact h

set_option maxRecDepth 20000 in
set_option maxHeartbeats 3200000 in
theorem specEncode (ao : Option Addr) (n cap : Nat) (fs : List (Int × Int)) (w : World) (hr : RdF w ao n fs) :
    Calls Try.prog 11 #[.slice ao n cap] w fun e w' => ∃ bo cap', e = .returned (.slice bo (encG fs).length cap') ∧ w'.ownsRow w.heap.size 5 1 (.slice bo (encG fs).length cap') (encG fs).length ((encG fs).map (Value.int .u8)) ∧ w.grownBy w' none := by
  have hl := hr.1
  have HR := hide hr
  clear hr
  obtain ⟨R, HRR⟩ : ∃ R, Hid (encG fs = R) := ⟨_, rfl⟩
  rw [unhide HRR]
  have HNIL : Hid (R = [] → ∀ wz : World, w.grownBy wz none → (wz.alloc (.cells #[] 5)).ownsRow w.heap.size 5 1 (.slice (some ⟨wz.heap.size, 0, none⟩) R.length 0) R.length (R.map (Value.int .u8)) ∧ w.grownBy (wz.alloc (.cells #[] 5)) none) := fun e wz g => by
    subst e
    exact ⟨own_base (World.ownsRow_lit wz #[] 0 (Nat.le_refl _) (by unfold maxLen; omega) rfl) g.size, grown_alloc g _⟩
  by_cases hn : n ≤ 200000
  · have hd : decide ((200000 : Int) < (n : Int)) = false := decide_eq_false (by omega)
    have HL := hide hl
    clear hl
    go_enter Try.func11, Try.ntmps11
    go_wp2
    go_loopw [3] (fun iv wr => ∃ i : Nat, i ≤ n ∧ iv = .int .i64 i ∧ Hid ((fs.take i).all binB = true) ∧ wr = w) (fun iv _ => n - (intOf iv).toNat)
    case atStart => exact ⟨0, Nat.zero_le _, rfl, rfl, rfl⟩
    case round =>
      obtain ⟨i, hi, rfl, ha, rfl⟩ := hrel
      by_cases hlt : i < n
      · obtain ⟨fb, fo, rfl, c0, c1⟩ := (unhide HR).2 i hlt
        have his : i < fs.length := by rw [unhide HL]; exact hlt
        have hal := all_takeB (f := binB) (xs := fs) (k := i) his
        have hno := all_noB (f := binB) (xs := fs) (k := i) his
        have hiI : (i : Int) < (n : Int) := by omega
        generalize fs.getD i (0, 0) = x at *
        obtain ⟨p, q⟩ := x
        dsimp only at c0 c1
        obtain ⟨b1, HB1⟩ : ∃ b, Hid (decide (0 ≤ p ∧ p ≤ 399) = b) := ⟨_, rfl⟩
        obtain ⟨b2, HB2⟩ : ∃ b, Hid (decide (0 ≤ q ∧ q ≤ 1) = b) := ⟨_, rfl⟩
        have hbx : binB (p, q) = (b1 && b2) := by rw [← unhide HB1, ← unhide HB2]; rfl
        cases b1 with
        | false =>
          have hR0 : R = [] := by
            rw [← unhide HRR, encG, binsB, hno (by rw [hbx]; rfl), Bool.and_false]; rfl
          have HF := hide (unhide HNIL hR0 wr (World.grownBy.refl _ _))
          subst hR0
          clear hal hno hbx ha HNIL
          go_wp2_with fail
          refine (between p 0 399 false HB1 wr).mono ?_
          rintro e w1 ⟨rfl, rfl⟩
          go_wp2
          go_ret
          exact ⟨_, _, rfl, (unhide HF).1, (unhide HF).2⟩
        | true =>
          cases b2 with
          | false =>
            have hR0 : R = [] := by
              rw [← unhide HRR, encG, binsB, hno (by rw [hbx]; rfl), Bool.and_false]; rfl
            have HF := hide (unhide HNIL hR0 wr (World.grownBy.refl _ _))
            subst hR0
            clear hal hno hbx ha HNIL
            go_wp2_with fail
            refine (between p 0 399 true HB1 wr).mono ?_
            rintro e w1 ⟨rfl, rfl⟩
            go_wp2_with fail
            refine (between q 0 1 false HB2 w1).mono ?_
            rintro e w2 ⟨rfl, rfl⟩
            go_wp2
            go_ret
            exact ⟨_, _, rfl, (unhide HF).1, (unhide HF).2⟩
          | true =>
            have HA : Hid ((fs.take (i + 1)).all binB = true) := by unfold Hid; rw [hal, unhide ha, hbx]; rfl
            clear hal hno hbx ha
            go_wp2_with fail
            refine (between p 0 399 true HB1 wr).mono ?_
            rintro e w1 ⟨rfl, rfl⟩
            go_wp2_with fail
            refine (between q 0 1 true HB2 w1).mono ?_
            rintro e w2 ⟨rfl, rfl⟩
            go_wp2
            go_roundw
            case rel => exact ⟨i + 1, by omega, by go_num, HA, trivial⟩
            case measure => simp [intOf]; omega
      · obtain rfl : i = n := by omega
        have hall : fs.all binB = true := by
          have h := unhide ha
          rw [← unhide HL, List.take_length] at h
          exact h
        have HALL := hide hall
        have HRE : Hid (R = (endE (bitsE like0 en0 (binsN fs))).out.reverse.map (fun x : Nat => (x : Int))) := by
          unfold Hid
          rw [← unhide HRR, encG, binsB, hall, unhide HL, decide_eq_true hn]; rfl
        obtain ⟨wo, rfl⟩ : ∃ wo, wo = wr := ⟨wr, rfl⟩
        clear ha hall HNIL
        go_wp2_with fail
        refine (specWriter wo).mono ?_
        rintro e w1 ⟨xb, ob, v, u, rfl, hw1⟩
        have HOW1 := hide hw1
        have HBS0 : Hid (bitsE like0 en0 (binsN fs) = bitsE (fun y => (List.replicate 400 2048).getD y 2048) en0 (binsN (fs.drop 0))) := by
          unfold Hid
          rw [List.drop_zero]
          congr 1
          funext y
          rw [like_zero]; rfl
        clear hw1
        go_wp2
        go_loopw [5] (fun iv wr => ∃ (k : Nat) (u' : Value) (P : List Nat) (s : En), k ≤ i ∧ iv = .int .i64 k ∧ Hid (Ow wo xb ob wr v u' P s) ∧ Hid (OkE s) ∧ Hid (P.length = 400) ∧ Hid (okPs (fun y => P.getD y 2048)) ∧ Hid (s.out.length ≤ k) ∧ Hid (bitsE like0 en0 (binsN fs) = bitsE (fun y => P.getD y 2048) s (binsN (fs.drop k)))) (fun iv _ => i - (intOf iv).toNat)
        case atStart => exact ⟨0, u, List.replicate 400 2048, en0, Nat.zero_le _, rfl, HOW1, start_ok, by unfold Hid; simp, fun y => by dsimp only; rw [like_zero]; exact ⟨by decide, by decide⟩, Nat.le_refl _, HBS0⟩
        case round =>
          clear HOW1 HBS0
          obtain ⟨k, u', P, s, hk, rfl, how, hoks, hPl, hoP, hsl, hbs⟩ := hrel
          by_cases hkn : k < i
          · obtain ⟨fb, fo, rfl, c0, c1⟩ := ((unhide HR).grown (unhide how).lk.grown).2 k hkn
            have hks : k < fs.length := by rw [unhide HL]; exact hkn
            have hbb := all_bins (unhide HALL) k hks
            have hdr := bins_drop hks
            have hkI : (k : Int) < (i : Int) := by omega
            generalize fs.getD k (0, 0) = x at *
            obtain ⟨p, q⟩ := x
            dsimp only at c0 c1 hbb hdr
            obtain ⟨c, rfl⟩ := Int.eq_ofNat_of_zero_le hbb.1.1
            obtain ⟨b, rfl⟩ := Int.eq_ofNat_of_zero_le hbb.2.1
            rw [Int.toNat_natCast, Int.toNat_natCast] at hdr
            have hc4 : c < P.length := by rw [unhide hPl]; omega
            have hPU := fun (W : World) (hW : Ow wo xb ob W v u' P s) => specPut hW (unhide hoks) c b hc4 (by omega) (unhide hoP c) (by have := unhide hsl; omega)
            have HPU := hide hPU
            have HOK2 : Hid (OkE (putE s (P.getD c 2048) b)) := put_ok (unhide hoks) (unhide hoP c) b
            have HPL2 : Hid ((P.set c (learnN (P.getD c 2048) b)).length = 400) := by unfold Hid; rw [List.length_set]; exact unhide hPl
            have HOP2 : Hid (okPs (fun y => (P.set c (learnN (P.getD c 2048) b)).getD y 2048)) := by
              unfold Hid
              rw [like_set hc4]
              exact okPs_learn (unhide hoP) c b
            have HSL2 : Hid ((putE s (P.getD c 2048) b).out.length ≤ k + 1) := by have := put_len1 s (P.getD c 2048) b; have := unhide hsl; unfold Hid; omega
            have HBS2 : Hid (bitsE like0 en0 (binsN fs) = bitsE (fun y => (P.set c (learnN (P.getD c 2048) b)).getD y 2048) (putE s (P.getD c 2048) b) (binsN (fs.drop (k + 1)))) := by
              unfold Hid
              rw [unhide hbs, hdr, like_set hc4]; rfl
            have KEEP : Hid (∀ W, wr.grownBy W none → W.cell? ⟨fb, fo + k * 2, none⟩ = some (.int .i64 (c : Int)) ∧ W.cell? ⟨fb, fo + k * 2 + 1, none⟩ = some (.int .i64 (b : Int))) := fun W g => ⟨g.cell c0 (by simp), g.cell c1 (by simp)⟩
            clear hbb hdr hc4 hPU hoks hPl hoP hsl hbs
            go_wp2
            refine wp_region_noPanic ?_
            refine wp_region_tailL 4 (fun w' => w'.cell? ⟨fb, fo + k * 2, none⟩ = some (.int .i64 (c : Int)) ∧ w'.cell? ⟨fb, fo + k * 2 + 1, none⟩ = some (.int .i64 (b : Int))) [true, true, true, true, true, true, true, true, true, true, true, false] (by kernel_rfl) (fun _ _ _ _ _ h => h) rfl (by decide) (by kernel_rfl) ⟨c0, c1⟩ ?_
            iterate 11
              refine heldF_take (v := ?_) (Or.inl ⟨by rfl, ?_⟩) ?_
              rotate_left 1
              · intro w' hSw
                try dsimp only at hSw
                obtain ⟨z0, z1⟩ := hSw
                go_simp
                try with_reducible rfl
              simp only [Act.put, List.setIfInBounds_toArray, List.set_cons_zero, List.set_cons_succ]
            refine heldF_skip ?_
            refine heldF_nil ?_
            iterate 11 refine tailL_skip ?_
            refine tailL_step (fun K hK => ?_)
            go_simp
            refine (unhide HPU _ ((unhide how).drewN (grown_drew (World.grownBy.refl _ _)))).mono ?_
            rintro e w5 ⟨rfl, u5, hw5⟩
            have HW5 := hide hw5
            clear hw5
            go_simp
            refine hK.out _ _ (.inl rfl) ?_
            clear hK K
            refine tailL_nil (NoPanic.normal ?_)
            clear how HPU KEEP c0 c1
            generalize P.set c (learnN (P.getD c 2048) b) = P2 at *
            generalize putE s (P.getD c 2048) b = s2 at *
            go_wp2
            go_roundw
            case rel => exact ⟨k + 1, u5, P2, s2, by omega, by go_num, HW5, HOK2, HPL2, HOP2, HSL2, HBS2⟩
            case measure => simp [intOf]; omega
          · obtain rfl : k = i := by omega
            have hbs2 := unhide hbs
            have hdn : fs.drop k = [] := List.drop_eq_nil_of_le (by rw [unhide HL]; exact Nat.le_refl _)
            rw [hdn] at hbs2
            have HSE : Hid (bitsE like0 en0 (binsN fs) = s) := hbs2
            have hokl : OkL s := ⟨by have := (unhide hoks).low; omega, (unhide hoks).bytes, by have h1 := (unhide hoks).room; have h2 := (unhide hoks).lo; omega⟩
            have HEN := hide (specEnd (unhide how) hokl (by have := unhide hsl; omega))
            clear hbs2 hdn hbs hoks hPl hoP hokl
            go_wp2_with fail
            refine (unhide HEN).mono ?_
            rintro e w6 ⟨u6, rfl, hw6⟩
            obtain ⟨uo, uc, rfl⟩ := own_form hw6.own
            have HF : Hid (w6.ownsRow wo.heap.size 5 1 (.slice uo R.length uc) R.length (R.map (Value.int .u8)) ∧ wo.grownBy w6 none) := by
              have h1 := hw6.own
              have hR := unhide HRE
              rw [unhide HSE] at hR
              have hRl : R.length = (endE s).out.length := by rw [hR]; simp
              rw [bCells_ints, ← hR, ← hRl] at h1
              exact ⟨h1, hw6.lk.grown⟩
            have hul : (endE s).out.length = R.length := by
              have hR := unhide HRE
              rw [unhide HSE] at hR
              rw [hR]; simp
            rw [hul]
            clear hw6 hul HEN
            go_wp2
            go_ret
            exact ⟨uo, uc, rfl, (unhide HF).1, (unhide HF).2⟩
  · have hd : decide ((200000 : Int) < (n : Int)) = true := decide_eq_true (by omega)
    have hR0 : R = [] := by rw [← unhide HRR, encG, binsB, hl, decide_eq_false hn]; rfl
    have HF := hide (unhide HNIL hR0 w (World.grownBy.refl _ _))
    subst hR0
    go_enter Try.func11, Try.ntmps11
    go_wp2
    go_ret
    exact ⟨_, _, rfl, (unhide HF).1, (unhide HF).2⟩

end Go.Proofs.Ytemfonnkaddmfaa
