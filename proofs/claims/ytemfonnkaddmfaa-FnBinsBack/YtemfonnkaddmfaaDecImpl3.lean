/-
  DecodeBins of the program.
-/
import Derived.Test.YtemfonnkaddmfaaDecImpl2
namespace Go.Proofs.Ytemfonnkaddmfaa
open Go.RowKit

set_option maxRecDepth 20000 in
set_option maxHeartbeats 1600000 in
theorem implCtxsOk (ao : Option Addr) (n cap : Nat) (cs : List Int) (w : World) (hr : Rd .i64 w ao n cs) :
    Calls Try.prog 38 #[.slice ao n cap] w fun e w' => e = .returned (.bool (ctxsB cs)) ∧ w' = w := by
  have hl := hr.1
  have HR := hide hr
  clear hr
  obtain ⟨R, HRR⟩ : ∃ R, Hid (ctxsB cs = R) := ⟨_, rfl⟩
  rw [unhide HRR]
  by_cases hn : n ≤ 200000
  · have hd : decide ((200000 : Int) < (n : Int)) = false := decide_eq_false (by omega)
    have HL := hide hl
    clear hl
    go_enter Try.func38, Try.ntmps38
    go_wp2
    go_loopw [10] (fun iv wr => ∃ i : Nat, i ≤ n ∧ iv = .int .i64 i ∧ Hid ((cs.take i).all ctxB = true) ∧ wr = w) (fun iv _ => n - (intOf iv).toNat)
    case atStart => exact ⟨0, Nat.zero_le _, rfl, rfl, rfl⟩
    case round =>
      obtain ⟨i, hi, rfl, ha, rfl⟩ := hrel
      by_cases hlt : i < n
      · obtain ⟨fb, fo, rfl, c0⟩ := (unhide HR).2 i hlt
        have his : i < cs.length := by rw [unhide HL]; exact hlt
        have hal := all_takeC (f := ctxB) (xs := cs) (k := i) his
        have hno := all_noC (f := ctxB) (xs := cs) (k := i) his
        have hiI : (i : Int) < (n : Int) := by omega
        generalize cs.getD i 0 = p at *
        obtain ⟨b1, HB1⟩ : ∃ b, Hid (decide (0 ≤ p ∧ p ≤ 399) = b) := ⟨_, rfl⟩
        have hbx : ctxB p = b1 := by rw [← unhide HB1]; rfl
        cases b1 with
        | false =>
          have hR0 : R = false := by
            rw [← unhide HRR, ctxsB, hno hbx, Bool.and_false]
          subst hR0
          clear hal hno hbx ha
          go_wp2_with fail
          refine (ctxOk9 p false HB1 _).mono ?_
          rintro e w1 ⟨rfl, rfl⟩
          go_wp2
          go_ret
          exact ⟨rfl, rfl⟩
        | true =>
          have HA : Hid ((cs.take (i + 1)).all ctxB = true) := by unfold Hid; rw [hal, unhide ha, hbx]; rfl
          clear hal hno hbx ha
          go_wp2_with fail
          refine (ctxOk9 p true HB1 _).mono ?_
          rintro e w1 ⟨rfl, rfl⟩
          go_wp2
          go_roundw
          case rel => exact ⟨i + 1, by omega, by go_num, HA, trivial⟩
          case measure => simp [intOf]; omega
      · obtain rfl : i = n := by omega
        have hR1 : R = true := by
          have h := unhide ha
          rw [← unhide HL, List.take_length] at h
          rw [← unhide HRR, ctxsB, h, unhide HL, decide_eq_true hn]; rfl
        subst hR1
        clear ha
        go_wp2
        go_ret
        exact ⟨rfl, rfl⟩
  · have hd : decide ((200000 : Int) < (n : Int)) = true := decide_eq_true (by omega)
    have hR0 : R = false := by rw [← unhide HRR, ctxsB, hl, decide_eq_false hn]; rfl
    subst hR0
    go_enter Try.func38, Try.ntmps38
    go_wp2
    go_ret
    exact ⟨rfl, rfl⟩

set_option maxRecDepth 20000 in
set_option maxHeartbeats 3200000 in
theorem implDecode (bo : Option Addr) (m bc : Nat) (bz : List Int) (ao : Option Addr) (n cap : Nat) (cs : List Int) (w : World) (hz : Rd .u8 w bo m bz) (hb : ∀ i, 0 ≤ bz.getD i 0 ∧ bz.getD i 0 ≤ 255) (hr : Rd .i64 w ao n cs) (hm : m ≤ 1048576) :
    Calls Try.prog 12 #[.slice bo m bc, .slice ao n cap] w fun e w' => ∃ co cc, e = .returned (.slice co (decG bz cs).length cc) ∧ w'.ownsRow w.heap.size 3 1 (.slice co (decG bz cs).length cc) (decG bz cs).length ((decG bz cs).map (Value.int .i64)) ∧ w.grownBy w' none := by
  have hl := hr.1
  have HOK := hide (implCtxsOk ao n cap cs w hr)
  have HR := hide hr
  have HZ := hide hz
  have HB := hide hb
  clear hr hz hb
  obtain ⟨R, HRR⟩ : ∃ R, Hid (decG bz cs = R) := ⟨_, rfl⟩
  rw [unhide HRR]
  obtain ⟨t, HT⟩ : ∃ t, Hid (ctxsB cs = t) := ⟨_, rfl⟩
  rw [unhide HT] at HOK
  have HL := hide hl
  clear hl
  cases t with
  | false =>
    have hR0 : R = [] := by rw [← unhide HRR, decG, unhide HT]; rfl
    subst hR0
    go_enter Try.func12, Try.ntmps12
    go_wp2_with fail
    refine (unhide HOK).mono ?_
    rintro e w1 ⟨rfl, rfl⟩
    clear HOK
    go_wp2
    go_ret
    exact ⟨none, 0, rfl, ⟨rfl, .inl ⟨rfl, rfl⟩⟩, World.grownBy.refl _ _⟩
  | true =>
    have hbb := unhide HT
    unfold ctxsB at hbb
    rw [Bool.and_eq_true] at hbb
    have hn : n ≤ 200000 := by rw [← unhide HL]; exact of_decide_eq_true hbb.1
    have HALL := hide hbb.2
    have HRE : Hid (R = (decN bz cs).map (fun x : Nat => (x : Int))) := by
      unfold Hid
      rw [← unhide HRR, decG, unhide HT]; rfl
    clear hbb
    obtain ⟨i0, hi, hz0, hz1, hz2⟩ := info_parts info_n9
    go_enter Try.func12, Try.ntmps12
    go_wp2_with fail
    refine (unhide HOK).mono ?_
    rintro e w0 ⟨rfl, rfl⟩
    clear HOK
    go_wp2_with fail
    refine (implNewDec bo m bc bz w0 (unhide HZ) (unhide HB) hm).mono ?_
    rintro e w1 ⟨rb, rfl, hw1⟩
    have HOW1 := hide hw1
    have hrl := hw1.co.lt
    have hgs := hw1.grown.size
    clear hw1
    go_wp2_with (at_make; refine wpList_make_own _ rfl _ _ 28 rfl w0.heap.size 3 i0 (.int .i64 0) 1 Try.underlying28 hi hz0 hz1 .i64 .i64 _ n rfl rfl rfl (by rw [hz2]; omega) (by unfold maxLen; omega) hgs ?_)
    intro w2 hown hgrow
    have HO2 : Hid (w2.ownsRow w0.heap.size 3 1 (.slice (some ⟨w1.heap.size, 0, none⟩) ([] : List Nat).length n) ([] : List Nat).length (pCells [])) := hown
    have HNE2 : Hid ((Value.slice (some ⟨w1.heap.size, 0, none⟩) ([] : List Nat).length n).ownBlock ≠ some rb) := fun e => by have e3 : w1.heap.size = rb := Option.some.inj e; omega
    have HC2 := hide ((unhide HOW1).drewN hgrow)
    have HBS0 : Hid (decN bz cs = [] ++ bitsD (byteS bz) (fun y => (List.replicate 400 2048).getD y 2048) ⟨prefV (byteS bz) 4, 4294967295, 4⟩ (ctxsN (cs.drop 0))) := by
      unfold Hid decN
      rw [List.drop_zero, List.nil_append]
      congr 1
      funext y
      rw [like_zero]; rfl
    have HOKS := hide (startD_ok (unhide HB))
    obtain ⟨s0, HS0⟩ : ∃ s0 : De, Hid (⟨prefV (byteS bz) 4, 4294967295, 4⟩ = s0) := ⟨_, rfl⟩
    rw [unhide HS0] at HC2 HBS0 HOKS
    clear hown hgrow HOW1 hrl hgs hi hz0 hz1 hz2
    go_wp2
    go_loopw [6, 19] (fun ov iv wr => ∃ (k : Nat) (oo : Option Addr) (oc : Nat) (L P : List Nat) (s : De), k ≤ n ∧ ov = .slice oo L.length oc ∧ iv = .int .i64 k ∧ Hid (wr.ownsRow w0.heap.size 3 1 (.slice oo L.length oc) L.length (pCells L)) ∧ Hid ((Value.slice oo L.length oc).ownBlock ≠ some rb) ∧ Hid (Cd w0 rb wr (.slice bo m bc) m P s) ∧ Hid (OkD s) ∧ Hid (P.length = 400) ∧ Hid (okPs (fun y => P.getD y 2048)) ∧ Hid (L.length = k) ∧ Hid (decN bz cs = L ++ bitsD (byteS bz) (fun y => P.getD y 2048) s (ctxsN (cs.drop k)))) (fun _ iv _ => n - (intOf iv).toNat)
    case atStart => exact ⟨0, some ⟨w1.heap.size, 0, none⟩, n, [], List.replicate 400 2048, s0, Nat.zero_le _, rfl, rfl, HO2, HNE2, HC2, HOKS, by unfold Hid; simp, fun y => by dsimp only; rw [like_zero]; exact ⟨by decide, by decide⟩, rfl, HBS0⟩
    case round =>
      clear HO2 HNE2 HC2 HBS0 HOKS
      obtain ⟨k, oo, oc, L, P, s, hk, rfl, rfl, hto, hne, hcd, hoks, hPl, hoP, hLk, hbs⟩ := hrel
      by_cases hkn : k < n
      · obtain ⟨fb, fo, rfl, c0⟩ := ((unhide HR).grown (unhide hcd).grown).2 k hkn
        have hks : k < cs.length := by rw [unhide HL]; exact hkn
        have hbb := all_ctxs (unhide HALL) k hks
        have hdr := ctxs_drop hks
        have hkI : (k : Int) < (n : Int) := by omega
        generalize cs.getD k 0 = p at *
        obtain ⟨c, rfl⟩ := Int.eq_ofNat_of_zero_le hbb.1
        rw [Int.toNat_natCast] at hdr
        have hc4 : c < 400 := by omega
        have hc5 : c < P.length := by rw [unhide hPl]; exact hc4
        have HBC := hide (implNext bo m bc bz (unhide hcd) (unhide HZ) (unhide HB) (unhide hoks) c hc4 (unhide hoP c) hm)
        obtain ⟨q1, q2⟩ := bitD_ok (byteS_le (unhide HB)) (unhide hoks) (unhide hoP c)
        have HOK2 := hide q1
        obtain ⟨b, HBT⟩ : ∃ b, Hid (bitD s (P.getD c 2048) = b) := ⟨_, rfl⟩
        have HPL2 : Hid ((P.set c (learnN (P.getD c 2048) b)).length = 400) := by unfold Hid; rw [List.length_set]; exact unhide hPl
        have HOP2 : Hid (okPs (fun y => (P.set c (learnN (P.getD c 2048) b)).getD y 2048)) := by
          unfold Hid
          rw [like_set hc5]
          exact okPs_learn (unhide hoP) c b
        have HBS2 : Hid (decN bz cs = (L ++ [b]) ++ bitsD (byteS bz) (fun y => (P.set c (learnN (P.getD c 2048) b)).getD y 2048) (wideD (byteS bz) (midD s (P.getD c 2048))) (ctxsN (cs.drop (k + 1)))) := by
          unfold Hid
          rw [unhide hbs, hdr, like_set hc5, bitsD, unhide HBT, List.append_assoc]; rfl
        rw [unhide HBT] at HBC
        generalize P.set c (learnN (P.getD c 2048) b) = P2 at *
        dsimp only at HOK2
        generalize wideD (byteS bz) (midD s (P.getD c 2048)) = s2 at *
        have HLB : Hid (L.length ≤ 2000000) := by have := unhide hLk; unfold Hid; omega
        clear hbb hdr hc4 hc5 hoks hPl hoP hbs q1 q2
        go_wp2_with fail
        refine (unhide HBC).mono ?_
        rintro e w5 ⟨rfl, hw5, g5⟩
        have HT5 := hide (own_beneath (unhide hto) g5 (fun g g' h h' e2 => unhide hne (by rw [h', ← e2]; exact h)))
        have HW5 := hide hw5
        have hgs := hw5.grown.size
        clear hw5 HBC hto hcd c0 g5
        go_wp2_with (at_builtin; refine append_pn rfl _ _ rfl w0.heap.size (.slice oo L.length oc) L rfl (unhide HT5) b b rfl rfl (unhide HLB) hgs ?_)
        intro g7 c7 w7 o7 g7w hat7
        have HL7 : Hid (L.length + 1 = (L ++ [b]).length) := by unfold Hid; simp
        have HLK2 : Hid ((L ++ [b]).length = k + 1) := by have := unhide hLk; unfold Hid; simp; omega
        have HN7 : Hid ((Value.slice (some ⟨g7, 0, none⟩) (L.length + 1) c7).ownBlock ≠ some rb) := fun e => by
          have e3 : g7 = rb := Option.some.inj e
          rcases hat7 with e4 | e4
          · rw [e3] at e4; exact unhide hne e4
          · have := (unhide HW5).co.lt; omega
        have HW7 : Hid (Cd w0 rb w7 (.slice bo m bc) m P2 s2) := ⟨(unhide HW5).co.kept g7w (fun e => unhide hne e), (unhide HW5).base, grown_new (unhide HW5).grown g7w (fun k e => ((unhide HT5).lt k e).1)⟩
        have HO7 := hide o7
        rw [unhide HL7] at HN7 HO7 ⊢
        clear o7 g7w hat7 HT5 HW5 hgs HL7 hLk hne
        generalize L ++ [b] = L2 at *
        go_wp2
        go_roundw
        case rel => exact ⟨k + 1, some ⟨g7, 0, none⟩, c7, L2, P2, s2, by omega, rfl, by go_num, HO7, HN7, HW7, HOK2, HPL2, HOP2, HLK2, HBS2⟩
        case measure => simp [intOf]; omega
      · obtain rfl : k = n := by omega
        have hbs2 := unhide hbs
        have hdn : cs.drop k = [] := List.drop_eq_nil_of_le (by rw [unhide HL]; exact Nat.le_refl _)
        rw [hdn] at hbs2
        have hRL : R = L.map (fun x : Nat => (x : Int)) := by
          rw [unhide HRE, hbs2]
          show ((L ++ []).map _) = _
          rw [List.append_nil]
        have hRl : L.length = R.length := by rw [hRL]; simp
        have HF : Hid (wr.ownsRow w0.heap.size 3 1 (.slice oo R.length oc) R.length (R.map (Value.int .i64)) ∧ w0.grownBy wr none) := by
          have h1 := unhide hto
          rw [pCells_ints, ← hRL, hRl] at h1
          exact ⟨h1, (unhide hcd).grown⟩
        rw [hRl]
        clear hbs2 hdn hbs hoks hPl hoP hto hcd hLk hRL hRl hne
        go_wp2
        go_ret
        exact ⟨oo, oc, rfl, (unhide HF).1, (unhide HF).2⟩

end Go.Proofs.Ytemfonnkaddmfaa
