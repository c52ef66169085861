/-
  The bit coder of the program: a new one, and the end.
-/
import Derived.Test.YtekidfkahpaokaaEncImpl3
import Derived.Test.YtekidfkahpaokaaCoderEnc2
namespace Go.Proofs.Ytekidfkahpaokaa
open Go.RowKit

set_option maxRecDepth 100000 in
theorem zeroEnc (w : World) : (zeroValue 79).run Try.prog w = .ok (.agg (coCells 0 (List.replicate 400 0) [.int .i64 0, .slice none 0 0])) w := by kernel_rfl

set_option maxRecDepth 100000 in
set_option maxHeartbeats 1600000 in
theorem implNewEnc (w : World) : Calls Try.prog 45 #[] w fun e w' => ∃ ob u, e = .returned (.pointer (some ⟨ob, 0, none⟩)) ∧ Ce w ob w' u (List.replicate 400 2048) en0 := by
  have hz := zeroEnc w
  obtain ⟨Z, HZ⟩ : ∃ Z, Hid (coCells 0 (List.replicate 400 0) [.int .i64 0, .slice none 0 0] = Z) := ⟨_, rfl⟩
  rw [unhide HZ] at hz
  have HST : Hid (Calls Try.prog 61 #[.pointer (some ⟨w.heap.size, 0, none⟩)] (w.alloc (.cells Z 79)) fun e w' => e = .returned (.tuple #[]) ∧ Ce w w.heap.size w' (.slice none 0 0) (List.replicate 400 2048) en0) := by
    have hc : Co (w.alloc (.cells Z 79)) w.heap.size 79 0 (List.replicate 400 0) [.int .i64 0, .slice none 0 0] := ⟨by rw [← unhide HZ]; exact heap_alloc_new w _, by simp⟩
    refine (implStart hc).mono ?_
    rintro e w' ⟨rfl, hco, g⟩
    exact ⟨rfl, hco, ⟨rfl, .inl ⟨rfl, rfl⟩⟩, fun e => by simp [Value.ownBlock] at e, Nat.le_refl _, grown_new (World.grownBy_alloc w (.cells Z 79) none) g (fun k e => by have := Option.some.inj e; omega)⟩
  go_enter Try.func45, Try.ntmps45
  go_wp2_with fail
  refine (unhide HST).mono ?_
  rintro e w1 ⟨rfl, hw1⟩
  have HW1 := hide hw1
  clear hw1 HST
  go_wp2
  go_ret
  exact ⟨_, _, rfl, unhide HW1⟩

set_option maxHeartbeats 1600000 in
theorem implFinish {B w : World} {ob : Nat} {u : Value} {P : List Nat} {s : En} (h : Ce B ob w u P s) (hok : OkL s) (hlen : s.out.length ≤ 900000) :
    Calls Try.prog 47 #[.pointer (some ⟨ob, 0, none⟩)] w fun e w' => ∃ u', e = .returned u' ∧ Ce B ob w' u' P (endE s) := by
  have HL := hide (lays_ok hok)
  have H0 : Hid (Ce B ob w u P (laysN 0 s)) := h
  clear h hok
  go_enter Try.func47, Try.ntmps47
  go_wp2
  go_loopw [3] (fun kv wr => ∃ (k : Nat) (u' : Value), k ≤ 4 ∧ kv = .int .i64 k ∧ Hid (Ce B ob wr u' P (laysN k s))) (fun kv _ => 4 - (intOf kv).toNat)
  case atStart => exact ⟨0, u, Nat.zero_le _, rfl, H0⟩
  case round =>
    clear H0
    obtain ⟨k, u', hk, rfl, hw⟩ := hrel
    by_cases hlt : k < 4
    · have hd : decide ((k : Int) < 4) = true := decide_eq_true (by omega)
      obtain ⟨l1, l2⟩ := unhide HL k
      have HLY := hide (implLay (unhide hw) l1 (by omega))
      clear l1 l2
      go_wp2_with fail
      refine (unhide HLY).mono ?_
      rintro e w2 ⟨rfl, u2, hw2⟩
      have HW2 : Hid (Ce B ob w2 u2 P (laysN (k + 1) s)) := hw2
      clear hw2 HLY
      go_wp2
      go_roundw
      case rel => exact ⟨k + 1, u2, by omega, by go_num, HW2⟩
      case measure => simp [intOf]; omega
    · obtain rfl : k = 4 := by omega
      obtain ⟨uo, uc, rfl⟩ := own_form (unhide hw).own
      have c3 := (unhide hw).cells.2.2
      obtain ⟨ol, HOL⟩ : ∃ ol, Hid ((laysN 4 s).out.length = ol) := ⟨_, rfl⟩
      rw [unhide HOL] at c3
      have HF : Hid (Ce B ob wr (.slice uo ol uc) P (endE s)) := by
        have h1 := unhide hw
        rw [unhide HOL] at h1
        exact h1
      clear hw
      go_wp2
      go_ret
      exact ⟨_, rfl, unhide HF⟩

theorem inR9 (n lo hi : Int) (t : Bool) (ht : Hid (decide (lo ≤ n ∧ n ≤ hi) = t)) (w : World) :
    Calls Try.prog 39 #[.int .i64 n, .int .i64 lo, .int .i64 hi] w fun e w' => e = .returned (.bool t) ∧ w' = w := by
  by_cases h1 : lo ≤ n
  · by_cases h2 : n ≤ hi
    · have e : t = true := by rw [← unhide ht]; simp [h1, h2]
      subst e
      have hd : decide (lo ≤ n) = true := by simpa using h1
      have hd2 : decide (n ≤ hi) = true := by simpa using h2
      clear ht
      go_enter Try.func39, Try.ntmps39
      go_wp2
      go_ret
      exact ⟨by simp, rfl⟩
    · have e : t = false := by rw [← unhide ht]; simp [h2]
      subst e
      have hd : decide (lo ≤ n) = true := by simpa using h1
      have hd2 : decide (n ≤ hi) = false := by simpa using h2
      clear ht
      go_enter Try.func39, Try.ntmps39
      go_wp2
      go_ret
      exact ⟨by simp, rfl⟩
  · have e : t = false := by rw [← unhide ht]; simp [h1]
    subst e
    have hd : decide (lo ≤ n) = false := by simpa using h1
    go_enter Try.func39, Try.ntmps39
    go_wp2
    go_ret
    exact ⟨rfl, rfl⟩

theorem ctxOk9 (n : Int) (t : Bool) (ht : Hid (decide (0 ≤ n ∧ n ≤ 399) = t)) (w : World) :
    Calls Try.prog 68 #[.int .i64 n] w fun e w' => e = .returned (.bool t) ∧ w' = w := by
  go_enter Try.func68, Try.ntmps68
  go_wp2_with fail
  refine (inR9 n 0 399 t ht w).mono ?_
  rintro e w' ⟨rfl, rfl⟩
  go_wp2
  go_ret
  exact ⟨rfl, rfl⟩

set_option maxRecDepth 20000 in
set_option maxHeartbeats 1600000 in
theorem implBinsOk (ao : Option Addr) (n cap : Nat) (fs : List (Int × Int)) (w : World) (hr : RdF w ao n fs) :
    Calls Try.prog 44 #[.slice ao n cap] w fun e w' => e = .returned (.bool (binsB fs)) ∧ w.grownBy w' none := by
  have hl := hr.1
  have HR := hide hr
  clear hr
  obtain ⟨R, HRR⟩ : ∃ R, Hid (binsB fs = R) := ⟨_, rfl⟩
  rw [unhide HRR]
  by_cases hn : n ≤ 200000
  · have hd : decide ((200000 : Int) < (n : Int)) = false := decide_eq_false (by omega)
    have HL := hide hl
    clear hl
    go_enter Try.func44, Try.ntmps44
    go_wp2
    go_loopw [10] (fun iv wr => ∃ i : Nat, i ≤ n ∧ iv = .int .i64 i ∧ Hid ((fs.take i).all binB = true) ∧ Hid (w.grownBy wr none)) (fun iv _ => n - (intOf iv).toNat)
    case atStart => exact ⟨0, Nat.zero_le _, rfl, rfl, World.grownBy.refl _ _⟩
    case round =>
      obtain ⟨i, hi, rfl, ha, hg⟩ := hrel
      by_cases hlt : i < n
      · obtain ⟨fb, fo, rfl, c0, c1⟩ := ((unhide HR).grown (unhide hg)).2 i hlt
        have his : i < fs.length := by rw [unhide HL]; exact hlt
        have hal := all_takeB (f := binB) (xs := fs) (k := i) his
        have hno := all_noB (f := binB) (xs := fs) (k := i) his
        have hiI : (i : Int) < (n : Int) := by omega
        generalize fs.getD i (0, 0) = x at *
        obtain ⟨p, q⟩ := x
        dsimp only at c0 c1
        have G2 : Hid (w.grownBy (wr.alloc (.cells #[.int .i64 p, .int .i64 q] 30)) none) := grown_alloc (unhide hg) _
        obtain ⟨b1, HB1⟩ : ∃ b, Hid (decide (0 ≤ p ∧ p ≤ 399) = b) := ⟨_, rfl⟩
        obtain ⟨b2, HB2⟩ : ∃ b, Hid (decide (0 ≤ q ∧ q ≤ 1) = b) := ⟨_, rfl⟩
        have hbx : binB (p, q) = (b1 && b2) := by rw [← unhide HB1, ← unhide HB2]; rfl
        cases b1 with
        | false =>
          have hR0 : R = false := by
            rw [← unhide HRR, binsB, hno (by rw [hbx]; rfl), Bool.and_false]
          subst hR0
          clear hal hno hbx ha
          go_wp2_with fail
          refine (ctxOk9 p false HB1 _).mono ?_
          rintro e w1 ⟨rfl, rfl⟩
          go_wp2
          go_ret
          exact ⟨rfl, unhide G2⟩
        | true =>
          cases b2 with
          | false =>
            have hR0 : R = false := by
              rw [← unhide HRR, binsB, hno (by rw [hbx]; rfl), Bool.and_false]
            subst hR0
            clear hal hno hbx ha
            go_wp2_with fail
            refine (ctxOk9 p true HB1 _).mono ?_
            rintro e w1 ⟨rfl, rfl⟩
            go_wp2_with fail
            refine (inR9 q 0 1 false HB2 _).mono ?_
            rintro e w2 ⟨rfl, rfl⟩
            go_wp2
            go_ret
            exact ⟨rfl, unhide G2⟩
          | true =>
            have HA : Hid ((fs.take (i + 1)).all binB = true) := by unfold Hid; rw [hal, unhide ha, hbx]; rfl
            clear hal hno hbx ha
            go_wp2_with fail
            refine (ctxOk9 p true HB1 _).mono ?_
            rintro e w1 ⟨rfl, rfl⟩
            go_wp2_with fail
            refine (inR9 q 0 1 true HB2 _).mono ?_
            rintro e w2 ⟨rfl, rfl⟩
            go_wp2
            go_roundw
            case rel => exact ⟨i + 1, by omega, by go_num, HA, G2⟩
            case measure => simp [intOf]; omega
      · obtain rfl : i = n := by omega
        have hR1 : R = true := by
          have h := unhide ha
          rw [← unhide HL, List.take_length] at h
          rw [← unhide HRR, binsB, h, unhide HL, decide_eq_true hn]; rfl
        subst hR1
        clear ha
        go_wp2
        go_ret
        exact ⟨rfl, unhide hg⟩
  · have hd : decide ((200000 : Int) < (n : Int)) = true := decide_eq_true (by omega)
    have hR0 : R = false := by rw [← unhide HRR, binsB, hl, decide_eq_false hn]; rfl
    subst hR0
    go_enter Try.func44, Try.ntmps44
    go_wp2
    go_ret
    exact ⟨rfl, World.grownBy.refl _ _⟩

end Go.Proofs.Ytekidfkahpaokaa
