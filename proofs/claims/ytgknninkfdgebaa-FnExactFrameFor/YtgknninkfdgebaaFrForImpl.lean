/-
  FrameFor in the program (written by gen_framefor3.py).
-/
import Derived.Test.YtgknninkfdgebaaFrForSpec2
import Derived.Test.YtgknninkfdgebaaPicImpl2
import Derived.Test.YtgknninkfdgebaaStorePart
namespace Go.Proofs.Ytgknninkfdgebaa
open Go.RowKit

def FixR (ok : Bool) (R : Array Value) (p wd ht rs : Int) (n : Nat) (tc hv : Bool) : Prop := (ok = false → R = #[.int .i64 0, .int .i64 0, .int .i64 0, .int .i64 0, .int .i64 0, .int .i64 0, .int .i64 0, .int .i64 0, .int .i64 0, .int .i64 0, .int .i64 0, .int .i64 0, .int .i64 0, .int .i64 0, .int .i64 0, .int .i64 0, .int .i64 0, .int .i64 0, .int .i64 0, .int .i64 0, .int .i64 0]) ∧ (ok = true → ∃ D, Fx R p wd ht rs n D ∧ ∀ i j, i < n → j < 4 → D i j = frC tc hv i j)
theorem fixR_no (p wd ht rs : Int) (n : Nat) (tc hv : Bool) : FixR false #[.int .i64 0, .int .i64 0, .int .i64 0, .int .i64 0, .int .i64 0, .int .i64 0, .int .i64 0, .int .i64 0, .int .i64 0, .int .i64 0, .int .i64 0, .int .i64 0, .int .i64 0, .int .i64 0, .int .i64 0, .int .i64 0, .int .i64 0, .int .i64 0, .int .i64 0, .int .i64 0, .int .i64 0] p wd ht rs n tc hv := ⟨fun _ => rfl, fun e => absurd e (by simp)⟩
theorem fx_set {X : Array Value} {p wd ht rs n : Int} {D : Nat → Nat → Int} (h : Fx X p wd ht rs n D) (i j : Nat) (hi : i < 4) (hj : j < 4) (v : Int) :
    Fx (X.setIfInBounds (5 + i * 4 + j) (.int .i64 v)) p wd ht rs n (fun a b => if a = i ∧ b = j then v else D a b) := by
  have hs := h.size
  have low : ∀ q, q ≠ 5 + i * 4 + j → (X.setIfInBounds (5 + i * 4 + j) (Value.int .i64 v))[q]? = X[q]? := fun q hq => by
    rw [Array.getElem?_setIfInBounds, if_neg (fun e => hq e.symm)]
  refine ⟨by simp; exact hs, (low 0 (by omega)).trans h.c0, (low 1 (by omega)).trans h.c1, (low 2 (by omega)).trans h.c2, (low 3 (by omega)).trans h.c3, (low 4 (by omega)).trans h.c4, fun a b ha hb => ?_⟩
  by_cases e : a = i ∧ b = j
  · obtain ⟨rfl, rfl⟩ := e
    rw [if_pos ⟨rfl, rfl⟩, Array.getElem?_setIfInBounds, if_pos rfl, if_pos (by omega)]
  · rw [if_neg e, low _ (by omega)]
    exact h.comp a b ha hb

theorem frC_at_no (i j : Nat) (hj : j < 4) : (if j = 0 then 1 + (i : Int) else if i = 0 ∧ j = 3 then 0 else 1) = frC false false i j := by
  have hj' : j = 0 ∨ j = 1 ∨ j = 2 ∨ j = 3 := by omega
  rcases hj' with rfl | rfl | rfl | rfl <;> simp [frC]
theorem frC_at_yes (i j : Nat) (hj : j < 4) : (if j = 0 then 11 + (i : Int) else if i = 0 ∧ j = 3 then 0 else 1) = frC true false i j := by
  have hj' : j = 0 ∨ j = 1 ∨ j = 2 ∨ j = 3 := by omega
  rcases hj' with rfl | rfl | rfl | rfl <;> simp [frC]
theorem frC_at2_no (i j : Nat) (hj : j < 4) : (if i = 0 ∧ j = 2 then 2 else if i = 0 ∧ j = 1 then 2 else if j = 0 then 1 + (i : Int) else if i = 0 ∧ j = 3 then 0 else 1) = frC false true i j := by
  have hj' : j = 0 ∨ j = 1 ∨ j = 2 ∨ j = 3 := by omega
  rcases hj' with rfl | rfl | rfl | rfl <;> simp [frC]
theorem frC_at2_yes (i j : Nat) (hj : j < 4) : (if i = 0 ∧ j = 2 then 2 else if i = 0 ∧ j = 1 then 2 else if j = 0 then 11 + (i : Int) else if i = 0 ∧ j = 3 then 0 else 1) = frC true true i j := by
  have hj' : j = 0 ∨ j = 1 ∨ j = 2 ∨ j = 3 := by omega
  rcases hj' with rfl | rfl | rfl | rfl <;> simp [frC]

theorem implTurnsC (p wd ht : Int) (xo : Option Addr) (n xc : Nat) (q m kd rs : Int) (co ha : Bool) (w : World) (tc : Bool) (HTC : Hid (tcB co n = tc)) :
    Calls Try.prog 57 #[.agg #[.int .i64 p, .int .i64 wd, .int .i64 ht, .slice xo n xc], .agg #[.int .i64 q, .int .i64 m, .int .i64 kd, .int .i64 rs, .bool co, .bool ha]] w fun e w' => e = .returned (.bool tc) ∧ w.grownBy w' none := by
  have h := unhide HTC
  unfold tcB at h
  clear HTC
  cases co with
  | false =>
    obtain rfl : tc = false := by simpa using h.symm
    clear h
    go_enter Try.func57, Try.ntmps57
    go_wp2
    go_ret
    exact ⟨rfl, grown_alloc (World.grownBy_alloc _ _ _) _⟩
  | true =>
    simp only [Bool.true_and] at h
    have hc : ((n : Int) == 3) = tc := by rw [← h]; rfl
    clear h
    go_enter Try.func57, Try.ntmps57
    go_wp2
    go_ret
    exact ⟨rfl, grown_alloc (World.grownBy_alloc _ _ _) _⟩

theorem implHalves (p wd ht : Int) (xo : Option Addr) (n xc : Nat) (q m kd rs : Int) (co ha : Bool) (w : World) (hv : Bool) (HHV : Hid (hvB ha n = hv)) :
    Calls Try.prog 58 #[.agg #[.int .i64 p, .int .i64 wd, .int .i64 ht, .slice xo n xc], .agg #[.int .i64 q, .int .i64 m, .int .i64 kd, .int .i64 rs, .bool co, .bool ha]] w fun e w' => e = .returned (.bool hv) ∧ w.grownBy w' none := by
  have h := unhide HHV
  unfold hvB at h
  clear HHV
  cases ha with
  | false =>
    obtain rfl : hv = false := by simpa using h.symm
    clear h
    go_enter Try.func58, Try.ntmps58
    go_wp2
    go_ret
    exact ⟨rfl, grown_alloc (World.grownBy_alloc _ _ _) _⟩
  | true =>
    simp only [Bool.true_and] at h
    have hc : decide ((3 : Int) ≤ (n : Int)) = hv := by rw [← h, decide_eq_decide]; omega
    clear h
    go_enter Try.func58, Try.ntmps58
    go_wp2
    go_ret
    exact ⟨rfl, grown_alloc (World.grownBy_alloc _ _ _) _⟩

set_option maxRecDepth 20000 in
set_option maxHeartbeats 6400000 in
theorem implFrameFix (p wd ht : Int) (xo : Option Addr) (n xc : Nat) (X : List (List Int)) (q m kd rs : Int) (co ha : Bool) (w : World) (HN : Hid (X.length = n)) (hr : RdPi w (.agg #[.int .i64 p, .int .i64 wd, .int .i64 ht, .slice xo n xc]) ⟨p, wd, ht, X⟩) (hsz : szPi ⟨p, wd, ht, X⟩ ≤ 1048576)
    (ok : Bool) (HOK : Hid ((picB p wd ht X && optsB q m kd rs) = ok)) (tc hv : Bool) (HTC : Hid (tcB co n = tc)) (HHV : Hid (hvB ha n = hv)) :
    Calls Try.prog 45 #[.agg #[.int .i64 p, .int .i64 wd, .int .i64 ht, .slice xo n xc], .agg #[.int .i64 q, .int .i64 m, .int .i64 kd, .int .i64 rs, .bool co, .bool ha]] w fun e w' => ∃ R, e = .returned (.agg R) ∧ FixR ok R p wd ht rs n tc hv ∧ w.grownBy w' none := by
  obtain ⟨t1, H1⟩ : ∃ t, Hid (picB p wd ht X = t) := ⟨_, rfl⟩
  obtain ⟨t2, H2⟩ : ∃ t, Hid (optsB q m kd rs = t) := ⟨_, rfl⟩
  have hok := unhide HOK
  rw [unhide H1, unhide H2] at hok
  have HOK2 := hide hok
  clear hok HOK
  obtain ⟨W0, hW0⟩ : ∃ W0, (((w).alloc (.cells #[.int .i64 p, .int .i64 wd, .int .i64 ht, .slice xo n xc] 33)).alloc (.cells #[.int .i64 q, .int .i64 m, .int .i64 kd, .int .i64 rs, .bool co, .bool ha] 40)).alloc (.cells #[.int .i64 0, .int .i64 0, .int .i64 0, .int .i64 0, .int .i64 0, .int .i64 0, .int .i64 0, .int .i64 0, .int .i64 0, .int .i64 0, .int .i64 0, .int .i64 0, .int .i64 0, .int .i64 0, .int .i64 0, .int .i64 0, .int .i64 0, .int .i64 0, .int .i64 0, .int .i64 0, .int .i64 0] 65) = W0 := ⟨_, rfl⟩
  have HG0 : Hid (w.grownBy W0 none) := by rw [← hW0]; exact grown_alloc (grown_alloc (World.grownBy_alloc _ _ _) _) _
  have b0 : Hid (W0.heap[w.heap.size]? = some (.cells #[.int .i64 p, .int .i64 wd, .int .i64 ht, .slice xo n xc] 33 (0, 0))) := by
    rw [← hW0, Below.heap_alloc _ _ _ (by simp <;> omega), Below.heap_alloc _ _ _ (by simp <;> omega)]
    have := heap_alloc_new (w) (.cells #[.int .i64 p, .int .i64 wd, .int .i64 ht, .slice xo n xc] 33)
    unfold Hid
    simpa using this
  have b1 : Hid (W0.heap[w.heap.size + 1]? = some (.cells #[.int .i64 q, .int .i64 m, .int .i64 kd, .int .i64 rs, .bool co, .bool ha] 40 (0, 0))) := by
    rw [← hW0, Below.heap_alloc _ _ _ (by simp <;> omega)]
    have := heap_alloc_new ((w).alloc (.cells #[.int .i64 p, .int .i64 wd, .int .i64 ht, .slice xo n xc] 33)) (.cells #[.int .i64 q, .int .i64 m, .int .i64 kd, .int .i64 rs, .bool co, .bool ha] 40)
    unfold Hid
    simpa using this
  have b2 : Hid (W0.heap[w.heap.size + 1 + 1]? = some (.cells #[.int .i64 0, .int .i64 0, .int .i64 0, .int .i64 0, .int .i64 0, .int .i64 0, .int .i64 0, .int .i64 0, .int .i64 0, .int .i64 0, .int .i64 0, .int .i64 0, .int .i64 0, .int .i64 0, .int .i64 0, .int .i64 0, .int .i64 0, .int .i64 0, .int .i64 0, .int .i64 0, .int .i64 0] 65 (0, 0))) := by
    rw [← hW0]
    have := heap_alloc_new (((w).alloc (.cells #[.int .i64 p, .int .i64 wd, .int .i64 ht, .slice xo n xc] 33)).alloc (.cells #[.int .i64 q, .int .i64 m, .int .i64 kd, .int .i64 rs, .bool co, .bool ha] 40)) (.cells #[.int .i64 0, .int .i64 0, .int .i64 0, .int .i64 0, .int .i64 0, .int .i64 0, .int .i64 0, .int .i64 0, .int .i64 0, .int .i64 0, .int .i64 0, .int .i64 0, .int .i64 0, .int .i64 0, .int .i64 0, .int .i64 0, .int .i64 0, .int .i64 0, .int .i64 0, .int .i64 0, .int .i64 0] 65)
    unfold Hid
    simpa using this
  have HSZ : Hid (W0.heap.size = w.heap.size + 3) := by rw [← hW0]; simp [Hid]
  have HW := hide hW0
  have HR := hide (RdPi.st _ _ _ _ hr (unhide HG0))
  clear hW0 hr
  generalize hs : w.heap.size = s at *
  have HSZ' := hide hs
  clear hs
  go_enter Try.func45, Try.ntmps45
  go_wp2_with fail
  rw [unhide HSZ', unhide HW]
  refine (implPictureOk ⟨p, wd, ht, X⟩ _ W0 (unhide HR) hsz t1 H1).mono ?_
  rintro e w1 ⟨rfl, g1⟩
  have P1 := hide (grown_at7 g1 (unhide b0) (by simp))
  have O1 := hide (grown_at7 g1 (unhide b1) (by simp))
  have R1 := hide (grown_at7 g1 (unhide b2) (by simp))
  have G1 := hide (grown_trans (unhide HG0) g1)
  clear g1 b0 b1 b2 HG0 HW
  cases t1 with
  | false =>
    obtain rfl : ok = false := by have := unhide HOK2; simpa using this.symm
    go_wp2_with (refine store_row rfl 65 _ _ rfl (s + 1 + 1) rfl #[.int .i64 0, .int .i64 0, .int .i64 0, .int .i64 0, .int .i64 0, .int .i64 0, .int .i64 0, .int .i64 0, .int .i64 0, .int .i64 0, .int .i64 0, .int .i64 0, .int .i64 0, .int .i64 0, .int .i64 0, .int .i64 0, .int .i64 0, .int .i64 0, .int .i64 0, .int .i64 0, .int .i64 0] rfl #[.int .i64 0, .int .i64 0, .int .i64 0, .int .i64 0, .int .i64 0, .int .i64 0, .int .i64 0, .int .i64 0, .int .i64 0, .int .i64 0, .int .i64 0, .int .i64 0, .int .i64 0, .int .i64 0, .int .i64 0, .int .i64 0, .int .i64 0, .int .i64 0, .int .i64 0, .int .i64 0, .int .i64 0] 65 (unhide R1) rfl (by kernel_rfl) (by simp [Value.oneCell']) ?_; intro w9 hB9 g9)
    refine bodyPost_ret (v := .agg #[.int .i64 0, .int .i64 0, .int .i64 0, .int .i64 0, .int .i64 0, .int .i64 0, .int .i64 0, .int .i64 0, .int .i64 0, .int .i64 0, .int .i64 0, .int .i64 0, .int .i64 0, .int .i64 0, .int .i64 0, .int .i64 0, .int .i64 0, .int .i64 0, .int .i64 0, .int .i64 0, .int .i64 0]) ?_ rfl ⟨_, rfl, fixR_no _ _ _ _ _ _ _, ?_⟩
    · rw [results_c1 rfl]
      exact run_loadVar_row w9 _ 65 65 _ (0, 0) _ hB9 Try.underlying65 rfl (by kernel_rfl)
    · exact grown_new (unhide G1) g9 (fun g e => by simp at e; have := unhide HSZ'; omega)
  | true =>
  go_wp2_with (refine load_row rfl 40 _ rfl (s + 1) rfl #[.int .i64 q, .int .i64 m, .int .i64 kd, .int .i64 rs, .bool co, .bool ha] 40 (unhide O1) _ Try.underlying40 rfl (by kernel_rfl) ?_)
  refine (implOptionsOk q m kd rs co ha t2 H2 w1).mono ?_
  rintro e w2 ⟨rfl, g2⟩
  have P2 := hide (grown_at7 g2 (unhide P1) (by simp))
  have O2 := hide (grown_at7 g2 (unhide O1) (by simp))
  have R2 := hide (grown_at7 g2 (unhide R1) (by simp))
  have G2 := hide (grown_trans (unhide G1) g2)
  clear g2 P1 O1 R1 G1
  cases t2 with
  | false =>
    obtain rfl : ok = false := by have := unhide HOK2; simpa using this.symm
    go_wp2_with (refine store_row rfl 65 _ _ rfl (s + 1 + 1) rfl #[.int .i64 0, .int .i64 0, .int .i64 0, .int .i64 0, .int .i64 0, .int .i64 0, .int .i64 0, .int .i64 0, .int .i64 0, .int .i64 0, .int .i64 0, .int .i64 0, .int .i64 0, .int .i64 0, .int .i64 0, .int .i64 0, .int .i64 0, .int .i64 0, .int .i64 0, .int .i64 0, .int .i64 0] rfl #[.int .i64 0, .int .i64 0, .int .i64 0, .int .i64 0, .int .i64 0, .int .i64 0, .int .i64 0, .int .i64 0, .int .i64 0, .int .i64 0, .int .i64 0, .int .i64 0, .int .i64 0, .int .i64 0, .int .i64 0, .int .i64 0, .int .i64 0, .int .i64 0, .int .i64 0, .int .i64 0, .int .i64 0] 65 (unhide R2) rfl (by kernel_rfl) (by simp [Value.oneCell']) ?_; intro w9 hB9 g9)
    refine bodyPost_ret (v := .agg #[.int .i64 0, .int .i64 0, .int .i64 0, .int .i64 0, .int .i64 0, .int .i64 0, .int .i64 0, .int .i64 0, .int .i64 0, .int .i64 0, .int .i64 0, .int .i64 0, .int .i64 0, .int .i64 0, .int .i64 0, .int .i64 0, .int .i64 0, .int .i64 0, .int .i64 0, .int .i64 0, .int .i64 0]) ?_ rfl ⟨_, rfl, fixR_no _ _ _ _ _ _ _, ?_⟩
    · rw [results_c1 rfl]
      exact run_loadVar_row w9 _ 65 65 _ (0, 0) _ hB9 Try.underlying65 rfl (by kernel_rfl)
    · exact grown_new (unhide G2) g9 (fun g e => by simp at e; have := unhide HSZ'; omega)
  | true =>
  obtain rfl : ok = true := by have := unhide HOK2; simpa using this.symm
  have hn4 := picB_few (unhide H1)
  rw [unhide HN] at hn4
  have hnI : (n : Int) ≤ 4 := by omega
  clear HR HOK2 H1 H2
  go_wp2_with (refine load_row rfl 33 _ rfl s rfl #[.int .i64 p, .int .i64 wd, .int .i64 ht, .slice xo n xc] 33 (unhide P2) _ Try.underlying33 rfl (by kernel_rfl) ?_)
  refine (implHead p wd ht xo n xc w2).mono ?_
  rintro e w3 ⟨rfl, g3⟩
  have G3 := hide (grown_trans (unhide G2) (grown_trans g3 (World.grownBy_alloc w3 (.cells #[.int .i64 0, .int .i64 0, .int .i64 0, .int .i64 0, .int .i64 0, .int .i64 0, .int .i64 0, .int .i64 0, .int .i64 0, .int .i64 0, .int .i64 0, .int .i64 0, .int .i64 0, .int .i64 0, .int .i64 0, .int .i64 0, .int .i64 0, .int .i64 0, .int .i64 0, .int .i64 0, .int .i64 0] 65) _)))
  have P3 := hide (grown_at7 (grown_trans g3 (World.grownBy_alloc w3 (.cells #[.int .i64 0, .int .i64 0, .int .i64 0, .int .i64 0, .int .i64 0, .int .i64 0, .int .i64 0, .int .i64 0, .int .i64 0, .int .i64 0, .int .i64 0, .int .i64 0, .int .i64 0, .int .i64 0, .int .i64 0, .int .i64 0, .int .i64 0, .int .i64 0, .int .i64 0, .int .i64 0, .int .i64 0] 65) _)) (unhide P2) (by simp))
  have O3 := hide (grown_at7 (grown_trans g3 (World.grownBy_alloc w3 (.cells #[.int .i64 0, .int .i64 0, .int .i64 0, .int .i64 0, .int .i64 0, .int .i64 0, .int .i64 0, .int .i64 0, .int .i64 0, .int .i64 0, .int .i64 0, .int .i64 0, .int .i64 0, .int .i64 0, .int .i64 0, .int .i64 0, .int .i64 0, .int .i64 0, .int .i64 0, .int .i64 0, .int .i64 0] 65) _)) (unhide O2) (by simp))
  have R3 := hide (grown_at7 (grown_trans g3 (World.grownBy_alloc w3 (.cells #[.int .i64 0, .int .i64 0, .int .i64 0, .int .i64 0, .int .i64 0, .int .i64 0, .int .i64 0, .int .i64 0, .int .i64 0, .int .i64 0, .int .i64 0, .int .i64 0, .int .i64 0, .int .i64 0, .int .i64 0, .int .i64 0, .int .i64 0, .int .i64 0, .int .i64 0, .int .i64 0, .int .i64 0] 65) _)) (unhide R2) (by simp))
  have F3 := hide (heap_alloc_new w3 (.cells #[.int .i64 0, .int .i64 0, .int .i64 0, .int .i64 0, .int .i64 0, .int .i64 0, .int .i64 0, .int .i64 0, .int .i64 0, .int .i64 0, .int .i64 0, .int .i64 0, .int .i64 0, .int .i64 0, .int .i64 0, .int .i64 0, .int .i64 0, .int .i64 0, .int .i64 0, .int .i64 0, .int .i64 0] 65))
  have HSF : Hid (s + 1 + 1 < w3.heap.size) := by have h1 := (Array.getElem?_eq_some_iff.1 (unhide R2)).1; have := g3.size; unfold Hid; omega
  clear g3 G2 P2 O2 R2
  go_wp2_with (first | (refine store_row rfl 65 _ _ rfl w3.heap.size rfl #[.int .i64 p, .int .i64 wd, .int .i64 ht, .int .i64 0, .int .i64 (n : Int), .int .i64 0, .int .i64 0, .int .i64 0, .int .i64 0, .int .i64 0, .int .i64 0, .int .i64 0, .int .i64 0, .int .i64 0, .int .i64 0, .int .i64 0, .int .i64 0, .int .i64 0, .int .i64 0, .int .i64 0, .int .i64 0] rfl #[.int .i64 0, .int .i64 0, .int .i64 0, .int .i64 0, .int .i64 0, .int .i64 0, .int .i64 0, .int .i64 0, .int .i64 0, .int .i64 0, .int .i64 0, .int .i64 0, .int .i64 0, .int .i64 0, .int .i64 0, .int .i64 0, .int .i64 0, .int .i64 0, .int .i64 0, .int .i64 0, .int .i64 0] 65 (unhide F3) rfl (by kernel_rfl) (by simp [Value.oneCell']) ?_; intro w4 hF4 g4; have hO4 := grown_at7 g4 (unhide O3) (by have := unhide HSF; simp; omega); have o3 := rowAt hO4 3 rfl; have f3 := rowAt hF4 3 rfl; have z3 := frozen_of_row w4 w3.heap.size 3 _ _ hF4; have GS := grown_set w4 w3.heap.size 3 (.int .i64 rs); have HF5 := hide (heap_setCell_same w4 w3.heap.size 3 _ _ (.int .i64 rs) hF4); have HP5 := hide (grown_at7 GS (grown_at7 g4 (unhide P3) (by have := unhide HSF; simp; omega)) (by have := unhide HSF; simp; omega)); have HO5 := hide (grown_at7 GS hO4 (by have := unhide HSF; simp; omega)); have HR5 := hide (grown_at7 GS (grown_at7 g4 (unhide R3) (by have := unhide HSF; simp; omega)) (by have := unhide HSF; simp; omega)); have HG5 := hide (grown_new (grown_new (unhide G3) g4 (fun g e => by simp at e; have := unhide HSF; have := unhide HSZ'; omega)) GS (fun g e => by simp at e; have := unhide HSF; have := unhide HSZ'; omega)); clear hO4 hF4 g4 GS) | (clear o3 f3 z3; refine load_row rfl 33 _ rfl s rfl #[.int .i64 p, .int .i64 wd, .int .i64 ht, .slice xo n xc] 33 (unhide HP5) _ Try.underlying33 rfl (by kernel_rfl) ?_) | (refine load_row rfl 40 _ rfl (s + 1) rfl #[.int .i64 q, .int .i64 m, .int .i64 kd, .int .i64 rs, .bool co, .bool ha] 40 (unhide HO5) _ Try.underlying40 rfl (by kernel_rfl) ?_))
  refine (implTurnsC p wd ht xo n xc q m kd rs co ha _ tc HTC).mono ?_
  rintro e w6 ⟨rfl, g6⟩
  have P6 := hide (grown_at7 g6 (unhide HP5) (by simp))
  have O6 := hide (grown_at7 g6 (unhide HO5) (by simp))
  have R6 := hide (grown_at7 g6 (unhide HR5) (by simp))
  have F6 : Hid (w6.heap[w3.heap.size]? = some (.cells #[.int .i64 p, .int .i64 wd, .int .i64 ht, .int .i64 rs, .int .i64 (n : Int), .int .i64 0, .int .i64 0, .int .i64 0, .int .i64 0, .int .i64 0, .int .i64 0, .int .i64 0, .int .i64 0, .int .i64 0, .int .i64 0, .int .i64 0, .int .i64 0, .int .i64 0, .int .i64 0, .int .i64 0, .int .i64 0] 65 (0, 0))) := grown_at7 g6 (unhide HF5) (by simp)
  have G6 := hide (grown_trans (unhide HG5) g6)
  clear g6 HP5 HO5 HR5 HF5 HG5 G3 P3 O3 R3 F3
  obtain ⟨id, HID⟩ : ∃ id : Int, Hid ((if tc = true then (11 : Int) else 1) = id) := ⟨_, rfl⟩
  have hidb : id = 1 ∨ id = 11 := by have := unhide HID; split at this <;> omega
  have hfx0 := fx_new p wd ht rs n
  generalize hf : w3.heap.size = f at *
  clear hf
  obtain ⟨X6, hX6⟩ : ∃ X6 : Array Value, X6 = #[.int .i64 p, .int .i64 wd, .int .i64 ht, .int .i64 rs, .int .i64 (n : Int), .int .i64 0, .int .i64 0, .int .i64 0, .int .i64 0, .int .i64 0, .int .i64 0, .int .i64 0, .int .i64 0, .int .i64 0, .int .i64 0, .int .i64 0, .int .i64 0, .int .i64 0, .int .i64 0, .int .i64 0, .int .i64 0] := ⟨_, rfl⟩
  rw [← hX6] at F6 hfx0
  have HFX0 := hide hfx0
  clear hX6 hfx0
  have key : Hid (∀ (t6 : Int), t6 = id → True) := fun _ _ => trivial
  clear key
  have c4 := rowAt (unhide F6) 4 (unhide HFX0).c4
  cases tc with
  | false =>
    obtain rfl : id = 1 := (unhide HID).symm
    go_wp2
    go_loopw [27] (fun i wr => ∃ (k : Nat) (Xk : Array Value) (D : Nat → Nat → Int), k ≤ n ∧ i = .int .i64 k ∧ Hid (wr.heap[f]? = some (.cells Xk 65 (0, 0))) ∧ Hid (Fx Xk p wd ht rs n D) ∧ Hid (∀ i j, i < k → j < 4 → D i j = if j = 0 then 1 + (i : Int) else 1) ∧ Hid (w6.grownBy wr (some f))) (fun i _ => n - (intOf i).toNat)
    case atStart => exact ⟨0, _, _, Nat.zero_le _, rfl, F6, HFX0, fun _ _ h => absurd h (by omega), World.grownBy.refl _ _⟩
    case round =>
      obtain ⟨k, Xk, D, hk, rfl, HF, HX, HD, HG⟩ := hrel
      clear c4
      by_cases hlt : k < n
      · have hkI : (k : Int) < (n : Int) := by omega
        have kI : (0 : Int) ≤ (k : Int) := by omega
        have k4 : (k : Int) < 4 := by omega
        have e9 := i64_in ((k : Int) + 1) (by omega)
        have e8 := i64_in (1 + (k : Int)) (by omega)
        have hsX : Xk.size = 21 := (unhide HX).size
        go_wp2_with (refine wpList_store_part rfl 62 _ _ rfl f (5 + k * 4) rfl #[.int .i64 (1 + (k : Int)), .int .i64 1, .int .i64 1, .int .i64 1] rfl Xk 65 (unhide HF) (by rw [hsX]; show 5 + k * 4 + 4 ≤ 21; omega) (by kernel_rfl) (all_four _ _ _ _) ?_; intro w7 hB7 g7; have HG7 := hide g7; clear g7)
        have HX' := hide (fx_put (unhide HX) k (by omega) (1 + (k : Int)) 1 1 1)
        have HD' : Hid (∀ i j, i < k + 1 → j < 4 → (if i = k then (if j = 0 then 1 + (k : Int) else if j = 1 then 1 else if j = 2 then 1 else 1) else D i j) = if j = 0 then 1 + (i : Int) else 1) := fun i j hi hj => by
          by_cases e : i = k
          · subst e; rw [if_pos rfl]; by_cases e0 : j = 0 <;> simp [e0]
          · rw [if_neg e]; exact unhide HD i j (by omega) hj
        have HG' := hide (grown_trans (unhide HG) (unhide HG7))
        clear HG HG7 HF HX HD
        go_roundw
        case rel => exact ⟨k + 1, _, _, by omega, by go_num, hB7, HX', HD', HG'⟩
        case measure => simp [intOf]; omega
      · obtain rfl : k = n := by omega
        have n0 : 0 < k := by omega
        have hsX : Xk.size = 21 := (unhide HX).size
        have c8 := rowAt (unhide HF) 8 ((unhide HX).comp 0 3 (by omega) (by omega))
        have z8 := frozen_of_row wr f 8 _ _ (unhide HF)
        have GS := grown_set wr f 8 (.int .i64 0)
        have HF8 := hide (heap_setCell_same wr f 8 _ _ (.int .i64 0) (unhide HF))
        have HX8 := hide (fx_set (unhide HX) 0 3 (by omega) (by omega) 0)
        have hff : s + 1 + 1 < f := unhide HSF
        have HP8 := hide (grown_at7 GS (grown_at7 (unhide HG) (unhide P6) (by simp; omega)) (by simp; omega))
        have HO8 := hide (grown_at7 GS (grown_at7 (unhide HG) (unhide O6) (by simp; omega)) (by simp; omega))
        have HR8 := hide (grown_at7 GS (grown_at7 (unhide HG) (unhide R6) (by simp; omega)) (by simp; omega))
        have HG8 := hide (grown_new (grown_new (unhide G6) (unhide HG) (fun g e => by simp at e; have := unhide HSZ'; omega)) GS (fun g e => by simp at e; have := unhide HSZ'; omega))
        have HDD : Hid (∀ i j, i < k → j < 4 → (if i = 0 ∧ j = 3 then 0 else D i j) = if j = 0 then 1 + (i : Int) else if i = 0 ∧ j = 3 then 0 else 1) := fun i j hi hj => by
          by_cases e : i = 0 ∧ j = 3
          · rw [if_pos e, if_neg (by omega), if_pos e]
          · rw [if_neg e, unhide HD i j hi hj]; by_cases e0 : j = 0 <;> simp [e0]; intro h1 h2; exact absurd ⟨h1, h2⟩ e
        clear GS HG HF HX HD G6 P6 O6 R6 F6 HFX0
        go_wp2_with (first | (clear c8 z8; refine load_row rfl 33 _ rfl s rfl #[.int .i64 p, .int .i64 wd, .int .i64 ht, .slice xo k xc] 33 (unhide HP8) _ Try.underlying33 rfl (by kernel_rfl) ?_) | (refine load_row rfl 40 _ rfl (s + 1) rfl #[.int .i64 q, .int .i64 m, .int .i64 kd, .int .i64 rs, .bool co, .bool ha] 40 (unhide HO8) _ Try.underlying40 rfl (by kernel_rfl) ?_))
        refine (implHalves p wd ht xo k xc q m kd rs co ha _ hv HHV).mono ?_
        rintro e w9 ⟨rfl, g9⟩
        have F9 := hide (grown_at7 g9 (unhide HF8) (by simp))
        have R9 := hide (grown_at7 g9 (unhide HR8) (by simp))
        have G9 := hide (grown_trans (unhide HG8) g9)
        clear g9 HF8 HR8 HP8 HO8 HG8
        generalize Xk.setIfInBounds 8 (Value.int .i64 0) = Y at *
        have HY : Hid (Fx Y p wd ht rs k (fun a b => if a = 0 ∧ b = 3 then 0 else D a b)) := HX8
        have hsY : Y.size = 21 := (unhide HY).size
        clear HX8
        cases hv with
        | false =>
          go_wp2_with (first | (refine load_row rfl 65 _ rfl f rfl Y 65 (unhide F9) _ Try.underlying65 rfl (by rw [hsY]; kernel_rfl) ?_) | (refine store_row rfl 65 _ _ rfl (s + 1 + 1) rfl Y rfl #[.int .i64 0, .int .i64 0, .int .i64 0, .int .i64 0, .int .i64 0, .int .i64 0, .int .i64 0, .int .i64 0, .int .i64 0, .int .i64 0, .int .i64 0, .int .i64 0, .int .i64 0, .int .i64 0, .int .i64 0, .int .i64 0, .int .i64 0, .int .i64 0, .int .i64 0, .int .i64 0, .int .i64 0] 65 (unhide R9) (by rw [hsY]; rfl) (by rw [hsY]; kernel_rfl) (unhide HY).one ?_; intro w10 hB10 g10))
          refine bodyPost_ret (v := .agg Y) ?_ rfl ⟨_, rfl, ⟨fun e => absurd e (by simp), fun _ => ⟨_, unhide HY, fun i j hi hj => ?_⟩⟩, ?_⟩
          · rw [results_c1 rfl]
            exact run_loadVar_row w10 _ 65 65 _ (0, 0) _ hB10 Try.underlying65 rfl (by rw [hsY]; kernel_rfl)
          · rw [unhide HDD i j hi hj]; exact frC_at_no i j hj
          · exact grown_new (unhide G9) g10 (fun g e => by simp at e; have := unhide HSZ'; omega)
        | true =>
          have c6 := rowAt (unhide F9) 6 ((unhide HY).comp 0 1 (by omega) (by omega))
          have z6 := frozen_of_row w9 f 6 _ _ (unhide F9)
          have GS6 := grown_set w9 f 6 (.int .i64 2)
          have hF6 := heap_setCell_same w9 f 6 _ _ (.int .i64 2) (unhide F9)
          have HY6 : Hid (Fx (Y.setIfInBounds 6 (.int .i64 2)) p wd ht rs k (fun a b => if a = 0 ∧ b = 1 then 2 else if a = 0 ∧ b = 3 then 0 else D a b)) := fx_set (unhide HY) 0 1 (by omega) (by omega) 2
          have c7 := rowAt hF6 7 ((unhide HY6).comp 0 2 (by omega) (by omega))
          have z7 := frozen_of_row (w9.setCell ⟨f, 6, none⟩ (.int .i64 2)) f 7 _ _ hF6
          have GS7 := grown_set (w9.setCell ⟨f, 6, none⟩ (.int .i64 2)) f 7 (.int .i64 2)
          have HF7 := hide (heap_setCell_same (w9.setCell ⟨f, 6, none⟩ (.int .i64 2)) f 7 _ _ (.int .i64 2) hF6)
          have HY7 : Hid (Fx ((Y.setIfInBounds 6 (.int .i64 2)).setIfInBounds 7 (.int .i64 2)) p wd ht rs k (fun a b => if a = 0 ∧ b = 2 then 2 else if a = 0 ∧ b = 1 then 2 else if a = 0 ∧ b = 3 then 0 else D a b)) := fx_set (unhide HY6) 0 2 (by omega) (by omega) 2
          have HR7 := hide (grown_at7 GS7 (grown_at7 GS6 (unhide R9) (by simp; omega)) (by simp; omega))
          have HG7 := hide (grown_new (grown_new (unhide G9) GS6 (fun g e => by simp at e; have := unhide HSZ'; omega)) GS7 (fun g e => by simp at e; have := unhide HSZ'; omega))
          generalize (Y.setIfInBounds 6 (Value.int .i64 2)).setIfInBounds 7 (Value.int .i64 2) = Z at *
          have hsZ : Z.size = 21 := (unhide HY7).size
          clear GS6 GS7 hF6 HY6 G9 R9 F9 HY
          go_wp2_with (first | (clear c6 c7 z6 z7; refine load_row rfl 65 _ rfl f rfl Z 65 (unhide HF7) _ Try.underlying65 rfl (by rw [hsZ]; kernel_rfl) ?_) | (refine store_row rfl 65 _ _ rfl (s + 1 + 1) rfl Z rfl #[.int .i64 0, .int .i64 0, .int .i64 0, .int .i64 0, .int .i64 0, .int .i64 0, .int .i64 0, .int .i64 0, .int .i64 0, .int .i64 0, .int .i64 0, .int .i64 0, .int .i64 0, .int .i64 0, .int .i64 0, .int .i64 0, .int .i64 0, .int .i64 0, .int .i64 0, .int .i64 0, .int .i64 0] 65 (unhide HR7) (by rw [hsZ]; rfl) (by rw [hsZ]; kernel_rfl) (unhide HY7).one ?_; intro w10 hB10 g10))
          refine bodyPost_ret (v := .agg Z) ?_ rfl ⟨_, rfl, ⟨fun e => absurd e (by simp), fun _ => ⟨_, unhide HY7, fun i j hi hj => ?_⟩⟩, ?_⟩
          · rw [results_c1 rfl]
            exact run_loadVar_row w10 _ 65 65 _ (0, 0) _ hB10 Try.underlying65 rfl (by rw [hsZ]; kernel_rfl)
          · have := unhide HDD i j hi hj
            rw [this]; exact frC_at2_no i j hj
          · exact grown_new (unhide HG7) g10 (fun g e => by simp at e; have := unhide HSZ'; omega)
  | true =>
    obtain rfl : id = 11 := (unhide HID).symm
    go_wp2
    go_loopw [27] (fun i wr => ∃ (k : Nat) (Xk : Array Value) (D : Nat → Nat → Int), k ≤ n ∧ i = .int .i64 k ∧ Hid (wr.heap[f]? = some (.cells Xk 65 (0, 0))) ∧ Hid (Fx Xk p wd ht rs n D) ∧ Hid (∀ i j, i < k → j < 4 → D i j = if j = 0 then 11 + (i : Int) else 1) ∧ Hid (w6.grownBy wr (some f))) (fun i _ => n - (intOf i).toNat)
    case atStart => exact ⟨0, _, _, Nat.zero_le _, rfl, F6, HFX0, fun _ _ h => absurd h (by omega), World.grownBy.refl _ _⟩
    case round =>
      obtain ⟨k, Xk, D, hk, rfl, HF, HX, HD, HG⟩ := hrel
      clear c4
      by_cases hlt : k < n
      · have hkI : (k : Int) < (n : Int) := by omega
        have kI : (0 : Int) ≤ (k : Int) := by omega
        have k4 : (k : Int) < 4 := by omega
        have e9 := i64_in ((k : Int) + 1) (by omega)
        have e8 := i64_in (11 + (k : Int)) (by omega)
        have hsX : Xk.size = 21 := (unhide HX).size
        go_wp2_with (refine wpList_store_part rfl 62 _ _ rfl f (5 + k * 4) rfl #[.int .i64 (11 + (k : Int)), .int .i64 1, .int .i64 1, .int .i64 1] rfl Xk 65 (unhide HF) (by rw [hsX]; show 5 + k * 4 + 4 ≤ 21; omega) (by kernel_rfl) (all_four _ _ _ _) ?_; intro w7 hB7 g7; have HG7 := hide g7; clear g7)
        have HX' := hide (fx_put (unhide HX) k (by omega) (11 + (k : Int)) 1 1 1)
        have HD' : Hid (∀ i j, i < k + 1 → j < 4 → (if i = k then (if j = 0 then 11 + (k : Int) else if j = 1 then 1 else if j = 2 then 1 else 1) else D i j) = if j = 0 then 11 + (i : Int) else 1) := fun i j hi hj => by
          by_cases e : i = k
          · subst e; rw [if_pos rfl]; by_cases e0 : j = 0 <;> simp [e0]
          · rw [if_neg e]; exact unhide HD i j (by omega) hj
        have HG' := hide (grown_trans (unhide HG) (unhide HG7))
        clear HG HG7 HF HX HD
        go_roundw
        case rel => exact ⟨k + 1, _, _, by omega, by go_num, hB7, HX', HD', HG'⟩
        case measure => simp [intOf]; omega
      · obtain rfl : k = n := by omega
        have n0 : 0 < k := by omega
        have hsX : Xk.size = 21 := (unhide HX).size
        have c8 := rowAt (unhide HF) 8 ((unhide HX).comp 0 3 (by omega) (by omega))
        have z8 := frozen_of_row wr f 8 _ _ (unhide HF)
        have GS := grown_set wr f 8 (.int .i64 0)
        have HF8 := hide (heap_setCell_same wr f 8 _ _ (.int .i64 0) (unhide HF))
        have HX8 := hide (fx_set (unhide HX) 0 3 (by omega) (by omega) 0)
        have hff : s + 1 + 1 < f := unhide HSF
        have HP8 := hide (grown_at7 GS (grown_at7 (unhide HG) (unhide P6) (by simp; omega)) (by simp; omega))
        have HO8 := hide (grown_at7 GS (grown_at7 (unhide HG) (unhide O6) (by simp; omega)) (by simp; omega))
        have HR8 := hide (grown_at7 GS (grown_at7 (unhide HG) (unhide R6) (by simp; omega)) (by simp; omega))
        have HG8 := hide (grown_new (grown_new (unhide G6) (unhide HG) (fun g e => by simp at e; have := unhide HSZ'; omega)) GS (fun g e => by simp at e; have := unhide HSZ'; omega))
        have HDD : Hid (∀ i j, i < k → j < 4 → (if i = 0 ∧ j = 3 then 0 else D i j) = if j = 0 then 11 + (i : Int) else if i = 0 ∧ j = 3 then 0 else 1) := fun i j hi hj => by
          by_cases e : i = 0 ∧ j = 3
          · rw [if_pos e, if_neg (by omega), if_pos e]
          · rw [if_neg e, unhide HD i j hi hj]; by_cases e0 : j = 0 <;> simp [e0]; intro h1 h2; exact absurd ⟨h1, h2⟩ e
        clear GS HG HF HX HD G6 P6 O6 R6 F6 HFX0
        go_wp2_with (first | (clear c8 z8; refine load_row rfl 33 _ rfl s rfl #[.int .i64 p, .int .i64 wd, .int .i64 ht, .slice xo k xc] 33 (unhide HP8) _ Try.underlying33 rfl (by kernel_rfl) ?_) | (refine load_row rfl 40 _ rfl (s + 1) rfl #[.int .i64 q, .int .i64 m, .int .i64 kd, .int .i64 rs, .bool co, .bool ha] 40 (unhide HO8) _ Try.underlying40 rfl (by kernel_rfl) ?_))
        refine (implHalves p wd ht xo k xc q m kd rs co ha _ hv HHV).mono ?_
        rintro e w9 ⟨rfl, g9⟩
        have F9 := hide (grown_at7 g9 (unhide HF8) (by simp))
        have R9 := hide (grown_at7 g9 (unhide HR8) (by simp))
        have G9 := hide (grown_trans (unhide HG8) g9)
        clear g9 HF8 HR8 HP8 HO8 HG8
        generalize Xk.setIfInBounds 8 (Value.int .i64 0) = Y at *
        have HY : Hid (Fx Y p wd ht rs k (fun a b => if a = 0 ∧ b = 3 then 0 else D a b)) := HX8
        have hsY : Y.size = 21 := (unhide HY).size
        clear HX8
        cases hv with
        | false =>
          go_wp2_with (first | (refine load_row rfl 65 _ rfl f rfl Y 65 (unhide F9) _ Try.underlying65 rfl (by rw [hsY]; kernel_rfl) ?_) | (refine store_row rfl 65 _ _ rfl (s + 1 + 1) rfl Y rfl #[.int .i64 0, .int .i64 0, .int .i64 0, .int .i64 0, .int .i64 0, .int .i64 0, .int .i64 0, .int .i64 0, .int .i64 0, .int .i64 0, .int .i64 0, .int .i64 0, .int .i64 0, .int .i64 0, .int .i64 0, .int .i64 0, .int .i64 0, .int .i64 0, .int .i64 0, .int .i64 0, .int .i64 0] 65 (unhide R9) (by rw [hsY]; rfl) (by rw [hsY]; kernel_rfl) (unhide HY).one ?_; intro w10 hB10 g10))
          refine bodyPost_ret (v := .agg Y) ?_ rfl ⟨_, rfl, ⟨fun e => absurd e (by simp), fun _ => ⟨_, unhide HY, fun i j hi hj => ?_⟩⟩, ?_⟩
          · rw [results_c1 rfl]
            exact run_loadVar_row w10 _ 65 65 _ (0, 0) _ hB10 Try.underlying65 rfl (by rw [hsY]; kernel_rfl)
          · rw [unhide HDD i j hi hj]; exact frC_at_yes i j hj
          · exact grown_new (unhide G9) g10 (fun g e => by simp at e; have := unhide HSZ'; omega)
        | true =>
          have c6 := rowAt (unhide F9) 6 ((unhide HY).comp 0 1 (by omega) (by omega))
          have z6 := frozen_of_row w9 f 6 _ _ (unhide F9)
          have GS6 := grown_set w9 f 6 (.int .i64 2)
          have hF6 := heap_setCell_same w9 f 6 _ _ (.int .i64 2) (unhide F9)
          have HY6 : Hid (Fx (Y.setIfInBounds 6 (.int .i64 2)) p wd ht rs k (fun a b => if a = 0 ∧ b = 1 then 2 else if a = 0 ∧ b = 3 then 0 else D a b)) := fx_set (unhide HY) 0 1 (by omega) (by omega) 2
          have c7 := rowAt hF6 7 ((unhide HY6).comp 0 2 (by omega) (by omega))
          have z7 := frozen_of_row (w9.setCell ⟨f, 6, none⟩ (.int .i64 2)) f 7 _ _ hF6
          have GS7 := grown_set (w9.setCell ⟨f, 6, none⟩ (.int .i64 2)) f 7 (.int .i64 2)
          have HF7 := hide (heap_setCell_same (w9.setCell ⟨f, 6, none⟩ (.int .i64 2)) f 7 _ _ (.int .i64 2) hF6)
          have HY7 : Hid (Fx ((Y.setIfInBounds 6 (.int .i64 2)).setIfInBounds 7 (.int .i64 2)) p wd ht rs k (fun a b => if a = 0 ∧ b = 2 then 2 else if a = 0 ∧ b = 1 then 2 else if a = 0 ∧ b = 3 then 0 else D a b)) := fx_set (unhide HY6) 0 2 (by omega) (by omega) 2
          have HR7 := hide (grown_at7 GS7 (grown_at7 GS6 (unhide R9) (by simp; omega)) (by simp; omega))
          have HG7 := hide (grown_new (grown_new (unhide G9) GS6 (fun g e => by simp at e; have := unhide HSZ'; omega)) GS7 (fun g e => by simp at e; have := unhide HSZ'; omega))
          generalize (Y.setIfInBounds 6 (Value.int .i64 2)).setIfInBounds 7 (Value.int .i64 2) = Z at *
          have hsZ : Z.size = 21 := (unhide HY7).size
          clear GS6 GS7 hF6 HY6 G9 R9 F9 HY
          go_wp2_with (first | (clear c6 c7 z6 z7; refine load_row rfl 65 _ rfl f rfl Z 65 (unhide HF7) _ Try.underlying65 rfl (by rw [hsZ]; kernel_rfl) ?_) | (refine store_row rfl 65 _ _ rfl (s + 1 + 1) rfl Z rfl #[.int .i64 0, .int .i64 0, .int .i64 0, .int .i64 0, .int .i64 0, .int .i64 0, .int .i64 0, .int .i64 0, .int .i64 0, .int .i64 0, .int .i64 0, .int .i64 0, .int .i64 0, .int .i64 0, .int .i64 0, .int .i64 0, .int .i64 0, .int .i64 0, .int .i64 0, .int .i64 0, .int .i64 0] 65 (unhide HR7) (by rw [hsZ]; rfl) (by rw [hsZ]; kernel_rfl) (unhide HY7).one ?_; intro w10 hB10 g10))
          refine bodyPost_ret (v := .agg Z) ?_ rfl ⟨_, rfl, ⟨fun e => absurd e (by simp), fun _ => ⟨_, unhide HY7, fun i j hi hj => ?_⟩⟩, ?_⟩
          · rw [results_c1 rfl]
            exact run_loadVar_row w10 _ 65 65 _ (0, 0) _ hB10 Try.underlying65 rfl (by rw [hsZ]; kernel_rfl)
          · have := unhide HDD i j hi hj
            rw [this]; exact frC_at2_yes i j hj
          · exact grown_new (unhide HG7) g10 (fun g e => by simp at e; have := unhide HSZ'; omega)

end Go.Proofs.Ytgknninkfdgebaa
