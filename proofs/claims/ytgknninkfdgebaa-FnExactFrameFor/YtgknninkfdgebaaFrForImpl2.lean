/-
  FrameFor in the program (written by gen_framefor4.py).
-/
import Derived.Test.YtgknninkfdgebaaFrForImpl
namespace Go.Proofs.Ytgknninkfdgebaa
open Go.RowKit

set_option maxRecDepth 20000 in
set_option maxHeartbeats 3200000 in
theorem implFrameFor (p wd ht : Int) (xo : Option Addr) (n xc : Nat) (X : List (List Int)) (q m kd rs : Int) (co ha : Bool) (w : World) (HN : Hid (X.length = n)) (hr : RdPi w (.agg #[.int .i64 p, .int .i64 wd, .int .i64 ht, .slice xo n xc]) ⟨p, wd, ht, X⟩) (hsz : szPi ⟨p, wd, ht, X⟩ ≤ 1048576)
    (ok : Bool) (HOK : Hid ((picB p wd ht X && optsB q m kd rs) = ok)) (tc hv : Bool) (HTC : Hid (tcB co n = tc)) (HHV : Hid (hvB ha n = hv))
    (P0 Q0 H0 R0 : Int) (N0 : Nat) (HQ : Hid ((if ok = true then (p, wd, ht, rs, n) else (0, 0, 0, 0, 0)) = (P0, Q0, H0, R0, N0))) :
    Calls Try.prog 22 #[.agg #[.int .i64 p, .int .i64 wd, .int .i64 ht, .slice xo n xc], .agg #[.int .i64 q, .int .i64 m, .int .i64 kd, .int .i64 rs, .bool co, .bool ha]] w fun e w' => ∃ so sc, e = .returned (.agg #[.int .i64 P0, .int .i64 Q0, .int .i64 H0, .int .i64 R0, .slice so N0 sc]) ∧
      w'.ownsRow w.heap.size 62 4 (.slice so N0 sc) N0 (rowsK N0 4 (compCells (frC tc hv))) ∧ w.grownBy w' none := by
  obtain ⟨W0, hW0⟩ : ∃ W0, (((w).alloc (.cells #[.int .i64 p, .int .i64 wd, .int .i64 ht, .slice xo n xc] 33)).alloc (.cells #[.int .i64 q, .int .i64 m, .int .i64 kd, .int .i64 rs, .bool co, .bool ha] 40)).alloc (.cells #[.int .i64 0, .int .i64 0, .int .i64 0, .int .i64 0, .slice none 0 0] 45) = W0 := ⟨_, rfl⟩
  have HG0 : Hid (w.grownBy W0 none) := by rw [← hW0]; exact grown_alloc (grown_alloc (World.grownBy_alloc _ _ _) _) _
  have b0 : Hid (W0.heap[w.heap.size]? = some (.cells #[.int .i64 p, .int .i64 wd, .int .i64 ht, .slice xo n xc] 33 (0, 0))) := by
    rw [← hW0, Below.heap_alloc _ _ _ (by simp <;> omega), Below.heap_alloc _ _ _ (by simp <;> omega)]
    have := heap_alloc_new (w) (.cells #[.int .i64 p, .int .i64 wd, .int .i64 ht, .slice xo n xc] 33)
    unfold Hid
    simpa using this
  have b1 : Hid (W0.heap[w.heap.size + 1]? = some (.cells #[.int .i64 q, .int .i64 m, .int .i64 kd, .int .i64 rs, .bool co, .bool ha] 40 (0, 0))) := by
    rw [← hW0, Below.heap_alloc _ _ _ (by simp <;> omega)]
    have := heap_alloc_new ((w).alloc (.cells #[.int .i64 p, .int .i64 wd, .int .i64 ht, .slice xo n xc] 33)) (.cells #[.int .i64 q, .int .i64 m, .int .i64 kd, .int .i64 rs, .bool co, .bool ha] 40)
    unfold Hid
    simpa using this
  have b2 : Hid (W0.heap[w.heap.size + 1 + 1]? = some (.cells #[.int .i64 0, .int .i64 0, .int .i64 0, .int .i64 0, .slice none 0 0] 45 (0, 0))) := by
    rw [← hW0]
    have := heap_alloc_new (((w).alloc (.cells #[.int .i64 p, .int .i64 wd, .int .i64 ht, .slice xo n xc] 33)).alloc (.cells #[.int .i64 q, .int .i64 m, .int .i64 kd, .int .i64 rs, .bool co, .bool ha] 40)) (.cells #[.int .i64 0, .int .i64 0, .int .i64 0, .int .i64 0, .slice none 0 0] 45)
    unfold Hid
    simpa using this
  have HSZ : Hid (W0.heap.size = w.heap.size + 3) := by rw [← hW0]; simp [Hid]
  have HW := hide hW0
  have HR := hide (RdPi.st _ _ _ _ hr (unhide HG0))
  clear hW0 hr
  generalize hs : w.heap.size = s at *
  have HSZ' := hide hs
  clear hs
  go_enter Try.func22, Try.ntmps22
  go_wp2_with fail
  rw [unhide HSZ', unhide HW]
  refine (implFrameFix p wd ht xo n xc X q m kd rs co ha W0 HN (unhide HR) hsz ok HOK tc hv HTC HHV).mono ?_
  rintro e w1 ⟨R, rfl, hfix, g1⟩
  have R1 := hide (grown_at7 g1 (unhide b2) (by simp))
  have G1 := hide (grown_trans (unhide HG0) g1)
  have hfx : ∃ D, Hid (Fx R P0 Q0 H0 R0 N0 D) ∧ N0 ≤ 4 ∧ Hid (∀ i j, i < N0 → j < 4 → D i j = frC tc hv i j) := by
    have HE := unhide HQ
    cases ok with
    | false =>
      simp only [Bool.false_eq_true, if_false, Prod.mk.injEq] at HE
      obtain ⟨rfl, rfl, rfl, rfl, rfl⟩ := HE
      rw [hfix.1 rfl]
      exact ⟨fun _ _ => 0, fx_new 0 0 0 0 0, by omega, fun i j hi _ => absurd hi (by omega)⟩
    | true =>
      simp only [if_true, Prod.mk.injEq] at HE
      obtain ⟨rfl, rfl, rfl, rfl, rfl⟩ := HE
      obtain ⟨D, h1, h2⟩ := hfix.2 rfl
      have h3 := unhide HOK
      simp only [Bool.and_eq_true] at h3
      have h4 := picB_few h3.1
      rw [unhide HN] at h4
      exact ⟨D, h1, h4.2, h2⟩
  obtain ⟨D, HFX, hn4, HD⟩ := hfx
  have HRW : Hid (rowsK N0 4 (compCells D) = rowsK N0 4 (compCells (frC tc hv))) := rowsK_congr (fun i j hi hj => by unfold compCells; rw [unhide HD i j hi hj])
  have HS2 : Hid (s + 1 + 1 < w1.heap.size) := (Array.getElem?_eq_some_iff.1 (unhide R1)).1
  clear g1 b0 b1 b2 HG0 HW HQ hfix HOK HD HR
  go_wp2_with fail
  refine (frameFx R P0 Q0 H0 R0 N0 D (unhide HFX) hn4 w1).mono ?_
  rintro e w3 ⟨so, sc, rfl, o3, g3⟩
  rw [unhide HRW] at o3
  have R3 := hide (grown_at7 g3 (unhide R1) (by simp))
  have G3 := hide (grown_trans (unhide G1) g3)
  have O3 := hide o3
  clear g3 o3 R1 G1 HFX
  go_wp2_with (refine store_row rfl 45 _ _ rfl (s + 1 + 1) rfl #[.int .i64 P0, .int .i64 Q0, .int .i64 H0, .int .i64 R0, .slice so N0 sc] rfl #[.int .i64 0, .int .i64 0, .int .i64 0, .int .i64 0, .slice none 0 0] 45 (unhide R3) rfl (by kernel_rfl) (by simp [Value.oneCell']) ?_; intro w9 hB9 g9)
  refine bodyPost_ret (v := .agg #[.int .i64 P0, .int .i64 Q0, .int .i64 H0, .int .i64 R0, .slice so N0 sc]) ?_ rfl ⟨so, sc, rfl, ?_, ?_⟩
  · rw [results_c1 rfl]
    exact run_loadVar_row w9 _ 45 45 _ (0, 0) _ hB9 Try.underlying45 rfl (by kernel_rfl)
  · exact own_base (own_sameAt (unhide O3) (fun g e => g9.block g ((unhide O3).lt g e).2 (by have := ((unhide O3).lt g e).1; have := unhide HS2; simp; omega))) (by have := unhide HS2; have := unhide HSZ'; omega)
  · exact grown_new (unhide G3) g9 (fun g e => by simp at e; have := unhide HSZ'; omega)

end Go.Proofs.Ytgknninkfdgebaa
