/-
  FrameFor in the specification (written by gen_framefor2.py).
-/
import Derived.Test.YtgknninkfdgebaaFrForSpec
namespace Go.Proofs.Ytgknninkfdgebaa
open Go.RowKit

set_option maxRecDepth 20000 in
set_option maxHeartbeats 3200000 in
theorem specFrameFor (p wd ht : Int) (xo : Option Addr) (n xc : Nat) (X : List (List Int)) (q m kd rs : Int) (co ha : Bool) (w : World) (HN : Hid (X.length = n)) (hr : RdPi w (.agg #[.int .i64 p, .int .i64 wd, .int .i64 ht, .slice xo n xc]) ⟨p, wd, ht, X⟩) (hsz : szPi ⟨p, wd, ht, X⟩ ≤ 1048576)
    (ok : Bool) (HOK : Hid ((picB p wd ht X && optsB q m kd rs) = ok)) (tc hv : Bool) (HTC : Hid (tcB co n = tc)) (HHV : Hid (hvB ha n = hv))
    (P0 Q0 H0 R0 : Int) (N0 : Nat) (HQ : Hid ((if ok = true then (p, wd, ht, rs, n) else (0, 0, 0, 0, 0)) = (P0, Q0, H0, R0, N0))) :
    Calls Try.prog 21 #[.agg #[.int .i64 p, .int .i64 wd, .int .i64 ht, .slice xo n xc], .agg #[.int .i64 q, .int .i64 m, .int .i64 kd, .int .i64 rs, .bool co, .bool ha]] w fun e w' => ∃ so sc, e = .returned (.agg #[.int .i64 P0, .int .i64 Q0, .int .i64 H0, .int .i64 R0, .slice so N0 sc]) ∧
      w'.ownsRow w.heap.size 62 4 (.slice so N0 sc) N0 (rowsK N0 4 (compCells (frC tc hv))) ∧ w.grownBy w' none := by
  obtain ⟨t1, H1⟩ : ∃ t, Hid (picB p wd ht X = t) := ⟨_, rfl⟩
  obtain ⟨t2, H2⟩ : ∃ t, Hid (optsB q m kd rs = t) := ⟨_, rfl⟩
  have hok := unhide HOK
  rw [unhide H1, unhide H2] at hok
  have HOK2 := hide hok
  clear hok HOK
  obtain ⟨W0, hW0⟩ : ∃ W0, (((w).alloc (.cells #[.int .i64 p, .int .i64 wd, .int .i64 ht, .slice xo n xc] 33)).alloc (.cells #[.int .i64 q, .int .i64 m, .int .i64 kd, .int .i64 rs, .bool co, .bool ha] 40)).alloc (.cells #[.int .i64 0, .int .i64 0, .int .i64 0, .int .i64 0, .slice none 0 0] 45) = W0 := ⟨_, rfl⟩
  have HG0 : Hid (w.grownBy W0 none) := by rw [← hW0]; exact grown_alloc (grown_alloc (World.grownBy_alloc _ _ _) _) _
  have b0 : Hid (W0.heap[w.heap.size]? = some (.cells #[.int .i64 p, .int .i64 wd, .int .i64 ht, .slice xo n xc] 33 (0, 0))) := by
    rw [← hW0, Below.heap_alloc _ _ _ (by simp <;> omega), Below.heap_alloc _ _ _ (by simp <;> omega)]
    have := heap_alloc_new (w) (.cells #[.int .i64 p, .int .i64 wd, .int .i64 ht, .slice xo n xc] 33)
    unfold Hid
    simpa using this
  have b1 : Hid (W0.heap[w.heap.size + 1]? = some (.cells #[.int .i64 q, .int .i64 m, .int .i64 kd, .int .i64 rs, .bool co, .bool ha] 40 (0, 0))) := by
    rw [← hW0, Below.heap_alloc _ _ _ (by simp <;> omega)]
    have := heap_alloc_new ((w).alloc (.cells #[.int .i64 p, .int .i64 wd, .int .i64 ht, .slice xo n xc] 33)) (.cells #[.int .i64 q, .int .i64 m, .int .i64 kd, .int .i64 rs, .bool co, .bool ha] 40)
    unfold Hid
    simpa using this
  have b2 : Hid (W0.heap[w.heap.size + 1 + 1]? = some (.cells #[.int .i64 0, .int .i64 0, .int .i64 0, .int .i64 0, .slice none 0 0] 45 (0, 0))) := by
    rw [← hW0]
    have := heap_alloc_new (((w).alloc (.cells #[.int .i64 p, .int .i64 wd, .int .i64 ht, .slice xo n xc] 33)).alloc (.cells #[.int .i64 q, .int .i64 m, .int .i64 kd, .int .i64 rs, .bool co, .bool ha] 40)) (.cells #[.int .i64 0, .int .i64 0, .int .i64 0, .int .i64 0, .slice none 0 0] 45)
    unfold Hid
    simpa using this
  have HSZ : Hid (W0.heap.size = w.heap.size + 3) := by rw [← hW0]; simp [Hid]
  have HW := hide hW0
  have HR := hide (RdPi.st _ _ _ _ hr (unhide HG0))
  clear hW0 hr
  generalize hs : w.heap.size = s at *
  have HSZ' := hide hs
  clear hs
  go_enter Try.func21, Try.ntmps21
  go_wp2_with fail
  rw [unhide HSZ', unhide HW]
  refine (specPictureOk ⟨p, wd, ht, X⟩ _ W0 (unhide HR) hsz t1 H1).mono ?_
  rintro e w1 ⟨rfl, g1⟩
  have P1 := hide (grown_at7 g1 (unhide b0) (by simp))
  have O1 := hide (grown_at7 g1 (unhide b1) (by simp))
  have R1 := hide (grown_at7 g1 (unhide b2) (by simp))
  have G1 := hide (grown_trans (unhide HG0) g1)
  clear g1 b0 b1 b2 HG0 HW
  have hq : ∀ (W : World) (j : Nat) (u : Value), w.grownBy W none → w.grownBy (W.setCell ⟨s + 1 + 1, j, none⟩ u) none := fun W j u h => grown_new h (grown_set W _ j u) (fun g e => by simp at e; have := unhide HSZ'; omega)
  clear hq
  have hnot : ∀ (W : World), Hid (W.heap[s + 1 + 1]? = some (.cells #[.int .i64 0, .int .i64 0, .int .i64 0, .int .i64 0, .slice none 0 0] 45 (0, 0))) → Hid (w.grownBy W none) → True := fun _ _ _ => trivial
  clear hnot
  cases t1 with
  | false =>
    obtain rfl : ok = false := by have := unhide HOK2; simpa using this.symm
    have HE := unhide HQ
    simp only [Bool.false_eq_true, if_false, Prod.mk.injEq] at HE
    obtain ⟨rfl, rfl, rfl, rfl, rfl⟩ := HE
    go_wp2_with (refine store_row rfl 45 _ _ rfl (s + 1 + 1) rfl #[.int .i64 0, .int .i64 0, .int .i64 0, .int .i64 0, .slice none 0 0] rfl #[.int .i64 0, .int .i64 0, .int .i64 0, .int .i64 0, .slice none 0 0] 45 (unhide R1) rfl (by kernel_rfl) (by simp [Value.oneCell']) ?_; intro w9 hB9 g9)
    refine bodyPost_ret (v := .agg #[.int .i64 0, .int .i64 0, .int .i64 0, .int .i64 0, .slice none 0 0]) ?_ rfl ⟨none, 0, rfl, World.ownsRow_nil _ _ _ _, ?_⟩
    · rw [results_c1 rfl]
      exact run_loadVar_row w9 _ 45 45 _ (0, 0) _ hB9 Try.underlying45 rfl (by kernel_rfl)
    · exact grown_new (unhide G1) g9 (fun g e => by simp at e; have := unhide HSZ'; omega)
  | true =>
  go_wp2_with (refine load_row rfl 40 _ rfl (s + 1) rfl #[.int .i64 q, .int .i64 m, .int .i64 kd, .int .i64 rs, .bool co, .bool ha] 40 (unhide O1) _ Try.underlying40 rfl (by kernel_rfl) ?_)
  refine (specOptionsOk q m kd rs co ha t2 H2 w1).mono ?_
  rintro e w2 ⟨rfl, g2⟩
  have P2 := hide (grown_at7 g2 (unhide P1) (by simp))
  have O2 := hide (grown_at7 g2 (unhide O1) (by simp))
  have R2 := hide (grown_at7 g2 (unhide R1) (by simp))
  have G2 := hide (grown_trans (unhide G1) g2)
  clear g2 P1 O1 R1 G1
  cases t2 with
  | false =>
    obtain rfl : ok = false := by have := unhide HOK2; simpa using this.symm
    have HE := unhide HQ
    simp only [Bool.false_eq_true, if_false, Prod.mk.injEq] at HE
    obtain ⟨rfl, rfl, rfl, rfl, rfl⟩ := HE
    go_wp2_with (refine store_row rfl 45 _ _ rfl (s + 1 + 1) rfl #[.int .i64 0, .int .i64 0, .int .i64 0, .int .i64 0, .slice none 0 0] rfl #[.int .i64 0, .int .i64 0, .int .i64 0, .int .i64 0, .slice none 0 0] 45 (unhide R2) rfl (by kernel_rfl) (by simp [Value.oneCell']) ?_; intro w9 hB9 g9)
    refine bodyPost_ret (v := .agg #[.int .i64 0, .int .i64 0, .int .i64 0, .int .i64 0, .slice none 0 0]) ?_ rfl ⟨none, 0, rfl, World.ownsRow_nil _ _ _ _, ?_⟩
    · rw [results_c1 rfl]
      exact run_loadVar_row w9 _ 45 45 _ (0, 0) _ hB9 Try.underlying45 rfl (by kernel_rfl)
    · exact grown_new (unhide G2) g9 (fun g e => by simp at e; have := unhide HSZ'; omega)
  | true =>
  obtain rfl : ok = true := by have := unhide HOK2; simpa using this.symm
  have HE := unhide HQ
  simp only [if_true, Prod.mk.injEq] at HE
  obtain ⟨rfl, rfl, rfl, rfl, rfl⟩ := HE
  have hn4 : n ≤ 4 := by have := picB_few (unhide H1); rw [unhide HN] at this; exact this.2
  clear HR HQ HOK2 H1 H2
  go_wp2_with (first | (refine load_row rfl 40 _ rfl (s + 1) rfl #[.int .i64 q, .int .i64 m, .int .i64 kd, .int .i64 rs, .bool co, .bool ha] 40 (unhide O2) _ Try.underlying40 rfl (by kernel_rfl) ?_) | (refine load_row rfl 33 _ rfl s rfl #[.int .i64 p, .int .i64 wd, .int .i64 ht, .slice xo n xc] 33 (unhide P2) _ Try.underlying33 rfl (by kernel_rfl) ?_))
  refine (specL18 p wd ht xo n xc q m kd rs co ha hn4 w2 tc hv HTC HHV).mono ?_
  rintro e w3 ⟨so, sc, rfl, o3, g3⟩
  have R3 := hide (grown_at7 g3 (unhide R2) (by simp))
  have G3 := hide (grown_trans (unhide G2) g3)
  have HS2 : Hid (s + 1 + 1 < w2.heap.size) := (Array.getElem?_eq_some_iff.1 (unhide R2)).1
  have O3 := hide o3
  clear g3 o3 P2 O2 R2 G2
  go_wp2_with (refine store_row rfl 45 _ _ rfl (s + 1 + 1) rfl #[.int .i64 p, .int .i64 wd, .int .i64 ht, .int .i64 rs, .slice so n sc] rfl #[.int .i64 0, .int .i64 0, .int .i64 0, .int .i64 0, .slice none 0 0] 45 (unhide R3) rfl (by kernel_rfl) (by simp [Value.oneCell']) ?_; intro w9 hB9 g9)
  refine bodyPost_ret (v := .agg #[.int .i64 p, .int .i64 wd, .int .i64 ht, .int .i64 rs, .slice so n sc]) ?_ rfl ⟨so, sc, rfl, ?_, ?_⟩
  · rw [results_c1 rfl]
    exact run_loadVar_row w9 _ 45 45 _ (0, 0) _ hB9 Try.underlying45 rfl (by kernel_rfl)
  · exact own_base (own_sameAt (unhide O3) (fun g e => g9.block g ((unhide O3).lt g e).2 (by have := ((unhide O3).lt g e).1; have := unhide HS2; simp; omega))) (by have := unhide HS2; have := unhide HSZ'; omega)
  · exact grown_new (unhide G3) g9 (fun g e => by simp at e; have := unhide HSZ'; omega)

end Go.Proofs.Ytgknninkfdgebaa
