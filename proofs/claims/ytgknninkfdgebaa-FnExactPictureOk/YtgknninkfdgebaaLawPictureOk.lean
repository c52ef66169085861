/-
  The walk of the law on PictureOk (written by gen_lawpic.py).
-/
import Derived.Test.YtgknninkfdgebaaPicImpl2
namespace Go.Proofs.Ytgknninkfdgebaa
open Go.RowKit

set_option maxRecDepth 20000 in
set_option maxHeartbeats 1600000 in
theorem lawPictureOk (a : Pic) (u : Value) (w : World) (hr : RdPz w u a) :
    Calls Try.prog 4 #[u] w fun e w' => e = .returned (.bool true) ∧ Below w.heap.size w w' := by
  obtain ⟨p, wd, ht, X⟩ := a
  obtain ⟨v, rfl, hv⟩ := id hr
  dsimp only at hv ⊢
  obtain ⟨xo, xc, rfl, _⟩ := id hv.1
  obtain ⟨n, HN⟩ : ∃ n, Hid (X.length = n) := ⟨_, rfl⟩
  dsimp only at hr
  rw [unhide HN] at hr ⊢
  obtain ⟨r, HR2⟩ : ∃ r : Int, Hid ((if szPi ⟨p, wd, ht, X⟩ ≤ 1048576 then ((1048576 : Nat) : Int) - szPi ⟨p, wd, ht, X⟩ else -1) = r) := ⟨_, rfl⟩
  have hx0 : ∀ W, w.grownBy W none → RdPi W (.agg #[.int .i64 p, .int .i64 wd, .int .i64 ht, .slice xo n xc]) ⟨p, wd, ht, X⟩ := fun W g => (RdPz.st _ _ _ _ hr g).rd
  have HZ0 := hide (fun W (g : w.grownBy W none) => RdPz.st _ _ _ _ hr g)
  have HX0 := hide hx0
  clear hv hr
  obtain ⟨t, HT⟩ : ∃ t, Hid (picB p wd ht X = t) := ⟨_, rfl⟩
  have htt : (t != t) = false := by simp
  have A0 := hide (heap_alloc_new w (.cells #[.int .i64 p, .int .i64 wd, .int .i64 ht, .slice xo n xc] 30))
  have G0 := hide (World.grownBy_alloc w (.cells #[.int .i64 p, .int .i64 wd, .int .i64 ht, .slice xo n xc] 30) (some w.heap.size))
  have G00 : Hid (w.grownBy (w.alloc (.cells #[.int .i64 p, .int .i64 wd, .int .i64 ht, .slice xo n xc] 30)) none) := World.grownBy_alloc w _ _
  by_cases hs : szPi ⟨p, wd, ht, X⟩ ≤ 1048576
  rotate_left 1
  · have hr2 : decide (r < 0) = true := decide_eq_true (by have := unhide HR2; rw [if_neg hs] at this; omega)
    clear hx0
    go_enter Try.func4, Try.ntmps4
    go_wp2_with fail
    refine (szPictureC _ _ ⟨p, wd, ht, X⟩ 1048576 (unhide HZ0 _ (unhide G00)) (by omega) r HR2).mono ?_
    rintro e w1 ⟨rfl, g1⟩
    have G1 := hide (grown_trans (unhide G00) g1)
    clear g1
    go_wp2
    go_ret
    exact ⟨rfl, grown_below (unhide G1)⟩
  have hr2 : decide (r < 0) = false := decide_eq_false (by have := unhide HR2; rw [if_pos hs] at this; omega)
  clear hx0
  go_enter Try.func4, Try.ntmps4
  go_wp2_with fail
  refine (szPictureC _ _ ⟨p, wd, ht, X⟩ 1048576 (unhide HZ0 _ (unhide G00)) (by omega) r HR2).mono ?_
  rintro e w1 ⟨rfl, g1⟩
  have B1 := hide (grown_at7 g1 (unhide A0) (by simp))
  have G1 := hide (grown_trans (unhide G00) g1)
  generalize hsz : w.heap.size = s at *
  have HSZ := hide hsz
  clear g1 hsz A0 G0 G00 HZ0
  go_wp2_with (refine load_row rfl 30 _ rfl s rfl #[.int .i64 p, .int .i64 wd, .int .i64 ht, .slice xo n xc] 30 (unhide B1) _ Try.underlying30 rfl (by kernel_rfl) ?_)
  refine (toPictureC w1 _ ⟨p, wd, ht, X⟩ (unhide HX0 w1 (unhide G1)) hs).mono ?_
  rintro e w2 ⟨u2, F2, rfl, o2, _, _, g2⟩
  obtain ⟨so, sc, rfl⟩ := o2.form
  dsimp only
  have R2 := hide o2.rd
  have B2 := hide (grown_at7 g2 (unhide B1) (by simp))
  have G2 := hide (grown_trans (unhide G1) g2)
  clear o2 g2 B1 G1
  go_wp2_with fail
  refine (specPictureOk ⟨p, wd, ht, X⟩ _ w2 (unhide R2) hs t HT).mono ?_
  rintro e w3 ⟨rfl, g3⟩
  have B3 := hide (grown_at7 g3 (unhide B2) (by simp))
  have G3 := hide (grown_trans (unhide G2) g3)
  clear g3 B2 G2 R2
  go_wp2_with (refine load_row rfl 30 _ rfl s rfl #[.int .i64 p, .int .i64 wd, .int .i64 ht, .slice xo n xc] 30 (unhide B3) _ Try.underlying30 rfl (by kernel_rfl) ?_)
  refine (toPictureC w3 _ ⟨p, wd, ht, X⟩ (unhide HX0 w3 (unhide G3)) hs).mono ?_
  rintro e w4 ⟨u4, L4, rfl, o4, _, _, g4⟩
  obtain ⟨yo, yc, rfl⟩ := o4.form
  dsimp only at o4 ⊢
  rw [unhide HN] at o4 ⊢
  have R4 := hide (RdPi.st _ _ _ _ o4.rd (World.grownBy_alloc w4 (.cells #[.int .i64 0, .int .i64 0, .int .i64 0, .slice none 0 0] 33) none))
  have B4 := hide (grown_at7 (grown_trans g4 (World.grownBy_alloc w4 (.cells #[.int .i64 0, .int .i64 0, .int .i64 0, .slice none 0 0] 33) _)) (unhide B3) (by simp))
  have F4 := hide (heap_alloc_new w4 (.cells #[.int .i64 0, .int .i64 0, .int .i64 0, .slice none 0 0] 33))
  have G4 := hide (grown_trans (unhide G3) (grown_trans g4 (World.grownBy_alloc w4 (.cells #[.int .i64 0, .int .i64 0, .int .i64 0, .slice none 0 0] 33) _)))
  have HSF : Hid (s < w4.heap.size) := by have h1 := (Array.getElem?_eq_some_iff.1 (unhide B3)).1; have := g4.size; unfold Hid; omega
  have HLF : Hid (∀ x ∈ L4, x ≠ w4.heap.size) := fun x hx e => by have := o4.lt x hx; omega
  have O4 := hide (o4.keep (World.grownBy_alloc w4 (.cells #[.int .i64 0, .int .i64 0, .int .i64 0, .slice none 0 0] 33) none))
  clear o4 g4 B3 G3 R4
  go_wp2_with (first | (refine store_row rfl 33 _ _ rfl w4.heap.size rfl #[.int .i64 p, .int .i64 wd, .int .i64 ht, .slice yo n yc] rfl #[.int .i64 0, .int .i64 0, .int .i64 0, .slice none 0 0] 33 (unhide F4) rfl (by kernel_rfl) (by simp [Value.oneCell']) ?_; intro w5 hF5 g5; have HF5 := hide hF5; have HG5 := hide g5; clear hF5 g5) | (refine load_row rfl 33 _ rfl w4.heap.size rfl #[.int .i64 p, .int .i64 wd, .int .i64 ht, .slice yo n yc] 33 (unhide HF5) _ Try.underlying33 rfl (by kernel_rfl) ?_))
  have B5 := hide (grown_at7 (unhide HG5) (unhide B4) (by have := unhide HSF; simp; omega))
  have G5 := hide (grown_new (unhide G4) (unhide HG5) (fun g e => by simp at e; have := unhide HSF; have := unhide HSZ; omega))
  have RY5 := hide ((unhide O4).wr (Wr.ofRow (F := [w4.heap.size]) (unhide HG5) (fun g e => by have := Option.some.inj e; simp [this])) (fun x hx e => by simp at e; exact unhide HLF x hx e)).rd
  generalize w4.heap.size = f at *
  clear HG5 G4 B4 O4 HLF HSF F4
  refine (implPictureOk ⟨p, wd, ht, X⟩ _ w5 (unhide RY5) hs t HT).mono ?_
  rintro e w8 ⟨rfl, g8⟩
  have B8 := hide (grown_at7 g8 (unhide B5) (by simp))
  have F8 := hide (grown_at7 g8 (unhide HF5) (by simp))
  have RY := hide (RdPi.st _ _ _ _ (unhide RY5) g8)
  have G8 := hide (grown_trans (unhide G5) g8)
  clear g8 B5 HF5 RY5 G5
  have hx0 := unhide HX0
  clear HX0
  go_wp2
  refine wp_region_noPanic ?_
  refine wp_region_tailL 20 (fun W => W.heap[s]? = some (.cells #[.int .i64 p, .int .i64 wd, .int .i64 ht, .slice xo n xc] 30 (0, 0)) ∧ W.heap[f]? = some (.cells #[.int .i64 p, .int .i64 wd, .int .i64 ht, .slice yo n yc] 33 (0, 0))) [true, true, false, false, false] (by kernel_rfl) (fun _ _ _ _ _ h => h) rfl (by decide) (by kernel_rfl) ⟨unhide B8, unhide F8⟩ ?_
  have y0 : Hid (w8.drew.heap[s]? = _) := B8
  have y1 : Hid (w8.drew.heap[f]? = _) := F8
  have RY1 := hide (RdPi.st _ _ _ _ (unhide RY) (grown_drew (World.grownBy.refl w8 none)))
  have G1 : Hid (w.grownBy w8.drew none) := grown_drew (unhide G8)
  clear B8 F8 RY G8
  generalize w8.drew = W1 at *
  refine heldF_take (v := .agg #[.int .i64 p, .int .i64 wd, .int .i64 ht, .slice yo n yc]) (Or.inl ⟨by rfl, ?_⟩) ?_
  · intro w' hSw
    exact exec_row 33 _ rfl f rfl _ _ hSw.2 _ Try.underlying33 rfl (by kernel_rfl)
  try simp only [Act.put, List.setIfInBounds_toArray, List.set_cons_zero, List.set_cons_succ]
  refine heldF_take (v := .agg #[.int .i64 p, .int .i64 wd, .int .i64 ht, .slice xo n xc]) (Or.inl ⟨by rfl, ?_⟩) ?_
  · intro w' hSw
    exact exec_row 30 _ rfl s rfl _ _ hSw.1 _ Try.underlying30 rfl (by kernel_rfl)
  try simp only [Act.put, List.setIfInBounds_toArray, List.set_cons_zero, List.set_cons_succ]
  refine heldF_skip ?_
  refine heldF_skip ?_
  refine heldF_skip ?_
  refine heldF_nil ?_
  refine tailL_skip ?_
  refine tailL_skip ?_
  refine tailL_step (fun K hK => ?_)
  go_simp
  refine (toPictureC W1 _ ⟨p, wd, ht, X⟩ (hx0 W1 (unhide G1)) hs).mono ?_
  rintro e W2 ⟨u2, F2, rfl, o2, _, _, g2⟩
  have y0 := hide (grown_at7 g2 (unhide y0) (by simp))
  have y1 := hide (grown_at7 g2 (unhide y1) (by simp))
  have R2 := hide o2.rd
  have RY2 := hide (RdPi.st _ _ _ _ (unhide RY1) g2)
  have G2 := hide (grown_trans (unhide G1) g2)
  clear o2 g2
  refine hK.out _ _ (.inr ⟨unhide y0, unhide y1⟩) ?_
  clear hK K
  try simp only [Act.put, List.setIfInBounds_toArray, List.set_cons_zero, List.set_cons_succ]
  refine tailL_step (fun K hK => ?_)
  go_simp
  refine (eqPictureC W2 _ _ ⟨p, wd, ht, X⟩ (unhide RY2) (unhide R2) hs).mono ?_
  rintro e W3 ⟨rfl, g3⟩
  have y0 := hide (grown_at7 g3 (unhide y0) (by simp))
  have y1 := hide (grown_at7 g3 (unhide y1) (by simp))
  have G3 := hide (grown_trans (unhide G2) g3)
  clear g3
  refine hK.out _ _ (.inr ⟨unhide y0, unhide y1⟩) ?_
  clear hK K
  try simp only [Act.put, List.setIfInBounds_toArray, List.set_cons_zero, List.set_cons_succ]
  refine tailL_step (fun K hK => ?_)
  go_simp
  refine hK.out _ _ (.inl rfl) ?_
  clear hK K
  refine tailL_nil (NoPanic.normal ?_)
  try simp only [Act.put]
  clear hx0
  go_wp2
  go_ret
  rw [← unhide HSZ]
  exact ⟨rfl, grown_below (unhide G3)⟩

end Go.Proofs.Ytgknninkfdgebaa
