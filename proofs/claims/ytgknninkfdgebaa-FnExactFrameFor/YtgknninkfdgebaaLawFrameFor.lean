/-
  The walk of the law on FrameFor (written by gen_lawframefor.py).
-/
import Derived.Test.YtgknninkfdgebaaFrFloat
namespace Go.Proofs.Ytgknninkfdgebaa
open Go.RowKit

set_option maxRecDepth 20000 in
set_option maxHeartbeats 6400000 in
theorem lawFrameForN (p wd ht : Int) (xo : Option Addr) (n xc : Nat) (X : List (List Int)) (q m kd rs : Int) (co ha : Bool) (w : World) (HN : Hid (X.length = n)) (hr : RdPz w (.agg #[.int .i64 p, .int .i64 wd, .int .i64 ht, .slice xo n xc]) ⟨p, wd, ht, X⟩) :
    Calls Try.prog 6 #[.agg #[.int .i64 p, .int .i64 wd, .int .i64 ht, .slice xo n xc], .agg #[.int .i64 q, .int .i64 m, .int .i64 kd, .int .i64 rs, .bool co, .bool ha]] w fun e w' => e = .returned (.bool true) ∧ Below w.heap.size w w' := by
  obtain ⟨r, HR2⟩ : ∃ r : Int, Hid ((if szPi ⟨p, wd, ht, X⟩ ≤ 1048576 then ((1048576 : Nat) : Int) - szPi ⟨p, wd, ht, X⟩ else -1) = r) := ⟨_, rfl⟩
  have HX0 : Hid (∀ W, w.grownBy W none → RdPi W (.agg #[.int .i64 p, .int .i64 wd, .int .i64 ht, .slice xo n xc]) ⟨p, wd, ht, X⟩) := fun W g => (RdPz.st _ _ _ _ hr g).rd
  have HZ0 := hide (fun W (g : w.grownBy W none) => RdPz.st _ _ _ _ hr g)
  clear hr
  obtain ⟨ok, HOK⟩ : ∃ t, Hid ((picB p wd ht X && optsB q m kd rs) = t) := ⟨_, rfl⟩
  obtain ⟨tc, HTC⟩ : ∃ t, Hid (tcB co n = t) := ⟨_, rfl⟩
  obtain ⟨hv, HHV⟩ : ∃ t, Hid (hvB ha n = t) := ⟨_, rfl⟩
  obtain ⟨P0, Q0, H0, R0, N0, HQ⟩ : ∃ P0 Q0 H0 R0 N0, Hid ((if ok = true then (p, wd, ht, rs, n) else (0, 0, 0, 0, 0)) = (P0, Q0, H0, R0, N0)) := ⟨_, _, _, _, _, rfl⟩
  have hN0 : N0 ≤ 4194304 := by
    have HE := unhide HQ
    cases ok with
    | false =>
      simp only [Bool.false_eq_true, if_false, Prod.mk.injEq] at HE
      omega
    | true =>
      simp only [if_true, Prod.mk.injEq] at HE
      have h3 := unhide HOK
      simp only [Bool.and_eq_true] at h3
      have h4 := picB_few h3.1
      rw [unhide HN] at h4
      omega
  obtain ⟨s, HS0⟩ : ∃ s, Hid (w.heap.size = s) := ⟨_, rfl⟩
  obtain ⟨W0, hW0⟩ : ∃ W0, ((w.alloc (.cells #[.int .i64 p, .int .i64 wd, .int .i64 ht, .slice xo n xc] 30)).alloc (.cells #[.int .i64 q, .int .i64 m, .int .i64 kd, .int .i64 rs, .bool co, .bool ha] 38)) = W0 := ⟨_, rfl⟩
  have K0 : Hid (KIn w s #[.int .i64 p, .int .i64 wd, .int .i64 ht, .slice xo n xc] #[.int .i64 q, .int .i64 m, .int .i64 kd, .int .i64 rs, .bool co, .bool ha] W0) := by
    refine ⟨?_, ?_, ?_, unhide HS0⟩
    · rw [← hW0, ← unhide HS0, Below.heap_alloc _ _ _ (by simp)]; exact heap_alloc_new w _
    · rw [← hW0, ← unhide HS0]
      have := heap_alloc_new (w.alloc (.cells #[.int .i64 p, .int .i64 wd, .int .i64 ht, .slice xo n xc] 30)) (.cells #[.int .i64 q, .int .i64 m, .int .i64 kd, .int .i64 rs, .bool co, .bool ha] 38)
      simpa using this
    · rw [← hW0]; exact grown_alloc (World.grownBy_alloc _ _ _) _
  have HW := hide hW0
  clear hW0
  by_cases hs : szPi ⟨p, wd, ht, X⟩ ≤ 1048576
  rotate_left 1
  · have hr2 : decide (r < 0) = true := decide_eq_true (by have := unhide HR2; rw [if_neg hs] at this; omega)
    go_enter Try.func6, Try.ntmps6
    go_wp2_with (rw [unhide HW, unhide HS0]; refine load_row rfl 30 _ rfl s rfl #[.int .i64 p, .int .i64 wd, .int .i64 ht, .slice xo n xc] 30 (unhide K0).pb _ Try.underlying30 rfl (by kernel_rfl) ?_)
    refine (szPictureC _ _ ⟨p, wd, ht, X⟩ 1048576 (unhide HZ0 _ (unhide K0).grown) (by omega) r HR2).mono ?_
    rintro e w1 ⟨rfl, g1⟩
    have K1 := hide ((unhide K0).new g1)
    clear g1
    go_wp2
    go_ret
    exact ⟨rfl, grown_below (unhide K1).grown⟩
  have hr2 : decide (r < 0) = false := decide_eq_false (by have := unhide HR2; rw [if_pos hs] at this; omega)
  have hcnt : cntPi ⟨p, wd, ht, X⟩ ≤ 1048576 := Nat.le_trans (by unfold cntPi szPi cntR szR; omega) hs
  go_enter Try.func6, Try.ntmps6
  go_wp2_with (rw [unhide HW, unhide HS0]; refine load_row rfl 30 _ rfl s rfl #[.int .i64 p, .int .i64 wd, .int .i64 ht, .slice xo n xc] 30 (unhide K0).pb _ Try.underlying30 rfl (by kernel_rfl) ?_)
  refine (szPictureC _ _ ⟨p, wd, ht, X⟩ 1048576 (unhide HZ0 _ (unhide K0).grown) (by omega) r HR2).mono ?_
  rintro e w2 ⟨rfl, g2⟩
  have K2 := hide ((unhide K0).new g2)
  clear g2 K0 HW HZ0
  go_wp2
  refine wp_region_noPanic ?_
  have gd := grown_drew (World.grownBy.refl w2 none)
  have K3 := hide ((unhide K2).new gd)
  clear K2
  refine wp_region_float 20 5 _ (fun W => KIn w s #[.int .i64 p, .int .i64 wd, .int .i64 ht, .slice xo n xc] #[.int .i64 q, .int .i64 m, .int .i64 kd, .int .i64 rs, .bool co, .bool ha] W) [.held, .chain, .held, .chain, .chain, .flt, .chain] (by kernel_rfl) (fun _ _ _ _ _ h => h) rfl (by decide) rfl (by rfl) (by kernel_rfl) (unhide K3) ?_
  generalize w2.drew = w3 at *
  refine heldX_take (v := .agg #[.int .i64 p, .int .i64 wd, .int .i64 ht, .slice xo n xc]) (Or.inl ⟨by rfl, ?_⟩) ?_
  · intro w' hSw
    exact exec_row 30 _ rfl s rfl _ _ hSw.pb _ Try.underlying30 rfl (by kernel_rfl)
  try simp only [Act.put, List.setIfInBounds_toArray, List.set_cons_zero, List.set_cons_succ]
  refine heldX_skip ?_
  refine heldX_take (v := .agg #[.int .i64 q, .int .i64 m, .int .i64 kd, .int .i64 rs, .bool co, .bool ha]) (Or.inl ⟨by rfl, ?_⟩) ?_
  · intro w' hSw
    exact exec_row 38 _ rfl (s + 1) rfl _ _ hSw.ob _ Try.underlying38 rfl (by kernel_rfl)
  try simp only [Act.put, List.setIfInBounds_toArray, List.set_cons_zero, List.set_cons_succ]
  refine heldX_skip ?_
  refine heldX_skip ?_
  refine heldX_flt ?_
  refine heldX_skip ?_
  refine heldX_nil ?_
  obtain ⟨loW, hloW⟩ : ∃ l, Hid (w3.heap.size = l) := ⟨_, rfl⟩
  have HLSW : Hid (s + 2 ≤ loW) := by unfold Hid; have := (unhide K3).lo;  have := unhide hloW; omega
  have HT3 : Hid (FbF w3 (fun b => loW ≤ b) false undef w3) := FbF.start _ _ _
  have HZ3 : Hid (loW ≤ w3.heap.size) := Nat.le_of_eq (unhide hloW).symm
  refine tailX_held ?_
  refine tailX_step 6 (FbF w3 (fun b => loW ≤ b)) (unhide HT3) (by rfl) (float_TF (fun W g => (unhide K3).new g) (fun W g => by have := g.size; have := unhide HZ3; omega)) ?_
  intro d4 x4 w4 hT K hK
  have g4 := hT.1
  have HT4 := hide hT
  clear HT3 hT
  have HZ4 : Hid (loW ≤ w4.heap.size) := by have := g4.size; have := unhide HZ3; unfold Hid; omega
  have K4 := hide ((unhide K3).new g4)
  clear K3
  unfold runF
  simp only [Act.put, List.setIfInBounds_toArray, List.set_cons_zero, List.set_cons_succ]
  go_simp
  refine (toPictureC w4 _ ⟨p, wd, ht, X⟩ (unhide HX0 w4 (unhide K4).grown) hs).mono ?_
  rintro e w5 ⟨u5, L5, rfl, o5, _, _, g5⟩
  obtain ⟨to5, tc5, rfl⟩ := o5.form
  dsimp only at o5 ⊢
  rw [unhide HN] at o5 ⊢
  have RP_5 := hide o5.rd
  clear o5
  have HT5 : Hid (FbF w5 (fun b => loW ≤ b) _ _ w5) := (unhide HT4).next g5 (fun b hb _ => hb)
  clear HT4
  have HZ5 : Hid (loW ≤ w5.heap.size) := by have := g5.size; have := unhide HZ4; unfold Hid; omega
  have K5 := hide ((unhide K4).new g5)
  clear K4
  refine hK.out _ _ (unhide K5) ?_
  clear hK K g5
  try simp only [Act.put, List.setIfInBounds_toArray, List.set_cons_zero, List.set_cons_succ]
  refine tailX_held ?_
  refine tailX_step 6 (FbF w5 (fun b => loW ≤ b)) (unhide HT5) (by rfl) (float_TF (fun W g => (unhide K5).new g) (fun W g => by have := g.size; have := unhide HZ5; omega)) ?_
  intro d6 x6 w6 hT K hK
  have g6 := hT.1
  have HT6 := hide hT
  clear HT5 hT
  have HZ6 : Hid (loW ≤ w6.heap.size) := by have := g6.size; have := unhide HZ5; unfold Hid; omega
  have K6 := hide ((unhide K5).new g6)
  clear K5
  have RP6 := hide ((unhide RP_5).new g6)
  clear RP_5
  unfold runF
  simp only [Act.put, List.setIfInBounds_toArray, List.set_cons_zero, List.set_cons_succ]
  go_simp
  refine (toOptions q m kd rs co ha w6).mono ?_
  rintro e w7 ⟨rfl, g7⟩
  have HT7 : Hid (FbF w7 (fun b => loW ≤ b) _ _ w7) := (unhide HT6).next g7 (fun b hb _ => hb)
  clear HT6
  have HZ7 : Hid (loW ≤ w7.heap.size) := by have := g7.size; have := unhide HZ6; unfold Hid; omega
  have K7 := hide ((unhide K6).new g7)
  clear K6
  have RP7 := hide ((unhide RP6).new g7)
  clear RP6
  refine hK.out _ _ (unhide K7) ?_
  clear hK K g7
  try simp only [Act.put, List.setIfInBounds_toArray, List.set_cons_zero, List.set_cons_succ]
  refine tailX_step 6 (FbF w7 (fun b => loW ≤ b)) (unhide HT7) (by rfl) (float_TF (fun W g => (unhide K7).new g) (fun W g => by have := g.size; have := unhide HZ7; omega)) ?_
  intro d8 x8 w8 hT K hK
  have g8 := hT.1
  have HT8 := hide hT
  clear HT7 hT
  have HZ8 : Hid (loW ≤ w8.heap.size) := by have := g8.size; have := unhide HZ7; unfold Hid; omega
  have K8 := hide ((unhide K7).new g8)
  clear K7
  have RP8 := hide ((unhide RP7).new g8)
  clear RP7
  unfold runF
  simp only [Act.put, List.setIfInBounds_toArray, List.set_cons_zero, List.set_cons_succ]
  go_simp
  refine (specFrameFor p wd ht to5 n tc5 X q m kd rs co ha w8 HN (unhide RP8) hs ok HOK tc hv HTC HHV P0 Q0 H0 R0 N0 HQ).mono ?_
  rintro e w9 ⟨soW, scW, rfl, o9, g9⟩
  have HT9 : Hid (FbF w9 (fun b => loW ≤ b ∧ ∀ g, (Value.slice soW N0 scW).ownBlock = some g → g ≠ b) _ _ w9) := (unhide HT8).next g9 (fun b hb hlt => ⟨hb, fun g e e2 => by have := (o9.lt g e).1; omega⟩)
  clear HT8
  have HZ9 : Hid (loW ≤ w9.heap.size) := by have := g9.size; have := unhide HZ8; unfold Hid; omega
  have OF := hide (own_base o9 (unhide HZ8))
  have OQ : Hid (∀ g, (Value.slice soW N0 scW).ownBlock = some g → g < w9.heap.size) := fun g e => (o9.lt g e).2
  clear o9
  clear RP8
  have K9 := hide ((unhide K8).new g9)
  clear K8
  refine hK.out _ _ (unhide K9) ?_
  clear hK K g9
  try simp only [Act.put, List.setIfInBounds_toArray, List.set_cons_zero, List.set_cons_succ]
  refine tailX_last 6 (FbF w9 (fun b => loW ≤ b ∧ ∀ g, (Value.slice soW N0 scW).ownBlock = some g → g ≠ b)) (unhide HT9) (by rfl) (float_TF (fun W g => (unhide K9).new g) (fun W g => ⟨by have := g.size; have := unhide HZ9; omega, fun g1 e => by have := unhide OQ g1 e; have := g.size; omega⟩)) ?_
  intro x10 w10 hT K hK
  have g10 := hT.1
  obtain ⟨bW, rfl, hbx, hNb⟩ := hT.2 rfl
  clear hT HT9
  have OF2 := hide (own_grown (unhide OF) g10)
  have HSZ2 := hide g10.size
  have K10 := hide ((unhide K9).new g10)
  clear K9
  have HBX := hide hbx
  have HNB := hide hNb
  clear hbx hNb OF
  unfold runF
  refine step_store_row rfl 45 _ _ rfl bW rfl #[.int .i64 P0, .int .i64 Q0, .int .i64 H0, .int .i64 R0, .slice soW N0 scW] rfl #[.int .i64 0, .int .i64 0, .int .i64 0, .int .i64 0, .slice none 0 0] 45 (unhide HBX) rfl (by kernel_rfl) (by simp [Value.oneCell']) ?_
  intro w11 hB11 gr11
  refine hK.out _ _ ?_
  clear hK K
  refine NoPanic.normal ?_
  try simp only [Act.put]
  have hbb : bW < w10.heap.size := (Array.getElem?_eq_some_iff.1 (unhide HBX)).1
  obtain ⟨hiW, hhiW⟩ : ∃ l, Hid (w10.heap.size = l) := ⟨_, rfl⟩
  have gw11 : Wr [bW] w10 w11 := Wr.ofRow gr11 (fun g e => by have e9 := Option.some.inj e; simp [e9])
  have hlk := unhide hloW
  have hhk := unhide hhiW
  have NBW : Hid (Fo w11 loW hiW bW P0 Q0 H0 R0 soW N0 scW (frC tc hv)) := ⟨hB11, own_sameAt (unhide OF2) (fun x hx => gr11.block x ((unhide OF2).lt x hx).2 (fun e => by have e9 := Option.some.inj e; exact (unhide HNB).2 x hx e9)), ⟨(unhide HNB).1, by omega⟩, fun g e => ⟨by have := unhide OQ g e; have := unhide HSZ2; omega, fun e2 => (unhide HNB).2 g e e2⟩, by have := gr11.size; omega⟩
  have K11 := hide ((unhide K10).wr gw11 (fun x hx => by simp at hx; have := (unhide NBW).hb; have := unhide HLSW; omega))
  clear K10
  clear OF2 OQ HNB HBX HSZ2 hB11 gr11 gw11 hlk hhk hbb
  go_wp2_with (refine load_row rfl 30 _ rfl s rfl #[.int .i64 p, .int .i64 wd, .int .i64 ht, .slice xo n xc] 30 (unhide K11).pb _ Try.underlying30 rfl (by kernel_rfl) ?_)
  refine (toPictureC w11 _ ⟨p, wd, ht, X⟩ (unhide HX0 w11 (unhide K11).grown) hs).mono ?_
  rintro e w12 ⟨u12, LX, rfl, o12, NDX, lX, g12⟩
  obtain ⟨yo, yc, rfl⟩ := o12.form
  dsimp only at o12 ⊢
  rw [unhide HN] at o12 ⊢
  obtain ⟨loX, hloX⟩ : ∃ l, Hid (w11.heap.size = l) := ⟨_, rfl⟩
  have HLSX : Hid (s + 2 ≤ loX ∧ hiW ≤ loX) := by unfold Hid; have := (unhide K11).lo; have := (unhide NBW).hhi; have := unhide hloX; omega
  have HLX : Hid (∀ x ∈ LX, loX ≤ x ∧ x < w12.heap.size) := fun x hx => ⟨by have := lX x hx; have := unhide hloX; omega, o12.lt x hx⟩
  have HNDX := hide NDX
  clear lX NDX
  have hsx : loX ≤ w12.heap.size := by have := g12.size; have := unhide hloX; omega
  have HSX := hide hsx
  clear hsx
  have g13 := grown_trans g12 (World.grownBy_alloc w12 (.cells #[.int .i64 0, .int .i64 0, .int .i64 0, .slice none 0 0] 33) none)
  have BX := hide (heap_alloc_new w12 (.cells #[.int .i64 0, .int .i64 0, .int .i64 0, .slice none 0 0] 33))
  have OX := hide (o12.keep (World.grownBy_alloc w12 (.cells #[.int .i64 0, .int .i64 0, .int .i64 0, .slice none 0 0] 33) none))
  clear o12
  have hz : (w12.alloc (.cells #[.int .i64 0, .int .i64 0, .int .i64 0, .slice none 0 0] 33)).heap.size = w12.heap.size + 1 := by simp
  obtain ⟨w13, hw13⟩ : ∃ w9, w12.alloc (.cells #[.int .i64 0, .int .i64 0, .int .i64 0, .slice none 0 0] 33) = w9 := ⟨_, rfl⟩
  have HWX := hide hw13
  rw [hw13] at g13 BX OX hz
  obtain ⟨bX, hbX⟩ : ∃ b, Hid (w12.heap.size = b) := ⟨_, rfl⟩
  have HZX := hide hz
  clear hw13 g12 hz
  have K13 := hide ((unhide K11).new g13)
  clear K11
  have W13 := hide ((unhide NBW).new g13)
  clear NBW
  clear g13
  go_wp2_with (rw [unhide HWX, unhide hbX]; refine store_row rfl 33 _ _ rfl bX rfl #[.int .i64 p, .int .i64 wd, .int .i64 ht, .slice yo n yc] rfl #[.int .i64 0, .int .i64 0, .int .i64 0, .slice none 0 0] 33 (by rw [← unhide hbX]; exact unhide BX) rfl (by kernel_rfl) (by simp [Value.oneCell']) ?_; intro w14 hB14 gr14; have HBX := hide hB14; have HGX := hide gr14; clear hB14 gr14)
  have gw14 : Wr [bX] w13 w14 := Wr.ofRow (unhide HGX) (fun g e => by have e9 := Option.some.inj e; simp [e9])
  have hz := unhide HZX
  have hbz := unhide hbX
  have hsx := unhide HSX
  have NBX : Hid (Pb w14 loX (bX + 1) bX #[.int .i64 p, .int .i64 wd, .int .i64 ht, .slice yo n yc] ⟨p, wd, ht, X⟩ LX) := ⟨unhide HBX, (unhide OX).wr gw14 (fun x hx e => by simp at e; have := unhide HLX x hx; omega), ⟨by omega, by omega⟩, fun x hx => by have := unhide HLX x hx; exact ⟨by omega, by omega, by omega⟩, by have := (unhide HGX).size; omega⟩
  have K14 := hide ((unhide K13).wr gw14 (fun x hx => by simp at hx; have := unhide HLSX; omega))
  clear K13
  have W14 := hide ((unhide W13).wr gw14 (fun x hx => by simp at hx; have := unhide HLSX; omega))
  clear W13
  clear gw14 HGX HBX OX BX HWX hz hbz hsx HZX HSX HLX
  obtain ⟨hiX, hhiX⟩ : ∃ h, Hid (bX + 1 = h) := ⟨_, rfl⟩
  rw [unhide hhiX] at NBX
  clear hhiX
  go_wp2
  refine wp_region_noPanic ?_
  have gd := grown_drew (World.grownBy.refl w14 none)
  have K15 := hide ((unhide K14).new gd)
  clear K14
  have W15 := hide ((unhide W14).new gd)
  clear W14
  have X15 := hide ((unhide NBX).new gd)
  clear NBX
  refine wp_region_float 20 4 _ (fun W => KIn w s #[.int .i64 p, .int .i64 wd, .int .i64 ht, .slice xo n xc] #[.int .i64 q, .int .i64 m, .int .i64 kd, .int .i64 rs, .bool co, .bool ha] W ∧ W.heap[bX]? = some (.cells #[.int .i64 p, .int .i64 wd, .int .i64 ht, .slice yo n yc] 33 (0, 0))) [.held, .held, .chain, .chain, .flt, .chain] (by kernel_rfl) (fun _ _ _ _ _ h => h) rfl (by decide) rfl (by rfl) (by kernel_rfl) ⟨(unhide K15), (unhide X15).box⟩ ?_
  generalize w14.drew = w15 at *
  refine heldX_take (v := .agg #[.int .i64 p, .int .i64 wd, .int .i64 ht, .slice yo n yc]) (Or.inl ⟨by rfl, ?_⟩) ?_
  · intro w' hSw
    exact exec_row 33 _ rfl bX rfl _ _ hSw.2 _ Try.underlying33 rfl (by kernel_rfl)
  try simp only [Act.put, List.setIfInBounds_toArray, List.set_cons_zero, List.set_cons_succ]
  refine heldX_take (v := .agg #[.int .i64 q, .int .i64 m, .int .i64 kd, .int .i64 rs, .bool co, .bool ha]) (Or.inl ⟨by rfl, ?_⟩) ?_
  · intro w' hSw
    exact exec_row 38 _ rfl (s + 1) rfl _ _ hSw.1.ob _ Try.underlying38 rfl (by kernel_rfl)
  try simp only [Act.put, List.setIfInBounds_toArray, List.set_cons_zero, List.set_cons_succ]
  refine heldX_skip ?_
  refine heldX_skip ?_
  refine heldX_flt ?_
  refine heldX_skip ?_
  refine heldX_nil ?_
  obtain ⟨loY, hloY⟩ : ∃ l, Hid (w15.heap.size = l) := ⟨_, rfl⟩
  have HLSY : Hid (s + 2 ≤ loY ∧ hiW ≤ loY ∧ hiX ≤ loY) := by unfold Hid; have := (unhide K15).lo; have := (unhide W15).hhi; have := (unhide X15).hhi; have := unhide hloY; omega
  have HT15 : Hid (FbF w15 (fun b => loY ≤ b) false undef w15) := FbF.start _ _ _
  have HZ15 : Hid (loY ≤ w15.heap.size) := Nat.le_of_eq (unhide hloY).symm
  refine tailX_held ?_
  refine tailX_held ?_
  refine tailX_step 8 (FbF w15 (fun b => loY ≤ b)) (unhide HT15) (by rfl) (float_TF (fun W g => ⟨(unhide K15).new g, ((unhide X15).new g).box⟩) (fun W g => by have := g.size; have := unhide HZ15; omega)) ?_
  intro d16 x16 w16 hT K hK
  have g16 := hT.1
  have HT16 := hide hT
  clear HT15 hT
  have HZ16 : Hid (loY ≤ w16.heap.size) := by have := g16.size; have := unhide HZ15; unfold Hid; omega
  have K16 := hide ((unhide K15).new g16)
  clear K15
  have W16 := hide ((unhide W15).new g16)
  clear W15
  have X16 := hide ((unhide X15).new g16)
  clear X15
  unfold runF
  simp only [Act.put, List.setIfInBounds_toArray, List.set_cons_zero, List.set_cons_succ]
  go_simp
  refine (toOptions q m kd rs co ha w16).mono ?_
  rintro e w17 ⟨rfl, g17⟩
  have HT17 : Hid (FbF w17 (fun b => loY ≤ b) _ _ w17) := (unhide HT16).next g17 (fun b hb _ => hb)
  clear HT16
  have HZ17 : Hid (loY ≤ w17.heap.size) := by have := g17.size; have := unhide HZ16; unfold Hid; omega
  have K17 := hide ((unhide K16).new g17)
  clear K16
  have W17 := hide ((unhide W16).new g17)
  clear W16
  have X17 := hide ((unhide X16).new g17)
  clear X16
  refine hK.out _ _ ⟨(unhide K17), (unhide X17).box⟩ ?_
  clear hK K g17
  try simp only [Act.put, List.setIfInBounds_toArray, List.set_cons_zero, List.set_cons_succ]
  refine tailX_step 8 (FbF w17 (fun b => loY ≤ b)) (unhide HT17) (by rfl) (float_TF (fun W g => ⟨(unhide K17).new g, ((unhide X17).new g).box⟩) (fun W g => by have := g.size; have := unhide HZ17; omega)) ?_
  intro d18 x18 w18 hT K hK
  have g18 := hT.1
  have HT18 := hide hT
  clear HT17 hT
  have HZ18 : Hid (loY ≤ w18.heap.size) := by have := g18.size; have := unhide HZ17; unfold Hid; omega
  have K18 := hide ((unhide K17).new g18)
  clear K17
  have W18 := hide ((unhide W17).new g18)
  clear W17
  have X18 := hide ((unhide X17).new g18)
  clear X17
  unfold runF
  simp only [Act.put, List.setIfInBounds_toArray, List.set_cons_zero, List.set_cons_succ]
  go_simp
  refine (implFrameFor p wd ht yo n yc X q m kd rs co ha w18 HN (unhide X18).own.rd hs ok HOK tc hv HTC HHV P0 Q0 H0 R0 N0 HQ).mono ?_
  rintro e w19 ⟨soY, scY, rfl, o19, g19⟩
  have HT19 : Hid (FbF w19 (fun b => loY ≤ b ∧ ∀ g, (Value.slice soY N0 scY).ownBlock = some g → g ≠ b) _ _ w19) := (unhide HT18).next g19 (fun b hb hlt => ⟨hb, fun g e e2 => by have := (o19.lt g e).1; omega⟩)
  clear HT18
  have HZ19 : Hid (loY ≤ w19.heap.size) := by have := g19.size; have := unhide HZ18; unfold Hid; omega
  have OF := hide (own_base o19 (unhide HZ18))
  have OQ : Hid (∀ g, (Value.slice soY N0 scY).ownBlock = some g → g < w19.heap.size) := fun g e => (o19.lt g e).2
  clear o19
  have K19 := hide ((unhide K18).new g19)
  clear K18
  have W19 := hide ((unhide W18).new g19)
  clear W18
  have X19 := hide ((unhide X18).new g19)
  clear X18
  refine hK.out _ _ ⟨(unhide K19), (unhide X19).box⟩ ?_
  clear hK K g19
  try simp only [Act.put, List.setIfInBounds_toArray, List.set_cons_zero, List.set_cons_succ]
  refine tailX_last 8 (FbF w19 (fun b => loY ≤ b ∧ ∀ g, (Value.slice soY N0 scY).ownBlock = some g → g ≠ b)) (unhide HT19) (by rfl) (float_TF (fun W g => ⟨(unhide K19).new g, ((unhide X19).new g).box⟩) (fun W g => ⟨by have := g.size; have := unhide HZ19; omega, fun g1 e => by have := unhide OQ g1 e; have := g.size; omega⟩)) ?_
  intro x20 w20 hT K hK
  have g20 := hT.1
  obtain ⟨bY, rfl, hbx, hNb⟩ := hT.2 rfl
  clear hT HT19
  have OF2 := hide (own_grown (unhide OF) g20)
  have HSZ2 := hide g20.size
  have K20 := hide ((unhide K19).new g20)
  clear K19
  have W20 := hide ((unhide W19).new g20)
  clear W19
  have X20 := hide ((unhide X19).new g20)
  clear X19
  have HBX := hide hbx
  have HNB := hide hNb
  clear hbx hNb OF
  unfold runF
  refine step_store_row rfl 45 _ _ rfl bY rfl #[.int .i64 P0, .int .i64 Q0, .int .i64 H0, .int .i64 R0, .slice soY N0 scY] rfl #[.int .i64 0, .int .i64 0, .int .i64 0, .int .i64 0, .slice none 0 0] 45 (unhide HBX) rfl (by kernel_rfl) (by simp [Value.oneCell']) ?_
  intro w21 hB21 gr21
  refine hK.out _ _ ?_
  clear hK K
  refine NoPanic.normal ?_
  try simp only [Act.put]
  have hbb : bY < w20.heap.size := (Array.getElem?_eq_some_iff.1 (unhide HBX)).1
  obtain ⟨hiY, hhiY⟩ : ∃ l, Hid (w20.heap.size = l) := ⟨_, rfl⟩
  have gw21 : Wr [bY] w20 w21 := Wr.ofRow gr21 (fun g e => by have e9 := Option.some.inj e; simp [e9])
  have hlk := unhide hloY
  have hhk := unhide hhiY
  have NBY : Hid (Fo w21 loY hiY bY P0 Q0 H0 R0 soY N0 scY (frC tc hv)) := ⟨hB21, own_sameAt (unhide OF2) (fun x hx => gr21.block x ((unhide OF2).lt x hx).2 (fun e => by have e9 := Option.some.inj e; exact (unhide HNB).2 x hx e9)), ⟨(unhide HNB).1, by omega⟩, fun g e => ⟨by have := unhide OQ g e; have := unhide HSZ2; omega, fun e2 => (unhide HNB).2 g e e2⟩, by have := gr21.size; omega⟩
  have K21 := hide ((unhide K20).wr gw21 (fun x hx => by simp at hx; have := (unhide NBY).hb; have := unhide HLSY; omega))
  clear K20
  have W21 := hide ((unhide W20).wr gw21 (fun x hx => by simp at hx; have := (unhide NBY).hb; have := unhide HLSY; omega))
  clear W20
  have X21 := hide ((unhide X20).wr gw21 (fun x hx => by simp at hx; have := (unhide NBY).hb; have := unhide HLSY; omega))
  clear X20
  clear OF2 OQ HNB HBX HSZ2 hB21 gr21 gw21 hlk hhk hbb
  go_wp2_with (first | (refine load_row rfl 45 _ rfl bY rfl #[.int .i64 P0, .int .i64 Q0, .int .i64 H0, .int .i64 R0, .slice soY N0 scY] 45 (unhide NBY).box _ Try.underlying45 rfl (by kernel_rfl) ?_) | (refine load_row rfl 45 _ rfl bW rfl #[.int .i64 P0, .int .i64 Q0, .int .i64 H0, .int .i64 R0, .slice soW N0 scW] 45 (unhide W21).box _ Try.underlying45 rfl (by kernel_rfl) ?_))
  refine (eqFrame P0 Q0 H0 R0 _ _ N0 _ _ (frC tc hv) w21 (unhide NBY).rd (unhide W21).rd hN0).mono ?_
  rintro e w22 ⟨rfl, g22⟩
  have K22 := hide ((unhide K21).new g22)
  clear K21
  have W22 := hide ((unhide W21).new g22)
  clear W21
  have X22 := hide ((unhide X21).new g22)
  clear X21
  have Y22 := hide ((unhide NBY).new g22)
  clear NBY
  clear g22
  go_wp2
  have gd := grown_drew (World.grownBy.refl w22 none)
  have K25 := hide ((unhide K22).new gd)
  clear K22
  have W25 := hide ((unhide W22).new gd)
  clear W22
  have X25 := hide ((unhide X22).new gd)
  clear X22
  have Y25 := hide ((unhide Y22).new gd)
  clear Y22
  refine wp_region_noPanic ?_
  refine wp_region_tailL 20 (fun W => W.heap[s]? = some (.cells #[.int .i64 p, .int .i64 wd, .int .i64 ht, .slice xo n xc] 30 (0, 0)) ∧ W.heap[bX]? = some (.cells #[.int .i64 p, .int .i64 wd, .int .i64 ht, .slice yo n yc] 33 (0, 0))) [true, true, false, false, false] (by kernel_rfl) (fun _ _ _ _ _ h => h) rfl (by decide) (by kernel_rfl) ⟨(unhide K25).pb, (unhide X25).box⟩ ?_
  generalize w22.drew = w25 at *
  refine heldF_take (v := .agg #[.int .i64 p, .int .i64 wd, .int .i64 ht, .slice yo n yc]) (Or.inl ⟨by rfl, ?_⟩) ?_
  · intro w' hSw
    exact exec_row 33 _ rfl bX rfl _ _ hSw.2 _ Try.underlying33 rfl (by kernel_rfl)
  try simp only [Act.put, List.setIfInBounds_toArray, List.set_cons_zero, List.set_cons_succ]
  refine heldF_take (v := .agg #[.int .i64 p, .int .i64 wd, .int .i64 ht, .slice xo n xc]) (Or.inl ⟨by rfl, ?_⟩) ?_
  · intro w' hSw
    exact exec_row 30 _ rfl s rfl _ _ hSw.1 _ Try.underlying30 rfl (by kernel_rfl)
  try simp only [Act.put, List.setIfInBounds_toArray, List.set_cons_zero, List.set_cons_succ]
  refine heldF_skip ?_
  refine heldF_skip ?_
  refine heldF_skip ?_
  refine heldF_nil ?_
  refine tailL_skip ?_
  refine tailL_skip ?_
  refine tailL_step (fun K hK => ?_)
  go_simp
  refine (toPictureC w25 _ ⟨p, wd, ht, X⟩ (unhide HX0 w25 (unhide K25).grown) hs).mono ?_
  rintro e w23 ⟨u23, L23, rfl, o23, _, _, g23⟩
  have RP := hide o23.rd
  clear o23
  have K23 := hide ((unhide K25).new g23)
  clear K25
  have W23 := hide ((unhide W25).new g23)
  clear W25
  have X23 := hide ((unhide X25).new g23)
  clear X25
  have Y23 := hide ((unhide Y25).new g23)
  clear Y25
  clear g23
  refine hK.out _ _ (.inr ⟨(unhide K23).pb, (unhide X23).box⟩) ?_
  clear hK K
  try simp only [Act.put, List.setIfInBounds_toArray, List.set_cons_zero, List.set_cons_succ]
  refine tailL_step (fun K hK => ?_)
  go_simp
  refine (eqPictureC w23 _ _ ⟨p, wd, ht, X⟩ (unhide X23).own.rd (unhide RP) hs).mono ?_
  rintro e w24 ⟨rfl, g24⟩
  have K24 := hide ((unhide K23).new g24)
  clear K23
  have W24 := hide ((unhide W23).new g24)
  clear W23
  have X24 := hide ((unhide X23).new g24)
  clear X23
  have Y24 := hide ((unhide Y23).new g24)
  clear Y23
  clear RP g24
  refine hK.out _ _ (.inr ⟨(unhide K24).pb, (unhide X24).box⟩) ?_
  clear hK K
  try simp only [Act.put, List.setIfInBounds_toArray, List.set_cons_zero, List.set_cons_succ]
  refine tailL_step (fun K hK => ?_)
  go_simp
  refine hK.out _ _ (.inl rfl) ?_
  clear hK K
  refine tailL_nil (NoPanic.normal ?_)
  try simp only [Act.put]
  go_wp2_with (refine load_row rfl 33 _ rfl bX rfl #[.int .i64 p, .int .i64 wd, .int .i64 ht, .slice yo n yc] 33 (unhide X24).box _ Try.underlying33 rfl (by kernel_rfl) ?_)
  refine (markPictureC w24 _ ⟨p, wd, ht, X⟩ LX 1 (unhide X24).own (unhide HNDX) hs (by omega) (by omega)).mono ?_
  rintro e w26 ⟨rfl, _, g26⟩
  have HFX := hide (unhide X24).hF
  have hxx := (unhide X24).hb
  have hxh := (unhide X24).hhi
  have K26 := hide ((unhide K24).wr g26 (fun x hx => by have := unhide HFX x hx; have := unhide HLSX; have := unhide HLSY; omega))
  clear K24
  have W26 := hide ((unhide W24).wr g26 (fun x hx => by have := unhide HFX x hx; have := unhide HLSX; have := unhide HLSY; omega))
  clear W24
  have Y26 := hide ((unhide Y24).wr g26 (fun x hx => by have := unhide HFX x hx; have := unhide HLSX; have := unhide HLSY; omega))
  clear Y24
  clear X24 HFX hxx hxh g26
  have hpk : decide ((1 : Int) + (cntPi ⟨p, wd, ht, X⟩ : Int) < 0) = false := decide_eq_false (by omega)
  generalize (1 : Int) + (cntPi ⟨p, wd, ht, X⟩ : Int) = pk at *
  go_wp2_with (first | (refine load_row rfl 45 _ rfl bY rfl #[.int .i64 P0, .int .i64 Q0, .int .i64 H0, .int .i64 R0, .slice soY N0 scY] 45 (unhide Y26).box _ Try.underlying45 rfl (by kernel_rfl) ?_) | (refine load_row rfl 45 _ rfl bW rfl #[.int .i64 P0, .int .i64 Q0, .int .i64 H0, .int .i64 R0, .slice soW N0 scW] 45 (unhide W26).box _ Try.underlying45 rfl (by kernel_rfl) ?_))
  refine (eqFrame P0 Q0 H0 R0 _ _ N0 _ _ (frC tc hv) w26 (unhide Y26).rd (unhide W26).rd hN0).mono ?_
  rintro e w27 ⟨rfl, g27⟩
  have K27 := hide ((unhide K26).new g27)
  clear K26
  have W27 := hide ((unhide W26).new g27)
  clear W26
  have Y27 := hide ((unhide Y26).new g27)
  clear Y26
  clear g27
  go_wp2_with (refine load_row rfl 45 _ rfl bY rfl #[.int .i64 P0, .int .i64 Q0, .int .i64 H0, .int .i64 R0, .slice soY N0 scY] 45 (unhide Y27).box _ Try.underlying45 rfl (by kernel_rfl) ?_)
  refine (markFrame P0 Q0 H0 R0 _ N0 _ _ (frC tc hv) 1 w27 (unhide Y27).own hN0 (by omega) (by omega)).mono ?_
  rintro e w28 ⟨rfl, oy28, g28⟩
  have gw28 : Wr (blk (Value.slice soY N0 scY)) w27 w28 := Wr.ofRow g28 (fun g e => mem_blk.2 e)
  have Y28 := hide ((unhide Y27).marked g28 oy28)
  have K28 := hide ((unhide K27).wr gw28 (fun x hx => by have h1 := ((unhide Y27).own.lt x (mem_blk.1 hx)).1; have h2 := ((unhide Y27).hq x (mem_blk.1 hx)).1; have := unhide HLSY; omega))
  clear K27
  have W28 := hide ((unhide W27).wr gw28 (fun x hx => by have h1 := ((unhide Y27).own.lt x (mem_blk.1 hx)).1; have h2 := ((unhide Y27).hq x (mem_blk.1 hx)).1; have := unhide HLSY; omega))
  clear W27
  clear Y27 g28 gw28 oy28
  obtain ⟨qk, HQK⟩ : ∃ qk, Hid ((1 : Int) + 4 * (N0 : Int) = qk) := ⟨_, rfl⟩
  have hqn : decide (qk < 0) = false := decide_eq_false (by have := unhide HQK; omega)
  have hqq : (qk != qk) = false := by simp
  rw [unhide HQK]
  go_wp2_with (refine load_row rfl 45 _ rfl bY rfl #[.int .i64 P0, .int .i64 Q0, .int .i64 H0, .int .i64 R0, .slice soY N0 scY] 45 (unhide Y28).box _ Try.underlying45 rfl (by kernel_rfl) ?_)
  refine (heldFrame P0 Q0 H0 R0 _ N0 _ 1 w28 (unhide Y28).rd hN0 (by omega) (by omega)).mono ?_
  rintro e w29 ⟨rfl, g29⟩
  have K29 := hide ((unhide K28).new g29)
  clear K28
  have W29 := hide ((unhide W28).new g29)
  clear W28
  have Y29 := hide ((unhide Y28).new g29)
  clear Y28
  clear g29
  rw [unhide HQK]
  go_wp2
  refine wp_region_noPanic ?_
  have gd := grown_drew (World.grownBy.refl w29 none)
  have K30 := hide ((unhide K29).new gd)
  clear K29
  have W30 := hide ((unhide W29).new gd)
  clear W29
  have Y30 := hide ((unhide Y29).new gd)
  clear Y29
  refine wp_region_float 20 5 _ (fun W => KIn w s #[.int .i64 p, .int .i64 wd, .int .i64 ht, .slice xo n xc] #[.int .i64 q, .int .i64 m, .int .i64 kd, .int .i64 rs, .bool co, .bool ha] W) [.held, .chain, .held, .chain, .chain, .flt, .chain] (by kernel_rfl) (fun _ _ _ _ _ h => h) rfl (by decide) rfl (by rfl) (by kernel_rfl) (unhide K30) ?_
  generalize w29.drew = w30 at *
  refine heldX_take (v := .agg #[.int .i64 p, .int .i64 wd, .int .i64 ht, .slice xo n xc]) (Or.inl ⟨by rfl, ?_⟩) ?_
  · intro w' hSw
    exact exec_row 30 _ rfl s rfl _ _ hSw.pb _ Try.underlying30 rfl (by kernel_rfl)
  try simp only [Act.put, List.setIfInBounds_toArray, List.set_cons_zero, List.set_cons_succ]
  refine heldX_skip ?_
  refine heldX_take (v := .agg #[.int .i64 q, .int .i64 m, .int .i64 kd, .int .i64 rs, .bool co, .bool ha]) (Or.inl ⟨by rfl, ?_⟩) ?_
  · intro w' hSw
    exact exec_row 38 _ rfl (s + 1) rfl _ _ hSw.ob _ Try.underlying38 rfl (by kernel_rfl)
  try simp only [Act.put, List.setIfInBounds_toArray, List.set_cons_zero, List.set_cons_succ]
  refine heldX_skip ?_
  refine heldX_skip ?_
  refine heldX_flt ?_
  refine heldX_skip ?_
  refine heldX_nil ?_
  obtain ⟨loH, hloH⟩ : ∃ l, Hid (w30.heap.size = l) := ⟨_, rfl⟩
  have HLSH : Hid (s + 2 ≤ loH ∧ hiW ≤ loH ∧ hiY ≤ loH) := by unfold Hid; have := (unhide K30).lo; have := (unhide W30).hhi; have := (unhide Y30).hhi; have := unhide hloH; omega
  have HT30 : Hid (FbF w30 (fun b => loH ≤ b) false undef w30) := FbF.start _ _ _
  have HZ30 : Hid (loH ≤ w30.heap.size) := Nat.le_of_eq (unhide hloH).symm
  refine tailX_held ?_
  refine tailX_step 12 (FbF w30 (fun b => loH ≤ b)) (unhide HT30) (by rfl) (float_TF (fun W g => (unhide K30).new g) (fun W g => by have := g.size; have := unhide HZ30; omega)) ?_
  intro d31 x31 w31 hT K hK
  have g31 := hT.1
  have HT31 := hide hT
  clear HT30 hT
  have HZ31 : Hid (loH ≤ w31.heap.size) := by have := g31.size; have := unhide HZ30; unfold Hid; omega
  have K31 := hide ((unhide K30).new g31)
  clear K30
  have W31 := hide ((unhide W30).new g31)
  clear W30
  have Y31 := hide ((unhide Y30).new g31)
  clear Y30
  unfold runF
  simp only [Act.put, List.setIfInBounds_toArray, List.set_cons_zero, List.set_cons_succ]
  go_simp
  refine (toPictureC w31 _ ⟨p, wd, ht, X⟩ (unhide HX0 w31 (unhide K31).grown) hs).mono ?_
  rintro e w32 ⟨u32, L32, rfl, o32, _, _, g32⟩
  obtain ⟨to32, tc32, rfl⟩ := o32.form
  dsimp only at o32 ⊢
  rw [unhide HN] at o32 ⊢
  have RP_32 := hide o32.rd
  clear o32
  have HT32 : Hid (FbF w32 (fun b => loH ≤ b) _ _ w32) := (unhide HT31).next g32 (fun b hb _ => hb)
  clear HT31
  have HZ32 : Hid (loH ≤ w32.heap.size) := by have := g32.size; have := unhide HZ31; unfold Hid; omega
  have K32 := hide ((unhide K31).new g32)
  clear K31
  have W32 := hide ((unhide W31).new g32)
  clear W31
  have Y32 := hide ((unhide Y31).new g32)
  clear Y31
  refine hK.out _ _ (unhide K32) ?_
  clear hK K g32
  try simp only [Act.put, List.setIfInBounds_toArray, List.set_cons_zero, List.set_cons_succ]
  refine tailX_held ?_
  refine tailX_step 12 (FbF w32 (fun b => loH ≤ b)) (unhide HT32) (by rfl) (float_TF (fun W g => (unhide K32).new g) (fun W g => by have := g.size; have := unhide HZ32; omega)) ?_
  intro d33 x33 w33 hT K hK
  have g33 := hT.1
  have HT33 := hide hT
  clear HT32 hT
  have HZ33 : Hid (loH ≤ w33.heap.size) := by have := g33.size; have := unhide HZ32; unfold Hid; omega
  have K33 := hide ((unhide K32).new g33)
  clear K32
  have W33 := hide ((unhide W32).new g33)
  clear W32
  have Y33 := hide ((unhide Y32).new g33)
  clear Y32
  have RP33 := hide ((unhide RP_32).new g33)
  clear RP_32
  unfold runF
  simp only [Act.put, List.setIfInBounds_toArray, List.set_cons_zero, List.set_cons_succ]
  go_simp
  refine (toOptions q m kd rs co ha w33).mono ?_
  rintro e w34 ⟨rfl, g34⟩
  have HT34 : Hid (FbF w34 (fun b => loH ≤ b) _ _ w34) := (unhide HT33).next g34 (fun b hb _ => hb)
  clear HT33
  have HZ34 : Hid (loH ≤ w34.heap.size) := by have := g34.size; have := unhide HZ33; unfold Hid; omega
  have K34 := hide ((unhide K33).new g34)
  clear K33
  have W34 := hide ((unhide W33).new g34)
  clear W33
  have Y34 := hide ((unhide Y33).new g34)
  clear Y33
  have RP34 := hide ((unhide RP33).new g34)
  clear RP33
  refine hK.out _ _ (unhide K34) ?_
  clear hK K g34
  try simp only [Act.put, List.setIfInBounds_toArray, List.set_cons_zero, List.set_cons_succ]
  refine tailX_step 12 (FbF w34 (fun b => loH ≤ b)) (unhide HT34) (by rfl) (float_TF (fun W g => (unhide K34).new g) (fun W g => by have := g.size; have := unhide HZ34; omega)) ?_
  intro d35 x35 w35 hT K hK
  have g35 := hT.1
  have HT35 := hide hT
  clear HT34 hT
  have HZ35 : Hid (loH ≤ w35.heap.size) := by have := g35.size; have := unhide HZ34; unfold Hid; omega
  have K35 := hide ((unhide K34).new g35)
  clear K34
  have W35 := hide ((unhide W34).new g35)
  clear W34
  have Y35 := hide ((unhide Y34).new g35)
  clear Y34
  have RP35 := hide ((unhide RP34).new g35)
  clear RP34
  unfold runF
  simp only [Act.put, List.setIfInBounds_toArray, List.set_cons_zero, List.set_cons_succ]
  go_simp
  refine (implFrameFor p wd ht to32 n tc32 X q m kd rs co ha w35 HN (unhide RP35) hs ok HOK tc hv HTC HHV P0 Q0 H0 R0 N0 HQ).mono ?_
  rintro e w36 ⟨soH, scH, rfl, o36, g36⟩
  have HT36 : Hid (FbF w36 (fun b => loH ≤ b ∧ ∀ g, (Value.slice soH N0 scH).ownBlock = some g → g ≠ b) _ _ w36) := (unhide HT35).next g36 (fun b hb hlt => ⟨hb, fun g e e2 => by have := (o36.lt g e).1; omega⟩)
  clear HT35
  have HZ36 : Hid (loH ≤ w36.heap.size) := by have := g36.size; have := unhide HZ35; unfold Hid; omega
  have OF := hide (own_base o36 (unhide HZ35))
  have OQ : Hid (∀ g, (Value.slice soH N0 scH).ownBlock = some g → g < w36.heap.size) := fun g e => (o36.lt g e).2
  clear o36
  clear RP35
  have K36 := hide ((unhide K35).new g36)
  clear K35
  have W36 := hide ((unhide W35).new g36)
  clear W35
  have Y36 := hide ((unhide Y35).new g36)
  clear Y35
  refine hK.out _ _ (unhide K36) ?_
  clear hK K g36
  try simp only [Act.put, List.setIfInBounds_toArray, List.set_cons_zero, List.set_cons_succ]
  refine tailX_last 12 (FbF w36 (fun b => loH ≤ b ∧ ∀ g, (Value.slice soH N0 scH).ownBlock = some g → g ≠ b)) (unhide HT36) (by rfl) (float_TF (fun W g => (unhide K36).new g) (fun W g => ⟨by have := g.size; have := unhide HZ36; omega, fun g1 e => by have := unhide OQ g1 e; have := g.size; omega⟩)) ?_
  intro x37 w37 hT K hK
  have g37 := hT.1
  obtain ⟨bH, rfl, hbx, hNb⟩ := hT.2 rfl
  clear hT HT36
  have OF2 := hide (own_grown (unhide OF) g37)
  have HSZ2 := hide g37.size
  have K37 := hide ((unhide K36).new g37)
  clear K36
  have W37 := hide ((unhide W36).new g37)
  clear W36
  have Y37 := hide ((unhide Y36).new g37)
  clear Y36
  have HBX := hide hbx
  have HNB := hide hNb
  clear hbx hNb OF
  unfold runF
  refine step_store_row rfl 45 _ _ rfl bH rfl #[.int .i64 P0, .int .i64 Q0, .int .i64 H0, .int .i64 R0, .slice soH N0 scH] rfl #[.int .i64 0, .int .i64 0, .int .i64 0, .int .i64 0, .slice none 0 0] 45 (unhide HBX) rfl (by kernel_rfl) (by simp [Value.oneCell']) ?_
  intro w38 hB38 gr38
  refine hK.out _ _ ?_
  clear hK K
  refine NoPanic.normal ?_
  try simp only [Act.put]
  have hbb : bH < w37.heap.size := (Array.getElem?_eq_some_iff.1 (unhide HBX)).1
  obtain ⟨hiH, hhiH⟩ : ∃ l, Hid (w37.heap.size = l) := ⟨_, rfl⟩
  have gw38 : Wr [bH] w37 w38 := Wr.ofRow gr38 (fun g e => by have e9 := Option.some.inj e; simp [e9])
  have hlk := unhide hloH
  have hhk := unhide hhiH
  have NBH : Hid (Fo w38 loH hiH bH P0 Q0 H0 R0 soH N0 scH (frC tc hv)) := ⟨hB38, own_sameAt (unhide OF2) (fun x hx => gr38.block x ((unhide OF2).lt x hx).2 (fun e => by have e9 := Option.some.inj e; exact (unhide HNB).2 x hx e9)), ⟨(unhide HNB).1, by omega⟩, fun g e => ⟨by have := unhide OQ g e; have := unhide HSZ2; omega, fun e2 => (unhide HNB).2 g e e2⟩, by have := gr38.size; omega⟩
  have K38 := hide ((unhide K37).wr gw38 (fun x hx => by simp at hx; have := (unhide NBH).hb; have := unhide HLSH; omega))
  clear K37
  have W38 := hide ((unhide W37).wr gw38 (fun x hx => by simp at hx; have := (unhide NBH).hb; have := unhide HLSH; omega))
  clear W37
  have Y38 := hide ((unhide Y37).wr gw38 (fun x hx => by simp at hx; have := (unhide NBH).hb; have := unhide HLSH; omega))
  clear Y37
  clear OF2 OQ HNB HBX HSZ2 hB38 gr38 gw38 hlk hhk hbb
  go_wp2_with (first | (refine load_row rfl 45 _ rfl bH rfl #[.int .i64 P0, .int .i64 Q0, .int .i64 H0, .int .i64 R0, .slice soH N0 scH] 45 (unhide NBH).box _ Try.underlying45 rfl (by kernel_rfl) ?_) | (refine load_row rfl 45 _ rfl bW rfl #[.int .i64 P0, .int .i64 Q0, .int .i64 H0, .int .i64 R0, .slice soW N0 scW] 45 (unhide W38).box _ Try.underlying45 rfl (by kernel_rfl) ?_))
  refine (eqFrame P0 Q0 H0 R0 _ _ N0 _ _ (frC tc hv) w38 (unhide NBH).rd (unhide W38).rd hN0).mono ?_
  rintro e w39 ⟨rfl, g39⟩
  have K39 := hide ((unhide K38).new g39)
  clear K38
  have W39 := hide ((unhide W38).new g39)
  clear W38
  have Y39 := hide ((unhide Y38).new g39)
  clear Y38
  have H39 := hide ((unhide NBH).new g39)
  clear NBH
  clear g39
  go_wp2_with (refine load_row rfl 45 _ rfl bY rfl #[.int .i64 P0, .int .i64 Q0, .int .i64 H0, .int .i64 R0, .slice soY N0 scY] 45 (unhide Y39).box _ Try.underlying45 rfl (by kernel_rfl) ?_)
  refine (heldFrame P0 Q0 H0 R0 _ N0 _ 1 w39 (unhide Y39).rd hN0 (by omega) (by omega)).mono ?_
  rintro e w40 ⟨rfl, g40⟩
  have K40 := hide ((unhide K39).new g40)
  clear K39
  have W40 := hide ((unhide W39).new g40)
  clear W39
  have Y40 := hide ((unhide Y39).new g40)
  clear Y39
  have H40 := hide ((unhide H39).new g40)
  clear H39
  clear g40
  rw [unhide HQK]
  go_wp2
  go_ret
  exact ⟨rfl, grown_below (unhide K40).grown⟩

theorem lawFrameFor (a : Pic) (u : Value) (q m kd rs : Int) (co ha : Bool) (w : World) (hr : RdPz w u a) :
    Calls Try.prog 6 #[u, .agg #[.int .i64 q, .int .i64 m, .int .i64 kd, .int .i64 rs, .bool co, .bool ha]] w fun e w' => e = .returned (.bool true) ∧ Below w.heap.size w w' := by
  obtain ⟨p, wd, ht, X⟩ := a
  obtain ⟨v, rfl, hv⟩ := id hr
  dsimp only at hv hr ⊢
  obtain ⟨xo, xc, rfl, _⟩ := id hv.1
  exact lawFrameForN p wd ht xo X.length xc X q m kd rs co ha w rfl hr

end Go.Proofs.Ytgknninkfdgebaa
