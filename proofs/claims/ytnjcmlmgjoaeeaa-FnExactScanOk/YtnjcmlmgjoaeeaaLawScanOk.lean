/-
  The walk of the law on ScanOk.
-/
import Derived.Test.YtnjcmlmgjoaeeaaScriptGive
import Derived.Test.YtnjcmlmgjoaeeaaScanSpec
import Derived.Test.YtnjcmlmgjoaeeaaHeldLast
namespace Go.Proofs.Ytnjcmlmgjoaeeaa
open Go.RowKit

theorem RdScZ.st {w w' : World} {u : Value} {a : Scn} (h : RdScZ w u a) (g : w.grownBy w' none) : RdScZ w' u a := by
  obtain ⟨v, e, h⟩ := h
  exact ⟨v, e, RdI.st .i64 _ _ _ _ h.1 g, h.2⟩
theorem RdScZ.rd {w : World} {u : Value} {a : Scn} (h : RdScZ w u a) : RdSc w u a := by
  obtain ⟨v, e, h⟩ := h
  exact ⟨v, e, h.1⟩
theorem specScanOkA (p wd ht rs : Int) (fo : Option Addr) (n fc : Nat) (C : Nat → Nat → Int) (w : World) (hr : RdC w fo n C) (hn : n ≤ 4194304) (vo : Option Addr) (vn vc : Nat) (a : Scn) (hv : Rd .i64 w vo vn a.cs) (hvn : vn ≤ 1048576) (fb t : Bool) (HFB : Hid (frameB p wd ht rs n C = fb)) (HT : Hid (scanB fb n a = t)) {cs : List Int} (fr to hi lo : Int) (e : (⟨cs, fr, to, hi, lo⟩ : Scn) = a) :
    Calls Try.prog 20 #[.agg #[.int .i64 p, .int .i64 wd, .int .i64 ht, .int .i64 rs, .slice fo n fc], .agg #[.slice vo vn vc, .int .i64 fr, .int .i64 to, .int .i64 hi, .int .i64 lo]] w fun e w' => e = .returned (.bool t) ∧ w.grownBy w' none := by
  subst e
  exact specScanOk p wd ht rs fo n fc C w hr hn vo vn vc _ hv (by omega) fb t HFB HT

/-- A scan that is read, in a box. -/
structure Bsc (W : World) (b : Nat) (cells : Array Value) (v : Value) (cs : List Int) : Prop where
  box : W.heap[b]? = some (.cells cells 38 (0, 0))
  rd : RdI .i64 W v cs
theorem Bsc.keep {W W' : World} {b : Nat} {cells : Array Value} {v : Value} {cs : List Int} (h : Bsc W b cells v cs) (g : W.grownBy W' none) : Bsc W' b cells v cs := ⟨grown_atT g h.box (by simp), RdI.st .i64 _ _ _ _ h.rd g⟩

/-- What came in, in its two boxes. -/
structure In2s (w W : World) (bs cs : Array Value) : Prop where
  fb : W.heap[w.heap.size]? = some (.cells bs 42 (0, 0))
  cb : W.heap[w.heap.size + 1]? = some (.cells cs 43 (0, 0))
  grown : w.grownBy W none
theorem In2s.new {w W W' : World} {bs cs : Array Value} (h : In2s w W bs cs) (g : W.grownBy W' none) : In2s w W' bs cs := ⟨grown_atT g h.fb (by simp), grown_atT g h.cb (by simp), grown_trans h.grown g⟩
theorem In2s.start (w : World) (bs cs : Array Value) : In2s w ((w.alloc (.cells bs 42)).alloc (.cells cs 43)) bs cs := by
  refine ⟨?_, ?_, grown_alloc (grown_alloc (World.grownBy.refl _ _) _) _⟩
  · rw [Below.heap_alloc _ _ _ (by simp)]
    exact heap_alloc_new w _
  · have := heap_alloc_new (w.alloc (.cells bs 42)) (.cells cs 43)
    simpa using this

set_option maxRecDepth 20000 in
set_option maxHeartbeats 3200000 in
theorem lawScanOk (HI : Hid ImplScanOk) (p wd ht rs : Int) (ao : Option Addr) (n cap : Nat) (C : Nat → Nat → Int) (v : Value) (a : Scn) (w : World) (hr : RdC w ao n C) (hm : n ≤ maxLen) (hx : RdScZ w (scV v a) a) :
    Calls Try.prog 4 #[.agg #[.int .i64 p, .int .i64 wd, .int .i64 ht, .int .i64 rs, .slice ao n cap], scV v a] w fun e w' => e = .returned (.bool true) ∧ Below w.heap.size w w' := by
  unfold maxLen at hm
  obtain ⟨cs, fr, to, hi, lo⟩ := a
  obtain ⟨xo, xc, rfl⟩ : ∃ xo xc, v = .slice xo cs.length xc := by
    obtain ⟨v', e, h⟩ := hx
    obtain ⟨xo, xc, e2, _⟩ := h.1
    have : v = v' := by simpa [scV] using e
    exact ⟨xo, xc, this.trans e2⟩
  obtain ⟨m, HM⟩ : ∃ m, Hid (cs.length = m) := ⟨_, rfl⟩
  rw [unhide HM] at hx ⊢
  have HR := hide hr
  have HX := hide hx
  obtain ⟨a, HA⟩ : ∃ a, Hid ((⟨cs, fr, to, hi, lo⟩ : Scn) = a) := ⟨_, rfl⟩
  have hsc : ∀ v', scV v' a = .agg #[v', .int .i64 fr, .int .i64 to, .int .i64 hi, .int .i64 lo] := fun v' => by rw [← unhide HA]; rfl
  have hac : a.cs = cs := by rw [← unhide HA]
  rw [unhide HA] at HX ⊢
  rw [hsc] at HX ⊢
  have HSC := hide hsc
  have HAC := hide hac
  clear hr hx hsc hac
  obtain ⟨fb, HFB⟩ : ∃ fb, Hid (frameB p wd ht rs n C = fb) := ⟨_, rfl⟩
  obtain ⟨b, HB⟩ : ∃ b, Hid (scanB fb n a = b) := ⟨_, rfl⟩
  have I0 := hide (In2s.start w #[.int .i64 p, .int .i64 wd, .int .i64 ht, .int .i64 rs, .slice ao n cap] #[.slice xo m xc, .int .i64 fr, .int .i64 to, .int .i64 hi, .int .i64 lo])
  have c0 := scanCells (unhide I0).cb
  have ca := frameCells (unhide I0).fb
  by_cases hbig : (n : Int) ≤ 1048576
  · obtain ⟨lf, hlf⟩ : ∃ lf : Nat, (1048576 : Int) - (n : Int) = (lf : Int) := ⟨1048576 - n, by omega⟩
    have HSZ : Hid ((if (n : Int) ≤ 1048576 then 1048576 - (n : Int) else -1) = (lf : Int)) := (if_pos hbig).trans hlf
    have hneg : decide ((lf : Int) < 0) = false := decide_eq_false (by omega)
    have hn : n ≤ 4194304 := by omega
    have hl1 : lf ≤ 1048576 := by omega
    clear hlf
    by_cases hsz : szSc a ≤ lf
    · obtain ⟨r, HR2⟩ : ∃ r : Int, Hid ((if szSc a ≤ lf then (lf : Int) - szSc a else -1) = r) := ⟨_, rfl⟩
      have hr2 : decide (r < 0) = false := decide_eq_false (by have := unhide HR2; rw [if_pos hsz] at this; omega)
      have hs : szSc a ≤ 1048576 := by omega
      have hbb : (b != b) = false := by simp
      go_enter Try.func4, Try.ntmps4
      go_wp2_with fail
      generalize ((w.alloc (.cells #[.int .i64 p, .int .i64 wd, .int .i64 ht, .int .i64 rs, .slice ao n cap] 42)).alloc (.cells #[.slice xo m xc, .int .i64 fr, .int .i64 to, .int .i64 hi, .int .i64 lo] 43)) = wx at *
      refine (szFrame p wd ht rs ao n cap 1048576 _ wx (by omega) (by omega) (by omega) HSZ).mono ?_
      rintro e w1 ⟨rfl, g1⟩
      have I1 := hide ((unhide I0).new g1)
      clear c0 ca g1 I0
      have c0 := scanCells (unhide I1).cb
      go_wp2_with fail
      refine (szScanC w1 _ a lf (RdScZ.st (unhide HX) (unhide I1).grown) hl1 r HR2).mono ?_
      rintro e w2 ⟨rfl, g2⟩
      have I2 := hide ((unhide I1).new g2)
      clear c0 g2 I1
      go_wp2
      refine wp_region_noPanic ?_
      refine wp_region_tailL 20 (fun W => In2s w W #[.int .i64 p, .int .i64 wd, .int .i64 ht, .int .i64 rs, .slice ao n cap] #[.slice xo m xc, .int .i64 fr, .int .i64 to, .int .i64 hi, .int .i64 lo]) [true, false, true, false, false, false] (by kernel_rfl) (fun _ _ _ _ _ h => h) rfl (by decide) (by kernel_rfl) ((unhide I2).new (grown_drew (World.grownBy.refl _ _))) ?_
      have I3 := hide ((unhide I2).new (grown_drew (World.grownBy.refl _ _)))
      clear I2
      generalize w2.drew = w3 at *
      refine heldF_take (v := ?_) (Or.inl ⟨by rfl, ?_⟩) ?_
      rotate_left 1
      · intro w' hSw
        try dsimp only at hSw
        have s1 := frameCells hSw.fb
        go_simp
        try with_reducible rfl
      simp only [Act.put, List.setIfInBounds_toArray, List.set_cons_zero, List.set_cons_succ]
      refine heldF_skip ?_
      refine heldF_take (v := ?_) (Or.inl ⟨by rfl, ?_⟩) ?_
      rotate_left 1
      · intro w' hSw
        try dsimp only at hSw
        have s1 := scanCells hSw.cb
        go_simp
        try with_reducible rfl
      simp only [Act.put, List.setIfInBounds_toArray, List.set_cons_zero, List.set_cons_succ]
      refine heldF_skip (heldF_skip (heldF_skip (heldF_nil ?_)))
      refine tailL_skip (tailL_step (fun K hK => ?_))
      go_simp
      refine (toFrame p wd ht rs ao n cap C w3 ((unhide HR).grown (unhide I3).grown) hn).mono ?_
      rintro e w4 ⟨q1, rfl, o4, g4⟩
      have I4 := hide ((unhide I3).new g4)
      have RF := hide (own_rdC o4)
      clear I3 g4 o4
      go_simp
      refine hK.out _ _ (.inr (unhide I4)) ?_
      clear hK K
      refine tailL_skip (tailL_step (fun K hK => ?_))
      go_simp
      refine (toScanC w4 _ a (RdScZ.rd (RdScZ.st (unhide HX) (unhide I4).grown)) hs).mono ?_
      rintro e w5 ⟨u5, F5, rfl, o5, n5, l5, g5⟩
      obtain ⟨v5, rfl, o5⟩ := o5
      obtain ⟨vo, vc, rfl⟩ := own_form o5.1
      rw [unhide HAC, unhide HM] at o5 ⊢
      rw [unhide HSC]
      have I5 := hide ((unhide I4).new g5)
      have RF5 := hide ((unhide RF).grown g5)
      have RX5 : Hid (Rd .i64 w5 vo m a.cs) := by
        unfold Hid
        rw [unhide HAC]
        obtain ⟨a', c', e', r'⟩ := OwI.rd o5
        rw [unhide HM] at r' e'
        obtain ⟨rfl, rfl⟩ : vo = a' ∧ vc = c' := by simpa using e'
        exact r'
      clear I4 g5 o5 n5 l5 RF
      go_simp
      refine hK.out _ _ (.inr (unhide I5)) ?_
      clear hK K
      refine tailL_step (fun K hK => ?_)
      go_simp
      refine (specScanOkA p wd ht rs _ n n C w5 (unhide RF5) hn vo m vc a (unhide RX5) (by have h9 := hs; have h8 := unhide HM; have h7 : szSc a = a.cs.length := rfl; rw [unhide HAC] at h7; omega) fb b HFB HB fr to hi lo (unhide HA)).mono ?_
      rintro e w6 ⟨rfl, g6⟩
      have I6 := hide ((unhide I5).new g6)
      clear I5 RF5 RX5 g6
      go_simp
      refine hK.out _ _ (.inr (unhide I6)) ?_
      clear hK K
      refine tailL_step (fun K hK => ?_)
      go_simp
      refine hK.out _ _ (.inl rfl) ?_
      clear hK K
      refine tailL_nil (NoPanic.normal ?_)
      have ca := frameCells (unhide I6).fb
      go_wp2_with fail
      refine (toFrame p wd ht rs ao n cap C w6 ((unhide HR).grown (unhide I6).grown) hn).mono ?_
      rintro e w7 ⟨q2, rfl, o7, g7⟩
      have g8 := grown_alloc g7 (.cells #[.int .i64 p, .int .i64 wd, .int .i64 ht, .int .i64 rs, .slice (some ⟨q2, 0, none⟩) n n] 26)
      have I8 := hide ((unhide I6).new g8)
      have HF8 := hide (Bf.new o7 p wd ht rs)
      have c0 := scanCells (unhide I8).cb
      clear ca g7 g8 o7 I6
      go_wp2_with fail
      generalize (w7.alloc (.cells #[.int .i64 p, .int .i64 wd, .int .i64 ht, .int .i64 rs, .slice (some ⟨q2, 0, none⟩) n n] 26)) = w8 at *
      refine (toScanC w8 _ a (RdScZ.rd (RdScZ.st (unhide HX) (unhide I8).grown)) hs).mono ?_
      rintro e w9 ⟨u9, F9, rfl, o9, n9, l9, g9⟩
      obtain ⟨v9, rfl, o9⟩ := o9
      obtain ⟨yo, yc, rfl⟩ := own_form o9.1
      rw [unhide HAC, unhide HM] at o9 ⊢
      rw [unhide HSC]
      have ga := grown_alloc g9 (.cells #[.slice yo m yc, .int .i64 fr, .int .i64 to, .int .i64 hi, .int .i64 lo] 38)
      have Ia := hide ((unhide I8).new ga)
      have HFa := hide ((unhide HF8).keep ga)
      have HCa : Hid (Bsc (w9.alloc (.cells #[.slice yo m yc, .int .i64 fr, .int .i64 to, .int .i64 hi, .int .i64 lo] 38)) w9.heap.size #[.slice yo m yc, .int .i64 fr, .int .i64 to, .int .i64 hi, .int .i64 lo] (.slice yo m yc) cs) := ⟨heap_alloc_new w9 _, (OwI.rd o9 |> fun h => RdI.st .i64 _ _ _ _ h (World.grownBy_alloc _ _ _))⟩
      have cx := frameCells (unhide HFa).box
      have cy := scanCells (unhide HCa).box
      clear c0 g9 ga o9 n9 l9 I8 HF8
      go_wp2_with fail
      generalize (w9.alloc (.cells #[.slice yo m yc, .int .i64 fr, .int .i64 to, .int .i64 hi, .int .i64 lo] 38)) = wa at *
      have r9 : Rd .i64 wa yo m a.cs := by
        rw [unhide HAC]
        obtain ⟨a', c', e', r'⟩ := (unhide HCa).rd
        rw [unhide HM] at r' e'
        obtain ⟨rfl, rfl⟩ : yo = a' ∧ yc = c' := by simpa using e'
        exact r'
      have HIA := unhide HI p wd ht rs _ n n C yo m yc a wa (unhide HFa).rd hn r9 (by have h9 := hs; have h8 := unhide HM; have h7 : szSc a = a.cs.length := rfl; rw [unhide HAC] at h7; omega) fb b HFB HB
      rw [← unhide HA] at HIA
      refine HIA.mono ?_
      rintro e wb ⟨rfl, gb⟩
      have Ib := hide ((unhide Ia).new gb)
      have HFb := hide ((unhide HFa).keep gb)
      have HCb := hide ((unhide HCa).keep gb)
      clear cx cy HIA r9 gb Ia HFa HCa
      go_wp2
      refine wp_region_noPanic ?_
      have gd := grown_drew (World.grownBy.refl wb none)
      have Ic := hide ((unhide Ib).new gd)
      have HFc := hide ((unhide HFb).keep gd)
      have HCc := hide ((unhide HCb).keep gd)
      clear gd Ib HFb HCb
      refine wp_region_tailL 20 (fun W => In2s w W #[.int .i64 p, .int .i64 wd, .int .i64 ht, .int .i64 rs, .slice ao n cap] #[.slice xo m xc, .int .i64 fr, .int .i64 to, .int .i64 hi, .int .i64 lo] ∧ Bf W w7.heap.size p wd ht rs q2 n w6.heap.size C) [true, true, false, false, false] (by kernel_rfl) (fun _ _ _ _ _ h => h) rfl (by decide) (by kernel_rfl) ⟨unhide Ic, unhide HFc⟩ ?_
      generalize wb.drew = wc1 at *
      refine heldF_take (v := ?_) (Or.inl ⟨by rfl, ?_⟩) ?_
      rotate_left 1
      · intro w' hSw
        try dsimp only at hSw
        have s1 := frameCells hSw.2.box
        go_simp
        try with_reducible rfl
      simp only [Act.put, List.setIfInBounds_toArray, List.set_cons_zero, List.set_cons_succ]
      refine heldF_take (v := ?_) (Or.inl ⟨by rfl, ?_⟩) ?_
      rotate_left 1
      · intro w' hSw
        try dsimp only at hSw
        have s1 := frameCells hSw.1.fb
        go_simp
        try with_reducible rfl
      simp only [Act.put, List.setIfInBounds_toArray, List.set_cons_zero, List.set_cons_succ]
      refine heldF_skip (heldF_skip (heldF_skip (heldF_nil ?_)))
      refine tailL_skip (tailL_skip (tailL_step (fun K hK => ?_)))
      go_simp
      refine (toFrame p wd ht rs ao n cap C wc1 ((unhide HR).grown (unhide Ic).grown) hn).mono ?_
      rintro e wd1 ⟨q3, rfl, od, gd⟩
      have Id := hide ((unhide Ic).new gd)
      have HFd := hide ((unhide HFc).keep gd)
      have HCd := hide ((unhide HCc).keep gd)
      have RD := hide (own_rdC od)
      clear Ic HFc HCc gd od
      go_simp
      refine hK.out _ _ (.inr ⟨unhide Id, unhide HFd⟩) ?_
      clear hK K
      refine tailL_step (fun K hK => ?_)
      go_simp
      refine (eqFrame p wd ht rs _ _ n n n C wd1 (unhide HFd).rd (unhide RD) hn).mono ?_
      rintro e we ⟨rfl, ge⟩
      have Ie := hide ((unhide Id).new ge)
      have HFe := hide ((unhide HFd).keep ge)
      have HCe := hide ((unhide HCd).keep ge)
      clear Id HFd HCd ge RD
      go_simp
      refine hK.out _ _ (.inr ⟨unhide Ie, unhide HFe⟩) ?_
      clear hK K
      refine tailL_step (fun K hK => ?_)
      go_simp
      refine hK.out _ _ (.inl rfl) ?_
      clear hK K HFe
      refine tailL_nil (NoPanic.normal ?_)
      go_wp2
      refine wp_region_noPanic ?_
      have gd := grown_drew (World.grownBy.refl we none)
      have If := hide ((unhide Ie).new gd)
      have HCf := hide ((unhide HCe).keep gd)
      clear gd Ie HCe
      refine wp_region_tailL 20 (fun W => In2s w W #[.int .i64 p, .int .i64 wd, .int .i64 ht, .int .i64 rs, .slice ao n cap] #[.slice xo m xc, .int .i64 fr, .int .i64 to, .int .i64 hi, .int .i64 lo] ∧ W.heap[w9.heap.size]? = some (.cells #[.slice yo m yc, .int .i64 fr, .int .i64 to, .int .i64 hi, .int .i64 lo] 38 (0, 0))) [true, true, false, false, false] (by kernel_rfl) (fun _ _ _ _ _ h => h) rfl (by decide) (by kernel_rfl) ⟨unhide If, (unhide HCf).box⟩ ?_
      generalize we.drew = wf at *
      refine heldF_take (v := ?_) (Or.inl ⟨by rfl, ?_⟩) ?_
      rotate_left 1
      · intro w' hSw
        try dsimp only at hSw
        have s1 := scanCells hSw.2
        go_simp
        try with_reducible rfl
      simp only [Act.put, List.setIfInBounds_toArray, List.set_cons_zero, List.set_cons_succ]
      refine heldF_take (v := ?_) (Or.inl ⟨by rfl, ?_⟩) ?_
      rotate_left 1
      · intro w' hSw
        try dsimp only at hSw
        have s1 := scanCells hSw.1.cb
        go_simp
        try with_reducible rfl
      simp only [Act.put, List.setIfInBounds_toArray, List.set_cons_zero, List.set_cons_succ]
      refine heldF_skip (heldF_skip (heldF_skip (heldF_nil ?_)))
      refine tailL_skip (tailL_skip (tailL_step (fun K hK => ?_)))
      go_simp
      refine (toScanC wf _ a (RdScZ.rd (RdScZ.st (unhide HX) (unhide If).grown)) hs).mono ?_
      rintro e wg ⟨ug, Fg, rfl, og, ng, lg, gg⟩
      obtain ⟨vg, rfl, og⟩ := og
      obtain ⟨zo, zc, rfl⟩ := own_form og.1
      rw [unhide HAC, unhide HM] at og ⊢
      rw [unhide HSC]
      have Ig := hide ((unhide If).new gg)
      have HCg := hide ((unhide HCf).keep gg)
      have OG : Hid (RdSc wg (.agg #[.slice zo m zc, .int .i64 fr, .int .i64 to, .int .i64 hi, .int .i64 lo]) a) := ⟨_, (unhide HSC _).symm, by rw [unhide HAC]; exact OwI.rd og⟩
      clear If HCf gg og ng lg
      go_simp
      refine hK.out _ _ (.inr ⟨unhide Ig, (unhide HCg).box⟩) ?_
      clear hK K
      refine tailL_step (fun K hK => ?_)
      go_simp
      refine (eqScanC wg _ _ a ⟨_, (unhide HSC _).symm, by rw [unhide HAC]; exact (unhide HCg).rd⟩ (unhide OG) hs).mono ?_
      rintro e wh ⟨rfl, gh⟩
      have Ih := hide ((unhide Ig).new gh)
      have HCh := hide ((unhide HCg).keep gh)
      clear Ig HCg gh OG
      go_simp
      refine hK.out _ _ (.inr ⟨unhide Ih, (unhide HCh).box⟩) ?_
      clear hK K
      refine tailL_step (fun K hK => ?_)
      go_simp
      refine hK.out _ _ (.inl rfl) ?_
      clear hK K
      refine tailL_nil (NoPanic.normal ?_)
      go_wp2
      go_ret
      exact ⟨rfl, grown_below (unhide Ih).grown⟩
    · obtain ⟨r, HR2⟩ : ∃ r : Int, Hid ((if szSc a ≤ lf then (lf : Int) - szSc a else -1) = r) := ⟨_, rfl⟩
      have hr2 : decide (r < 0) = true := decide_eq_true (by have := unhide HR2; rw [if_neg hsz] at this; omega)
      go_enter Try.func4, Try.ntmps4
      go_wp2_with fail
      generalize ((w.alloc (.cells #[.int .i64 p, .int .i64 wd, .int .i64 ht, .int .i64 rs, .slice ao n cap] 42)).alloc (.cells #[.slice xo m xc, .int .i64 fr, .int .i64 to, .int .i64 hi, .int .i64 lo] 43)) = wx at *
      refine (szFrame p wd ht rs ao n cap 1048576 _ wx (by omega) (by omega) (by omega) HSZ).mono ?_
      rintro e w1 ⟨rfl, g1⟩
      have I1 := hide ((unhide I0).new g1)
      clear c0 ca g1 I0
      have c0 := scanCells (unhide I1).cb
      go_wp2_with fail
      refine (szScanC w1 _ a lf (RdScZ.st (unhide HX) (unhide I1).grown) hl1 r HR2).mono ?_
      rintro e w2 ⟨rfl, g2⟩
      have I2 := hide ((unhide I1).new g2)
      clear c0 g2 I1
      go_wp2
      go_ret
      exact ⟨rfl, grown_below (unhide I2).grown⟩
  · have HSZ : Hid ((if (n : Int) ≤ 1048576 then 1048576 - (n : Int) else -1) = -1) := if_neg hbig
    go_enter Try.func4, Try.ntmps4
    go_wp2_with fail
    generalize ((w.alloc (.cells #[.int .i64 p, .int .i64 wd, .int .i64 ht, .int .i64 rs, .slice ao n cap] 42)).alloc (.cells #[.slice xo m xc, .int .i64 fr, .int .i64 to, .int .i64 hi, .int .i64 lo] 43)) = wx at *
    refine (szFrame p wd ht rs ao n cap 1048576 _ wx (by omega) (by omega) (by omega) HSZ).mono ?_
    rintro e w1 ⟨rfl, g1⟩
    have I1 := hide ((unhide I0).new g1)
    clear c0 ca g1 I0
    go_wp2
    go_ret
    exact ⟨rfl, grown_below (unhide I1).grown⟩

end Go.Proofs.Ytnjcmlmgjoaeeaa
