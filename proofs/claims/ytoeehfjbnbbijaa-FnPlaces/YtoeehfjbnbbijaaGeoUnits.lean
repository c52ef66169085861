/-
  How many units there are, in the program.
-/
import Derived.Test.YtoeehfjbnbbijaaGeoComps
import Derived.Test.YtoeehfjbnbbijaaHeldTail
namespace Go.Proofs.Ytoeehfjbnbbijaa
open Go.RowKit

/-- How many units: one component's blocks that are needed, or the frame's units. -/
def countG (wd ht : Int) (n : Nat) (C : Nat → Nat → Int) (cs : List Int) : Int × Int :=
  if cs.length = 1 then (upI (upI (wd * C (cs.getD 0 0).toNat 1) (mostA 1 C 1 n)) 8, upI (upI (ht * C (cs.getD 0 0).toNat 2) (mostA 1 C 2 n)) 8)
  else (upI wd (8 * mostA 1 C 1 n), upI ht (8 * mostA 1 C 2 n))
theorem countG_bounds {wd ht : Int} {n : Nat} {C : Nat → Nat → Int} {cs : List Int} (hg : Geo wd ht n C (mostA 1 C 1 n) (mostA 1 C 2 n)) (hc : okComps n cs = true) : (1 ≤ (countG wd ht n C cs).1 ∧ (countG wd ht n C cs).1 ≤ 1024) ∧ (1 ≤ (countG wd ht n C cs).2 ∧ (countG wd ht n C cs).2 ≤ 1024) := by
  simp only [okComps, Bool.and_eq_true, decide_eq_true_eq] at hc
  obtain ⟨h1, h2⟩ := hc
  obtain ⟨⟨h3, h4⟩, _⟩ := compsTo_at h1 0 (by omega)
  have hwd := hg.wd
  have hht := hg.ht
  have hmh := hg.hb
  have hmv := hg.vb
  unfold countG
  split
  · obtain ⟨c, hcE⟩ := Int.eq_ofNat_of_zero_le h3
    have hcn : c < n := by omega
    rw [hcE, Int.toNat_natCast]
    have P1 := mul_share (a := wd) ⟨hwd.1, by omega⟩ (hg.ch c hcn)
    have P2 := mul_share (a := ht) ⟨hht.1, by omega⟩ (hg.cv c hcn)
    have Q1 := upI_pos P1.1 hmh.1
    have Q2 := upI_pos P2.1 hmv.1
    have R1 := upI_eight (n := upI (wd * C c 1) (mostA 1 C 1 n)) (by omega) (by omega)
    have R2 := upI_eight (n := upI (ht * C c 2) (mostA 1 C 2 n)) (by omega) (by omega)
    exact ⟨R1, R2⟩
  · have R1 := upI_pos (d := 8 * mostA 1 C 1 n) hwd.1 (by omega)
    have R2 := upI_pos (d := 8 * mostA 1 C 2 n) hht.1 (by omega)
    omega

theorem exec_load_row {P : Program} {ev : Operand → Value} {op : Oper} {w : World} (ty : TypeId) (x : Operand) (ho : op.op = .load ty x) (b : Nat) (hx : ev x = .pointer (some ⟨b, 0, none⟩)) (X : Array Value) (t : TypeId) (hb : w.heap[b]? = some (.cells X t (0, 0))) (d : TypeDesc)
    (hu : P.underlying ty = some d) (hd : (match d with | .struct _ | .array _ _ => true | _ => false) = true) (hi : (P.info? ty).map (·.size) = some X.size) : (execOp ev op).run P w = .ok (.value (.agg X)) w := by
  unfold execOp
  simp only [ho, hx, Instr.loadAt, Instr.sureAddr, Sem.run_bind, Sem.run_pure, Result.andThen_ok, run_loadVar_row w b t ty X (0, 0) d hb hu hd hi]

set_option maxRecDepth 20000 in
set_option maxHeartbeats 1600000 in
theorem unitCount (X : Array Value) (p wd ht rs : Int) (n : Nat) (C : Nat → Nat → Int) (hX : Fx X p wd ht rs n C) (hg : Geo wd ht n C (mostA 1 C 1 n) (mostA 1 C 2 n)) (ao : Option Addr) (m cap : Nat) (cs : List Int) (w : World) (hr : Rd .i64 w ao m cs) (hc : okComps n cs = true) :
    Calls Try.prog 55 #[.agg X, .slice ao m cap] w fun e w' => e = .returned (.int .i64 ((countG wd ht n C cs).1 * (countG wd ht n C cs).2)) ∧ w.grownBy w' none := by
  have hml := hr.1
  have hs := hX.size
  have hB := countG_bounds hg hc
  have hc' := hc
  simp only [okComps, Bool.and_eq_true, decide_eq_true_eq] at hc'
  obtain ⟨h1, h2⟩ := hc'
  have hmn := compsTo_len h1
  have hn4 := hg.n4
  obtain ⟨⟨h3, h4⟩, _⟩ := compsTo_at h1 0 (by omega)
  obtain ⟨c, hcE⟩ := Int.eq_ofNat_of_zero_le h3
  have hcn : c < n := by omega
  obtain ⟨wx, hW0⟩ : ∃ wx, w.alloc (.cells X 80) = wx := ⟨_, rfl⟩
  have G0 : w.grownBy wx none := by rw [← hW0]; exact grown_alloc (World.grownBy.refl _ _) _
  have B0 : Hid (wx.heap[w.heap.size]? = some (.cells X 80 (0, 0))) := by rw [← hW0]; exact heap_alloc_new w _
  have hgs : w.heap.size < wx.heap.size := by rw [← hW0]; simp
  have HR := hide (hr.grown G0)
  have HG0 := hide G0
  have HW := hide hW0
  have HX := hide hX
  have HG := hide hg
  have HE : Hid (countG wd ht n C cs = if m = 1 then (upI (upI (wd * C c 1) (mostA 1 C 1 n)) 8, upI (upI (ht * C c 2) (mostA 1 C 2 n)) 8) else (upI wd (8 * mostA 1 C 1 n), upI ht (8 * mostA 1 C 2 n))) := by
    unfold Hid countG; rw [hml, hcE, Int.toNat_natCast]
  have HCE := hide hcE
  have hB0 := unhide B0
  clear hr G0 hW0 hX hg hc h1 h3 h4 hcE
  obtain ⟨a, b, hab⟩ : ∃ a b, countG wd ht n C cs = (a, b) := ⟨_, _, rfl⟩
  rw [hab] at hB HE ⊢
  clear hab
  dsimp only at hB ⊢
  by_cases hm1 : m = 1
  · subst hm1
    rw [if_pos rfl] at HE
    obtain ⟨E1, E2⟩ := Prod.mk.inj (unhide HE)
    have HE1 := hide E1.symm
    have HE2 := hide E2.symm
    clear HE E1 E2
    obtain ⟨bb, off, rfl, hcell⟩ := (unhide HR).2 0 (by omega)
    rw [unhide HCE, Nat.add_zero] at hcell
    go_enter Try.func55, Try.ntmps55
    go_wp2
    rw [unhide HW]
    clear HW
    refine wp_region_noPanic ?_
    refine wp_region_tail (fun w' => w'.heap[w.heap.size]? = some (.cells X 80 (0, 0)) ∧ w'.cell? ⟨bb, off, none⟩ = some (.int .i64 (c : Int))) [true, true, true, true, false, false, false] (by kernel_rfl) (fun _ _ _ _ _ h => h) rfl (by kernel_rfl) ⟨hB0, hcell⟩ ?_
    refine heldF_take (v := .agg X) (Or.inl ⟨by rfl, ?_⟩) ?_
    · intro w' hSw
      exact exec_load_row 80 _ rfl w.heap.size rfl X 80 hSw.1 _ Try.underlying80 rfl (by rw [hs]; kernel_rfl)
    simp only [Act.put, List.setIfInBounds_toArray, List.set_cons_zero, List.set_cons_succ]
    iterate 3
      refine heldF_take (v := ?_) (Or.inl ⟨by rfl, ?_⟩) ?_
      rotate_left 1
      · intro w' hSw
        try dsimp only at hSw
        go_simp
        try with_reducible rfl
      simp only [Act.put, List.setIfInBounds_toArray, List.set_cons_zero, List.set_cons_succ]
    refine heldF_skip (heldF_skip (heldF_skip (heldF_nil ?_)))
    iterate 4 refine tailF_skip ?_
    refine tailF_step (fun K hK => ?_)
    go_simp
    refine (needed X p wd ht rs n C (unhide HX) _ _ (unhide HG) c hcn _ _ a b rfl rfl (unhide HE1) (unhide HE2) _).mono ?_
    rintro e w2 ⟨rfl, g2⟩
    have G2 : wx.grownBy w2 none := grown_trans (grown_drew (World.grownBy.refl _ _)) g2
    refine hK.out _ _ ⟨(G2.block w.heap.size hgs (by simp)).trans hB0, G2.cell hcell (by simp)⟩ ?_
    clear hK K
    refine tailF_step (fun K hK => ?_)
    go_simp
    refine (areaCount a b (by omega) (by omega) _).mono ?_
    rintro e w3 ⟨rfl, g3⟩
    have G3 := grown_trans G2 g3
    refine hK.out _ _ ⟨(G3.block w.heap.size hgs (by simp)).trans hB0, G3.cell hcell (by simp)⟩ ?_
    clear hK K
    refine tailF_step (fun K hK => ?_)
    go_simp
    refine hK.out _ _ ⟨(G3.block w.heap.size hgs (by simp)).trans hB0, G3.cell hcell (by simp)⟩ ?_
    refine tailF_nil (NoPanic.normal ?_)
    clear hK K
    go_wp2
    go_ret
    exact ⟨rfl, grown_trans (unhide HG0) G3⟩
  · rw [if_neg hm1] at HE
    obtain ⟨E1, E2⟩ := Prod.mk.inj (unhide HE)
    have HE1 := hide E1.symm
    have HE2 := hide E2.symm
    have hmI : ((m : Int) == 1) = false := by simp; omega
    clear HE E1 E2
    go_enter Try.func55, Try.ntmps55
    go_wp2_with (first | (rw [unhide HW]; refine wpList_load_row rfl 80 _ rfl w.heap.size rfl X 80 hB0 _ Try.underlying80 rfl (by rw [hs]; kernel_rfl) ?_))
    refine (units X p wd ht rs n C (unhide HX) _ _ (unhide HG) a b (unhide HE1) (unhide HE2) _).mono ?_
    rintro e w2 ⟨rfl, g2⟩
    go_wp2_with fail
    refine (areaCount a b (by omega) (by omega) _).mono ?_
    rintro e w3 ⟨rfl, g3⟩
    go_wp2
    go_ret
    exact ⟨rfl, grown_trans (unhide HG0) (grown_trans g2 g3)⟩

theorem countG_congr {wd ht : Int} {n : Nat} {C D : Nat → Nat → Int} {cs : List Int} (e : ∀ i, i < n → D i = C i) (hc : okComps n cs = true) : countG wd ht n D cs = countG wd ht n C cs := by
  simp only [okComps, Bool.and_eq_true, decide_eq_true_eq] at hc
  obtain ⟨⟨h3, h4⟩, _⟩ := compsTo_at hc.1 0 (by omega)
  unfold countG
  rw [mostA_congr n e, mostA_congr n e, e _ (by omega)]
theorem unitsG_len {wd ht : Int} {n : Nat} {C : Nat → Nat → Int} {cs : List Int} : (unitsG wd ht n C cs).length = (countG wd ht n C cs).2.toNat * (countG wd ht n C cs).1.toNat := by
  unfold unitsG countG
  split
  · rw [r1To_len]
  · rw [rTo_len]
theorem orderG_len {wd ht : Int} {n : Nat} {C : Nat → Nat → Int} {cs : List Int} (hg : Geo wd ht n C (mostA 1 C 1 n) (mostA 1 C 2 n)) (hc : okComps n cs = true) : ((orderG true wd ht n C cs).length : Int) = (countG wd ht n C cs).1 * (countG wd ht n C cs).2 := by
  have hb := countG_bounds hg hc
  rw [orderG, hc]
  simp only [Bool.and_self, if_true]
  rw [unitsG_len, Int.natCast_mul, Int.toNat_of_nonneg (by omega), Int.toNat_of_nonneg (by omega), Int.mul_comm]

set_option maxRecDepth 20000 in
set_option maxHeartbeats 3200000 in
theorem implUnitsOf (p wd ht rs : Int) (ao : Option Addr) (n cap : Nat) (C : Nat → Nat → Int) (w : World) (hr : RdC w ao n C) (hn : n ≤ 4194304) (b : Bool) (HFB : Hid (frameB p wd ht rs n C = b)) (co : Option Addr) (m ccap : Nat) (cs : List Int) (hcs : Rd .i64 w co m cs) (hm : m ≤ 4194304) :
    Calls Try.prog 31 #[.agg #[.int .i64 p, .int .i64 wd, .int .i64 ht, .int .i64 rs, .slice ao n cap], .slice co m ccap] w fun e w' => e = .returned (.int .i64 (orderG b wd ht n C cs).length) ∧ w.grownBy w' none := by
  have HR := hide hr
  have HCS := hide hcs
  have hml := hcs.1
  clear hr hcs
  have G0 : Hid (w.grownBy (w.alloc (.cells #[.int .i64 p, .int .i64 wd, .int .i64 ht, .int .i64 rs, .slice ao n cap] 40)) none) := grown_alloc (World.grownBy.refl _ _) _
  go_enter Try.func31, Try.ntmps31
  go_wp2_with fail
  refine (fixFrame p wd ht rs ao n cap C _ ((unhide HR).grown (unhide G0)) hn b HFB).mono ?_
  generalize (w.alloc (.cells #[.int .i64 p, .int .i64 wd, .int .i64 ht, .int .i64 rs, .slice ao n cap] 40)) = wx at *
  rintro e w1 ⟨X, rfl, h1, h2, g1⟩
  have H1 := hide h1
  have H2 := hide h2
  have G1 := grown_trans (unhide G0) g1
  have hsX : X.size = 21 := by
    cases b
    · rw [h1 rfl]; rfl
    · obtain ⟨D, hF, _⟩ := h2 rfl; exact hF.size
  have HOX : Hid (X.all (·.oneCell') = true) := by
    cases b
    · rw [h1 rfl]; exact fzOne
    · obtain ⟨D, hF, _⟩ := h2 rfl; exact hF.one
  have HB2 := hide (heap_alloc_new w1 (.cells #[.int .i64 0, .int .i64 0, .int .i64 0, .int .i64 0, .int .i64 0, .int .i64 0, .int .i64 0, .int .i64 0, .int .i64 0, .int .i64 0, .int .i64 0, .int .i64 0, .int .i64 0, .int .i64 0, .int .i64 0, .int .i64 0, .int .i64 0, .int .i64 0, .int .i64 0, .int .i64 0, .int .i64 0] 80))
  have HG2 : Hid (w1.grownBy (w1.alloc (.cells #[.int .i64 0, .int .i64 0, .int .i64 0, .int .i64 0, .int .i64 0, .int .i64 0, .int .i64 0, .int .i64 0, .int .i64 0, .int .i64 0, .int .i64 0, .int .i64 0, .int .i64 0, .int .i64 0, .int .i64 0, .int .i64 0, .int .i64 0, .int .i64 0, .int .i64 0, .int .i64 0, .int .i64 0] 80)) none) := grown_alloc (World.grownBy.refl _ _) _
  clear h1 h2 g1
  go_wp2_with (first | (refine wpList_load_row rfl 80 _ rfl w1.heap.size rfl X 80 hB2 _ Try.underlying80 rfl (by rw [hsX]; kernel_rfl) ?_) | (refine wpList_store_row rfl 80 _ _ rfl w1.heap.size rfl X rfl #[.int .i64 0, .int .i64 0, .int .i64 0, .int .i64 0, .int .i64 0, .int .i64 0, .int .i64 0, .int .i64 0, .int .i64 0, .int .i64 0, .int .i64 0, .int .i64 0, .int .i64 0, .int .i64 0, .int .i64 0, .int .i64 0, .int .i64 0, .int .i64 0, .int .i64 0, .int .i64 0, .int .i64 0] 80 (unhide HB2) (by rw [hsX]; rfl) (by rw [hsX]; kernel_rfl) (unhide HOX) ?_; intro w2 hB2 g2))
  have G2 : w.grownBy w2 none := grown_new (grown_trans G1 (unhide HG2)) g2 (fun g e => by simp at e; have := G1.size; omega)
  have hg2 : w1.heap.size < w2.heap.size := (Array.getElem?_eq_some_iff.1 hB2).1
  clear g2 HG2 HB2
  cases b
  · have HL : Hid ((orderG false wd ht n C cs).length = 0) := by simp [Hid, orderG]
    rw [unhide H1 rfl]
    refine (hasComps #[.int .i64 0, .int .i64 0, .int .i64 0, .int .i64 0, .int .i64 0, .int .i64 0, .int .i64 0, .int .i64 0, .int .i64 0, .int .i64 0, .int .i64 0, .int .i64 0, .int .i64 0, .int .i64 0, .int .i64 0, .int .i64 0, .int .i64 0, .int .i64 0, .int .i64 0, .int .i64 0, .int .i64 0] rfl 0 (fun c w => (hasComp_none c w).mono (fun e w' h => by rw [show decide (0 ≤ c ∧ c ≤ ((0 : Nat) : Int) - 1) = false from decide_eq_false (by omega)]; exact h)) co m ccap cs _ ((unhide HCS).grown G2) hm).mono ?_
    rintro e w3 ⟨rfl, g3⟩
    have hf : okComps 0 cs = false := by
      cases hk : okComps 0 cs with
      | false => rfl
      | true =>
        simp only [okComps, Bool.and_eq_true, decide_eq_true_eq] at hk
        have := compsTo_len hk.1
        omega
    rw [hf]
    go_wp2
    go_ret
    exact ⟨by rw [unhide HL]; rfl, grown_trans G2 g3⟩
  · obtain ⟨D, hF, hD⟩ := unhide H2 rfl
    have hG := (geo_of (unhide HFB)).congr hD
    have hn4 := hG.n4
    have hGD : Geo wd ht n D (mostA 1 D 1 n) (mostA 1 D 2 n) := by rw [mostA_congr n hD, mostA_congr n hD]; exact hG
    have HF := hide hF
    have HG := hide hGD
    have HG1 := hide (geo_of (unhide HFB))
    have HD := hide hD
    clear hF hG hGD hD
    refine (hasComps X hsX n (fun c w => hasComp X p wd ht rs n D (unhide HF) hn4 c _ rfl w) co m ccap cs _ ((unhide HCS).grown G2) hm).mono ?_
    rintro e w3 ⟨rfl, g3⟩
    obtain ⟨t, HT⟩ : ∃ t, Hid (okComps n cs = t) := ⟨_, rfl⟩
    rw [unhide HT]
    cases t
    · have HL : Hid ((orderG true wd ht n C cs).length = 0) := by unfold Hid; rw [orderG, unhide HT]; simp
      go_wp2
      go_ret
      exact ⟨by rw [unhide HL]; rfl, grown_trans G2 g3⟩
    · have HL : Hid (((orderG true wd ht n C cs).length : Int) = (countG wd ht n D cs).1 * (countG wd ht n D cs).2) := by
        unfold Hid; rw [orderG_len (unhide HG1) (unhide HT), countG_congr (unhide HD) (unhide HT)]
      have hB3 := (g3.block w1.heap.size hg2 (by simp)).trans hB2
      have G3 := grown_trans G2 g3
      clear hB2 g3
      go_wp2_with (first | (refine wpList_load_row rfl 80 _ rfl w1.heap.size rfl X 80 hB3 _ Try.underlying80 rfl (by rw [hsX]; kernel_rfl) ?_))
      refine (unitCount X p wd ht rs n D (unhide HF) (unhide HG) co m ccap cs _ ((unhide HCS).grown G3) (unhide HT)).mono ?_
      rintro e w4 ⟨rfl, g4⟩
      go_wp2
      go_ret
      exact ⟨by rw [unhide HL]; rfl, grown_trans G3 g4⟩

end Go.Proofs.Ytoeehfjbnbbijaa
