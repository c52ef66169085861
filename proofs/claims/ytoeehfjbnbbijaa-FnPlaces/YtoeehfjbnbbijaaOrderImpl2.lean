/-
  OrderOf in the program.
-/
import Derived.Test.YtoeehfjbnbbijaaOrderImpl
import Derived.Test.YtoeehfjbnbbijaaGeoOrderSpec
namespace Go.Proofs.Ytoeehfjbnbbijaa
open Go.RowKit Go.Shelf

attribute [local go_sem] Oper.semAt_some

theorem step_make_own {P : Program} {o : Oper} {a : Act} {w : World} {K : Act → World → Prop} {Q : Exit → Act → World → Prop} {t0 : Bool} {Z : Prop} (hw : t0 = true) (l c : Operand) (t : TypeId) (hop : o.op = Op.makeSlice t l c)
    (base : Nat) (e : TypeId) (i : TypeInfo) (z : Value) (size : Nat) (h1 : P.underlying t = some (.slice e)) (h2 : P.info? e = some i) (h3 : i.zero = some z) (h4 : i.size = size)
    (kl kc : IntKind) (n : Nat) (hl : a.eval l = .int kl 0) (hc : a.eval c = .int kc (n : Int)) (b2 : i.bytes * n ≤ 281474976710656) (b3 : n ≤ maxLen) (b4 : base ≤ w.heap.size)
    (h : ∀ w', w'.ownsRow base e size (.slice (some ⟨w.heap.size, 0, none⟩) 0 n) 0 [] → w.grownBy w' none → K (a.put o.dst (.slice (some ⟨w.heap.size, 0, none⟩) 0 n)) w') : if t0 = true then Oper.wp P o a w K Q else Z := by
  rw [if_pos hw]
  obtain ⟨w', hrun, r1, r2⟩ := run_make_own (P := P) w base t e i z size h1 h2 h3 h4 kl kc n b2 b3 b4
  unfold Oper.wp
  simp [execOp, hop, hl, hc, hrun, Result.andThen]
  exact h w' r1 r2

theorem iTo_congr {C E : Nat → Nat → Int} {n : Nat} {cs : List Int} {m : Nat} (hc : compsTo n cs m = true) (e : ∀ i, i < n → E i = C i) (r k : Nat) : ∀ i, i ≤ m → iTo E cs r k i = iTo C cs r k i
  | 0, _ => rfl
  | i + 1, h => by
    obtain ⟨⟨h0, h1⟩, _⟩ := compsTo_at hc i (by omega)
    simp only [iTo]
    rw [iTo_congr hc e r k i (by omega), e (cs.getD i 0).toNat (by omega)]
theorem kTo_congr {C E : Nat → Nat → Int} {n : Nat} {cs : List Int} (hc : compsTo n cs cs.length = true) (e : ∀ i, i < n → E i = C i) (r : Nat) : ∀ k, kTo E cs r k = kTo C cs r k
  | 0 => rfl
  | k + 1 => by simp only [kTo]; rw [kTo_congr hc e r k, iTo_congr hc e r k _ (Nat.le_refl _)]
theorem rTo_congr {C E : Nat → Nat → Int} {n : Nat} {cs : List Int} (hc : compsTo n cs cs.length = true) (e : ∀ i, i < n → E i = C i) (W : Nat) : ∀ r, rTo E cs W r = rTo C cs W r
  | 0 => rfl
  | r + 1 => by simp only [rTo]; rw [rTo_congr hc e W r, kTo_congr hc e]
theorem unitsG_congr {wd ht : Int} {n : Nat} {C E : Nat → Nat → Int} {cs : List Int} (e : ∀ i, i < n → E i = C i) (hc : okComps n cs = true) : unitsG wd ht n E cs = unitsG wd ht n C cs := by
  simp only [okComps, Bool.and_eq_true, decide_eq_true_eq] at hc
  obtain ⟨⟨h3, h4⟩, _⟩ := compsTo_at hc.1 0 (by omega)
  unfold unitsG
  rw [mostA_congr n e, mostA_congr n e, e _ (by omega)]
  split
  · rfl
  · rw [rTo_congr hc.1 e]

set_option maxRecDepth 20000 in
set_option maxHeartbeats 6400000 in
theorem implOrder_yes (p wd ht rs : Int) (ao : Option Addr) (n cap : Nat) (C : Nat → Nat → Int) (w : World) (hr : RdC w ao n C) (hn : n ≤ 4194304) (HFB : Hid (frameB p wd ht rs n C = true)) (co : Option Addr) (m ccap : Nat) (cs : List Int) (hcs : Rd .i64 w co m cs) (hm : m ≤ 4194304) (HT : Hid (okComps n cs = true)) :
    Calls Try.prog 29 #[.agg #[.int .i64 p, .int .i64 wd, .int .i64 ht, .int .i64 rs, .slice ao n cap], .slice co m ccap] w fun e w' => ∃ x, e = .returned x ∧ w'.ownsRow w.heap.size 57 3 x (unitsG wd ht n C cs).flatten.length (plCells (unitsG wd ht n C cs).flatten) ∧ w.grownBy w' none := by
  have HR := hide hr
  have HCS := hide hcs
  have hml := hcs.1
  clear hr hcs
  have G0 : Hid (w.grownBy (w.alloc (.cells #[.int .i64 p, .int .i64 wd, .int .i64 ht, .int .i64 rs, .slice ao n cap] 40)) none) := grown_alloc (World.grownBy.refl _ _) _
  refine (callsIn_wide (n := 0)).1 ?_
  refine callsIn_of_wp_marks Try.func29 rfl trivial ?_ rfl
  refine wpIn_wide.2 ?_
  simp only [Try.ntmps29, List.size_toArray, List.length_cons, List.length_nil, Nat.reduceAdd, Nat.reduceSub, Array.replicate_succ, Array.replicate_zero, List.push_toArray, List.append_toArray, List.nil_append, List.cons_append]
  go_wp2_with fail
  refine (fixFrame p wd ht rs ao n cap C _ ((unhide HR).grown (unhide G0)) hn true HFB).mono ?_
  generalize (w.alloc (.cells #[.int .i64 p, .int .i64 wd, .int .i64 ht, .int .i64 rs, .slice ao n cap] 40)) = wx at *
  rintro e w1 ⟨X, rfl, h1, h2, g1⟩
  obtain ⟨D, hF, hD⟩ := h2 rfl
  have G1 := grown_trans (unhide G0) g1
  have hsX : X.size = 21 := hF.size
  have HOX : Hid (X.all (·.oneCell') = true) := hF.one
  have HB2 := hide (heap_alloc_new w1 (.cells #[.int .i64 0, .int .i64 0, .int .i64 0, .int .i64 0, .int .i64 0, .int .i64 0, .int .i64 0, .int .i64 0, .int .i64 0, .int .i64 0, .int .i64 0, .int .i64 0, .int .i64 0, .int .i64 0, .int .i64 0, .int .i64 0, .int .i64 0, .int .i64 0, .int .i64 0, .int .i64 0, .int .i64 0] 80))
  have HG2 : Hid (w1.grownBy (w1.alloc (.cells #[.int .i64 0, .int .i64 0, .int .i64 0, .int .i64 0, .int .i64 0, .int .i64 0, .int .i64 0, .int .i64 0, .int .i64 0, .int .i64 0, .int .i64 0, .int .i64 0, .int .i64 0, .int .i64 0, .int .i64 0, .int .i64 0, .int .i64 0, .int .i64 0, .int .i64 0, .int .i64 0, .int .i64 0] 80)) none) := grown_alloc (World.grownBy.refl _ _) _
  have HF := hide hF
  have HD := hide hD
  clear h1 h2 g1 hF hD
  go_wp2_with (first | (refine wpList_load_row rfl 80 _ rfl w1.heap.size rfl X 80 hB2 _ Try.underlying80 rfl (by rw [hsX]; kernel_rfl) ?_) | (refine wpList_store_row rfl 80 _ _ rfl w1.heap.size rfl X rfl #[.int .i64 0, .int .i64 0, .int .i64 0, .int .i64 0, .int .i64 0, .int .i64 0, .int .i64 0, .int .i64 0, .int .i64 0, .int .i64 0, .int .i64 0, .int .i64 0, .int .i64 0, .int .i64 0, .int .i64 0, .int .i64 0, .int .i64 0, .int .i64 0, .int .i64 0, .int .i64 0, .int .i64 0] 80 (unhide HB2) (by rw [hsX]; rfl) (by rw [hsX]; kernel_rfl) (unhide HOX) ?_; intro w2 hB2 g2))
  have G2 : w.grownBy w2 none := grown_new (grown_trans G1 (unhide HG2)) g2 (fun g e => by simp at e; have := G1.size; omega)
  have hg2 : w1.heap.size < w2.heap.size := (Array.getElem?_eq_some_iff.1 hB2).1
  clear g2 HG2 HB2
  have hG := (geo_of (unhide HFB)).congr (unhide HD)
  have hn4 := hG.n4
  have hGD : Geo wd ht n D (mostA 1 D 1 n) (mostA 1 D 2 n) := by rw [mostA_congr n (unhide HD), mostA_congr n (unhide HD)]; exact hG
  have HG := hide hGD
  clear hG hGD
  refine (hasComps X hsX n (fun c w => hasComp X p wd ht rs n D (unhide HF) hn4 c _ rfl w) co m ccap cs _ ((unhide HCS).grown G2) hm).mono ?_
  rintro e w3 ⟨rfl, g3⟩
  rw [unhide HT]
  have hB3 := (g3.block w1.heap.size hg2 (by simp)).trans hB2
  have G3 := grown_trans G2 g3
  have s3 := g3.size
  clear hB2 g3 G2
  -- FROM HERE
  obtain ⟨cb, coff, rfl, _⟩ := (unhide HCS).2 0 (by
    have h := unhide HT
    simp only [okComps, Bool.and_eq_true, decide_eq_true_eq] at h
    omega)
  have hcb : cb < w.heap.size := (unhide HCS).lt (by
    have h := unhide HT
    simp only [okComps, Bool.and_eq_true, decide_eq_true_eq] at h
    omega) cb coff rfl
  have hCB := countG_bounds (unhide HG) (unhide HT)
  obtain ⟨CN, HCN⟩ : ∃ CN, Hid ((countG wd ht n D cs).1 * (countG wd ht n D cs).2 = CN) := ⟨_, rfl⟩
  obtain ⟨BN, HBN⟩ : ∃ BN, Hid ((blkN D cs : Int) = BN) := ⟨_, rfl⟩
  obtain ⟨N, HN⟩ : ∃ N, Hid ((unitsG wd ht n D cs).flatten.length = N) := ⟨_, rfl⟩
  have HCBN : Hid (CN * BN = (N : Int)) := by
    unfold Hid
    rw [← unhide HN, units_flen, ← unhide HCN, ← unhide HBN, Int.natCast_mul, Int.natCast_mul, Int.toNat_of_nonneg (by omega), Int.toNat_of_nonneg (by omega), Int.mul_comm (countG wd ht n D cs).2]
  have hNb : N ≤ 67108864 := by
    have hb : blkN D cs ≤ 64 := by
      have h := unhide HT
      simp only [okComps, Bool.and_eq_true, decide_eq_true_eq] at h
      have h1 := blkTo_le (unhide HG) h.1 cs.length (Nat.le_refl _)
      have h2 := compsTo_len h.1
      unfold blkN
      split <;> omega
    rw [← unhide HN, units_flen]
    have h3 : (countG wd ht n D cs).2.toNat * (countG wd ht n D cs).1.toNat ≤ 1024 * 1024 := Nat.mul_le_mul (by omega) (by omega)
    have h4 := Nat.mul_le_mul h3 hb
    omega
  obtain ⟨iP, hiP, hzP, hsP, hbP⟩ := info_parts Try.info57
  clear hCB
  go_wp2
  rename_i K hK
  have REST : Hid (∀ (R B : Nat) (Wx : World), w3.heap.size ≤ R → w3.heap.size ≤ B → R ≠ B → Wx.heap[B]? = some (.cells #[.slice (some ⟨R, 0, none⟩) 0 N] 49 (0, 0)) → Wx.ownsRow w3.heap.size 57 3 (.slice (some ⟨R, 0, none⟩) 0 N) 0 [] → Wx.heap[w1.heap.size]? = some (.cells X 80 (0, 0)) → w3.grownBy Wx none →
      K { tmps := #[.agg #[.int .i64 p, .int .i64 wd, .int .i64 ht, .int .i64 rs, .slice ao n cap], .slice (some ⟨cb, coff, none⟩) m ccap, .pointer (some ⟨w.heap.size, 0, none⟩), undef, .slice none 0 0, .pointer (some ⟨w1.heap.size, 0, none⟩), .pointer (some ⟨B, 0, none⟩), undef, .agg #[.int .i64 p, .int .i64 wd, .int .i64 ht, .int .i64 rs, .slice ao n cap], .agg X, .agg X, .slice (some ⟨cb, coff, none⟩) m ccap, .bool true, .bool false, .agg X, .slice (some ⟨cb, coff, none⟩) m ccap, .int .i64 CN, .agg X, .slice (some ⟨cb, coff, none⟩) m ccap, .int .i64 BN, .int .i64 (N : Int), .slice (some ⟨R, 0, none⟩) 0 N, undef, undef, undef, undef, undef, undef, undef, undef, undef], defers := [] } Wx) := by
    intro R B Wx hR3 hB3' hRB hBx hOwn hXx g3x
    refine hK _ _ ?_
    clear hK hB3
    have HBx := hide hBx
    have HOwn := hide hOwn
    have sR : R < Wx.heap.size := (hOwn.lt R rfl).2
    have sB : B < Wx.heap.size := (Array.getElem?_eq_some_iff.1 hBx).1
    have Gx := grown_trans G3 g3x
    have hw3 := G3.size
    clear hBx hOwn g3x
    go_wp2_with (refine wpList_load_row rfl 80 _ rfl w1.heap.size rfl X 80 hXx _ Try.underlying80 rfl (by rw [hsX]; kernel_rfl) ?_)
    refine (orderFn X p wd ht rs n D (unhide HF) (unhide HG) cb coff m ccap cs (unhide HT) Wx ((unhide HCS).grown Gx)).mono ?_
    rintro e W4 ⟨gf, lb, rfl, hen, g4, hgv⟩
    have s4 := g4.size
    have hO : ∀ k, (k = R ∨ k = B) → k < Wx.heap.size := fun k e => by omega
    have loc : LocalJ (fun k => k = R ∨ k = B) (fun (pre : List Pl) (Wk : World) => Wk.heap[B]? = some (.cells #[.slice (some ⟨R, 0, none⟩) pre.length N] 49 (0, 0)) ∧ Wk.ownsRow w3.heap.size 57 3 (.slice (some ⟨R, 0, none⟩) pre.length N) pre.length (plCells pre)) := fun pre A A' h hk =>
      ⟨(hk B (.inr rfl)).trans h.1, own_sameAt h.2 (fun g e => by simp [Value.ownBlock] at e; subst e; exact hk _ (.inl rfl))⟩
    go_wp2
    refine (wpIn_wide (n := 0)).1 ?_
    refine rangeFunc_gives2 (gf := gf) (lb := lb) rfl hen (fun k e => by have := hO k e; omega) (hgv (fun k => k = R ∨ k = B) hO (fun e => by have := Gx.size; omega)) (fun _ => rfl) _ loc
      ⟨(g4.block B sB (by simp)).trans (unhide HBx), own_grown (unhide HOwn) g4⟩
      (fun l' x a' Wk => ∃ Pb, a' = { tmps := #[.agg #[.int .i64 p, .int .i64 wd, .int .i64 ht, .int .i64 rs, .slice ao n cap], .slice (some ⟨cb, coff, none⟩) m ccap, .pointer (some ⟨w.heap.size, 0, none⟩), undef, .slice none 0 0, .pointer (some ⟨w1.heap.size, 0, none⟩), .pointer (some ⟨B, 0, none⟩), .pointer (some ⟨Pb, 0, none⟩), .agg #[.int .i64 p, .int .i64 wd, .int .i64 ht, .int .i64 rs, .slice ao n cap], .agg X, .agg X, .slice (some ⟨cb, coff, none⟩) m ccap, .bool true, .bool false, .agg X, .slice (some ⟨cb, coff, none⟩) m ccap, .int .i64 CN, .agg X, .slice (some ⟨cb, coff, none⟩) m ccap, .int .i64 BN, .int .i64 (N : Int), .slice (some ⟨R, 0, none⟩) 0 N, .agg X, .slice (some ⟨cb, coff, none⟩) m ccap, .func (.func gf) #[] lb, .agg #[.int .i64 x.1, .int .i64 x.2.1, .int .i64 x.2.2], undef, undef, undef, undef, undef], defers := [] } ∧ Pb ≠ l' ∧ Wx.heap.size ≤ Pb ∧ Wk.heap[Pb]? = some (.cells #[.int .i64 x.1, .int .i64 x.2.1, .int .i64 x.2.2] 57 (0, 0))) (fun l' x a' Wk Wk' h hk => by obtain ⟨Pb, e1, e2, e3, e4⟩ := h; exact ⟨Pb, e1, e2, e3, (hk Pb e2).trans e4⟩) ?assign ?body ?done
    case assign =>
      intro l' mm x Wa hla hlb K' hK'
      gi_wp2
      exact hK' _ _ ⟨_, rfl, by omega, by omega, heap_alloc_new _ _⟩ (World.grownBy_alloc _ _ _)
    case body =>
      intro l' mm pre x a' Wa hA hi hb hlen hrec hwl'
      obtain ⟨Pb, rfl, hPl, hPx, hPP⟩ := hA
      have kB : Wa.cell? ⟨B, 0, none⟩ = some (.slice (some ⟨R, 0, none⟩) pre.length N) := by rw [cell_of_row Wa _ 0 _ _ (0, 0) hi.1]; rfl
      have q0 : Wa.cell? ⟨Pb, 0, none⟩ = some (.int .i64 x.1) := by rw [cell_of_row Wa _ 0 _ _ (0, 0) hPP]; rfl
      have q1 : Wa.cell? ⟨Pb, 1, none⟩ = some (.int .i64 x.2.1) := by rw [cell_of_row Wa _ 1 _ _ (0, 0) hPP]; rfl
      have q2 : Wa.cell? ⟨Pb, 2, none⟩ = some (.int .i64 x.2.2) := by rw [cell_of_row Wa _ 2 _ _ (0, 0) hPP]; rfl
      have hlenN : pre.length + 1 ≤ N := by
        rw [← unhide HN]
        have := hlen.length_le
        simpa using this
      have HI := hide hi
      clear hi hPP
      have HCELL : Hid (∀ j u, ([.int .i64 x.1, .int .i64 x.2.1, .int .i64 x.2.2] : List Value)[j]? = some u → (Wa.alloc (.cells #[.int .i64 x.1, .int .i64 x.2.1, .int .i64 x.2.2] 57)).cell? ((⟨Wa.heap.size, 0, none⟩ : Addr).add j) = some u) := fun j u hj => by
        rw [Addr.add_lit, Nat.zero_add, cell_of_row _ _ j _ _ (0, 0) (heap_alloc_new Wa _)]
        simpa using hj
      gi_wp2_with (gi_at_builtin; refine wpListIn_append_fits _ rfl _ _ 49 rfl w3.heap.size 57 iP 3 Try.underlying49 hiP hsP R pre.length N (plCells pre) rfl ((unhide HI).2.alloc _) ⟨Wa.heap.size, 0, none⟩ 1 1 [.int .i64 x.1, .int .i64 x.2.1, .int .i64 x.2.2] rfl rfl (unhide HCELL) (fun u hu => by simp at hu; rcases hu with rfl | rfl | rfl <;> rfl) hlenN ?_; intro w5 ho5 g5; have hB5 := (g5.block B (by have := hb.size; simp; omega) (by simp; omega)).trans ((Below.heap_alloc _ _ _ (by have := hb.size; omega)).trans (unhide HI).1); have k5 : w5.cell? ⟨B, 0, none⟩ = some (.slice (some ⟨R, 0, none⟩) pre.length N) := (by rw [cell_of_row w5 _ 0 _ _ (0, 0) hB5]; rfl); have f5 := frozen_of_row w5 B 0 _ _ hB5; have HO5 := hide ho5; have HG5 := hide g5; have HB5 := hide hB5; clear ho5 g5 hB5)
      have hn1 : (pre ++ [x]).length = pre.length + 1 := by simp
      refine ⟨⟨?_, ?_⟩, ?_⟩
      · rw [heap_setCell_same w5 B 0 _ _ _ (unhide HB5), hn1]; rfl
      · rw [hn1, plCells_app]
        exact own_sameAt (unhide HO5) (fun g e => by simp [Value.ownBlock] at e; subst e; exact heap_setCell_other w5 ⟨B, 0, none⟩ _ _ (by simpa using hRB))
      · exact (But.of_grown (grown_alloc (World.grownBy.refl Wa none) _) (fun g e => by cases e)).trans ((But.of_grown (unhide HG5) (fun g e => by cases e; exact .inl rfl)).trans (But.of_grown (grown_set w5 B 0 _) (fun g e => by cases e; exact .inr rfl)))
    case done =>
      intro Dd W5 hD hi b5 hdef
      have kB : W5.cell? ⟨B, 0, none⟩ = some (.slice (some ⟨R, 0, none⟩) (unitsG wd ht n D cs).flatten.length N) := by rw [cell_of_row W5 _ 0 _ _ (0, 0) hi.1]; rfl
      have hO5 := hi.2
      rw [unhide HN] at kB hO5
      have HO5 := hide hO5
      have HBU := hide b5
      clear hi b5 hO5
      go_wp2
      refine ⟨by simp, .inl ⟨_, _, rfl, run_takeDeferred hdef, ?_⟩⟩
      refine ⟨_, results_tmp rfl _ _ _, _, rfl, ?_, ?_⟩
      · rw [← unitsG_congr (unhide HD) (unhide HT), unhide HN]
        exact own_base (own_sameAt (unhide HO5) (fun g e => by simp [Value.ownBlock] at e; subst e; exact World.putObj_heap_other (by omega))) hw3
      · have b5 := unhide HBU
        have G4 := grown_trans Gx g4
        have sx := Gx.size
        exact ⟨b5.os.trans G4.os, b5.tape.trans G4.tape, b5.output.trans G4.output, Nat.le_trans G4.size (Nat.le_trans b5.size (grownBy_putObj' W5 Dd _).size), fun q hq _ => (World.putObj_heap_other (by omega)).trans ((b5.block q (by omega) (fun e => by omega)).trans (G4.block q hq (by simp)))⟩
  have emul : IntKind.i64.wrap (CN * BN) = (N : Int) := by rw [unhide HCBN]; exact i64_in _ (by omega)
  clear hK
  have X_0 := hB3
  have G_0 : w3.grownBy w3.drew none := grown_drew (World.grownBy.refl _ _)
  have sd : w3.drew.heap.size = w3.heap.size := rfl
  refine wp_region_noPanic ?_
  refine wp_region_raw (fun w' => w'.heap[w1.heap.size]? = some (.cells X 80 (0, 0)) ∧ w3.grownBy w' none) [true, true, false, true, true, false, false, false, false, false] (by kernel_rfl) (fun _ _ _ _ _ h => h) rfl (by kernel_rfl) ⟨hB3, G_0⟩ ?_
  refine heldF_take (v := .agg X) (Or.inl ⟨by rfl, ?_⟩) ?_
  · intro w' hSw
    exact exec_load_row 80 _ rfl w1.heap.size rfl X 80 hSw.1 _ Try.underlying80 rfl (by rw [hsX]; kernel_rfl)
  simp only [Act.put, List.setIfInBounds_toArray, List.set_cons_zero, List.set_cons_succ]
  refine heldF_take (v := ?_) (Or.inl ⟨by rfl, ?_⟩) ?_
  rotate_left 1
  · intro w' hSw
    go_simp
    try with_reducible rfl
  simp only [Act.put, List.setIfInBounds_toArray, List.set_cons_zero, List.set_cons_succ]
  refine heldF_skip ?_
  refine heldF_take (v := .agg X) (Or.inl ⟨by rfl, ?_⟩) ?_
  · intro w' hSw
    exact exec_load_row 80 _ rfl w1.heap.size rfl X 80 hSw.1 _ Try.underlying80 rfl (by rw [hsX]; kernel_rfl)
  simp only [Act.put, List.setIfInBounds_toArray, List.set_cons_zero, List.set_cons_succ]
  refine heldF_take (v := ?_) (Or.inl ⟨by rfl, ?_⟩) ?_
  rotate_left 1
  · intro w' hSw
    go_simp
    try with_reducible rfl
  simp only [Act.put, List.setIfInBounds_toArray, List.set_cons_zero, List.set_cons_succ]
  refine heldF_skip (heldF_skip (heldF_skip (heldF_skip (heldF_skip (heldF_nil ?_)))))
  refine anyH_step2 (i := 2) (j := 8) rfl rfl (by kernel_rfl) (fun K1 hK1 => ?_) (fun K1 hK1 => ?_)
  · go_simp
    refine (unitCount X p wd ht rs n D (unhide HF) (unhide HG) (some ⟨cb, coff, none⟩) m ccap cs w3.drew ((unhide HCS).grown (grown_trans G3 G_0)) (unhide HT)).mono ?_
    rintro e w21 ⟨rfl, g21⟩
    rw [unhide HCN]
    have G_21 := grown_trans G_0 g21
    have X_21 := (g21.block w1.heap.size (Array.getElem?_eq_some_iff.1 X_0).1 (by simp)).trans X_0
    have s21 : w3.drew.heap.size ≤ w21.heap.size := g21.size
    refine hK1.out _ _ ⟨X_21, G_21⟩ ?_
    clear hK1 K1
    try simp only [Act.put, List.setIfInBounds_toArray, List.set_cons_zero, List.set_cons_succ]
    refine anyH_step2 (i := 5) (j := 8) rfl rfl (by kernel_rfl) (fun K1 hK1 => ?_) (fun K1 hK1 => ?_)
    · go_simp
      refine (unitBlocks X p wd ht rs n D (unhide HF) (unhide HG) (some ⟨cb, coff, none⟩) m ccap cs w21 ((unhide HCS).grown (grown_trans G3 G_21)) (unhide HT)).mono ?_
      rintro e w22 ⟨rfl, g22⟩
      rw [unhide HBN]
      have G_22 := grown_trans G_21 g22
      have X_22 := (g22.block w1.heap.size (Array.getElem?_eq_some_iff.1 X_21).1 (by simp)).trans X_21
      have s22 : w21.heap.size ≤ w22.heap.size := g22.size
      refine hK1.out _ _ ⟨X_22, G_22⟩ ?_
      clear hK1 K1
      try simp only [Act.put, List.setIfInBounds_toArray, List.set_cons_zero, List.set_cons_succ]
      refine anyH_step2 (i := 6) (j := 8) rfl rfl (by kernel_rfl) (fun K1 hK1 => ?_) (fun K1 hK1 => ?_)
      · go_simp
        refine hK1.out _ _ ⟨X_22, G_22⟩ ?_
        clear hK1 K1
        try simp only [Act.put, List.setIfInBounds_toArray, List.set_cons_zero, List.set_cons_succ]
        refine anyH_step2 (i := 7) (j := 8) rfl rfl (by kernel_rfl) (fun K1 hK1 => ?_) (fun K1 hK1 => ?_)
        · refine step_make_own (by rfl) _ _ 49 rfl w3.heap.size 57 iP _ 3 Try.underlying49 hiP hzP hsP .i64 .i64 N rfl rfl (by rw [hbP]; omega) (by unfold maxLen; omega) G_22.size ?_
          intro w24 O_24 g24
          have G_24 := grown_trans G_22 g24
          have X_24 := (g24.block w1.heap.size (Array.getElem?_eq_some_iff.1 X_22).1 (by simp)).trans X_22
          have s24 : w22.heap.size ≤ w24.heap.size := g24.size
          have z24 : w3.heap.size ≤ w22.heap.size := G_22.size
          refine hK1.out _ _ ⟨X_24, G_24⟩ ?_
          clear hK1 K1
          try simp only [Act.put, List.setIfInBounds_toArray, List.set_cons_zero, List.set_cons_succ]
          refine anyH_step1 (i := 8) rfl (by kernel_rfl) (fun K1 hK1 => ?_)
          go_simp
          obtain ⟨w25, hw25⟩ : ∃ W, w24.alloc (.cells #[.slice none 0 0] 49) = W := ⟨_, rfl⟩
          have X_25 := (Below.heap_alloc w24 (.cells #[.slice none 0 0] 49) w1.heap.size (Array.getElem?_eq_some_iff.1 X_24).1).trans X_24
          have B_25 := heap_alloc_new w24 (.cells #[.slice none 0 0] 49)
          have G_25 : w3.grownBy w25 none := by rw [← hw25]; exact grown_alloc G_24 _
          have s25 : w24.heap.size + 1 ≤ w25.heap.size := by rw [← hw25]; simp
          have z25 : w3.heap.size ≤ w24.heap.size := G_24.size
          have O_25 := O_24.alloc (.cells #[.slice none 0 0] 49)
          rw [hw25] at X_25 B_25 O_25
          have l25 := (O_24.lt w22.heap.size rfl).2
          rw [hw25]
          clear hw25
          change w25.heap[w24.heap.size]? = _ at B_25
          refine hK1.out _ _ ⟨X_25, G_25⟩ ?_
          clear hK1 K1
          try simp only [Act.put, List.setIfInBounds_toArray, List.set_cons_zero, List.set_cons_succ]
          refine anyH_step1 (i := 9) rfl (by kernel_rfl) (fun K1 hK1 => ?_)
          have kB : w25.cell? ⟨w24.heap.size, 0, none⟩ = some (.slice none 0 0) := by rw [cell_of_row w25 _ 0 _ _ (0, 0) B_25]; rfl
          have fB := frozen_of_row w25 w24.heap.size 0 _ _ B_25
          have hRB : w22.heap.size ≠ w24.heap.size := by omega
          have X_26 : (w25.setCell ⟨w24.heap.size, 0, none⟩ (.slice (some ⟨w22.heap.size, 0, none⟩) 0 N)).heap[w1.heap.size]? = _ := (heap_setCell_other w25 ⟨w24.heap.size, 0, none⟩ w1.heap.size _ (by simp; omega)).trans X_25
          have G_26 : w3.grownBy (w25.setCell ⟨w24.heap.size, 0, none⟩ (.slice (some ⟨w22.heap.size, 0, none⟩) 0 N)) none := grown_setNew G_25 _ _ _ (by omega)
          have B_26 := heap_setCell_same w25 w24.heap.size 0 _ _ (.slice (some ⟨w22.heap.size, 0, none⟩) 0 N) B_25
          have O_26 := own_sameAt (w' := w25.setCell ⟨w24.heap.size, 0, none⟩ (.slice (some ⟨w22.heap.size, 0, none⟩) 0 N)) O_25 (fun g e => by simp [Value.ownBlock] at e; subst e; exact heap_setCell_other w25 ⟨w24.heap.size, 0, none⟩ _ _ (by simpa using hRB))
          go_simp
          refine hK1.out _ _ ⟨X_26, G_26⟩ ?_
          clear hK1 K1
          try simp only [Act.put]
          refine wpAnyH_done (by kernel_rfl) (NoPanic.normal ?_) _
          exact unhide REST w22.heap.size w24.heap.size _ (by omega) (by omega) hRB B_26 O_26 X_26 G_26
        · go_simp
          obtain ⟨w27, hw27⟩ : ∃ W, w22.alloc (.cells #[.slice none 0 0] 49) = W := ⟨_, rfl⟩
          have X_27 := (Below.heap_alloc w22 (.cells #[.slice none 0 0] 49) w1.heap.size (Array.getElem?_eq_some_iff.1 X_22).1).trans X_22
          have B_27 := heap_alloc_new w22 (.cells #[.slice none 0 0] 49)
          have G_27 : w3.grownBy w27 none := by rw [← hw27]; exact grown_alloc G_22 _
          have s27 : w22.heap.size + 1 ≤ w27.heap.size := by rw [← hw27]; simp
          have z27 : w3.heap.size ≤ w22.heap.size := G_22.size
          rw [hw27] at X_27 B_27
          rw [hw27]
          clear hw27
          change w27.heap[w22.heap.size]? = _ at B_27
          refine hK1.out _ _ ⟨X_27, G_27⟩ ?_
          clear hK1 K1
          try simp only [Act.put, List.setIfInBounds_toArray, List.set_cons_zero, List.set_cons_succ]
          refine anyH_step1 (i := 7) rfl (by kernel_rfl) (fun K1 hK1 => ?_)
          refine step_make_own (by rfl) _ _ 49 rfl w3.heap.size 57 iP _ 3 Try.underlying49 hiP hzP hsP .i64 .i64 N rfl rfl (by rw [hbP]; omega) (by unfold maxLen; omega) G_27.size ?_
          intro w28 O_28 g28
          have G_28 := grown_trans G_27 g28
          have X_28 := (g28.block w1.heap.size (Array.getElem?_eq_some_iff.1 X_27).1 (by simp)).trans X_27
          have s28 : w27.heap.size ≤ w28.heap.size := g28.size
          have z28 : w3.heap.size ≤ w27.heap.size := G_27.size
          have l28 := (Array.getElem?_eq_some_iff.1 B_27).1
          have B_28 := (g28.block w22.heap.size l28 (by simp)).trans B_27
          refine hK1.out _ _ ⟨X_28, G_28⟩ ?_
          clear hK1 K1
          try simp only [Act.put, List.setIfInBounds_toArray, List.set_cons_zero, List.set_cons_succ]
          refine anyH_step1 (i := 9) rfl (by kernel_rfl) (fun K1 hK1 => ?_)
          have kB : w28.cell? ⟨w22.heap.size, 0, none⟩ = some (.slice none 0 0) := by rw [cell_of_row w28 _ 0 _ _ (0, 0) B_28]; rfl
          have fB := frozen_of_row w28 w22.heap.size 0 _ _ B_28
          have hRB : w27.heap.size ≠ w22.heap.size := by omega
          have X_29 : (w28.setCell ⟨w22.heap.size, 0, none⟩ (.slice (some ⟨w27.heap.size, 0, none⟩) 0 N)).heap[w1.heap.size]? = _ := (heap_setCell_other w28 ⟨w22.heap.size, 0, none⟩ w1.heap.size _ (by simp; omega)).trans X_28
          have G_29 : w3.grownBy (w28.setCell ⟨w22.heap.size, 0, none⟩ (.slice (some ⟨w27.heap.size, 0, none⟩) 0 N)) none := grown_setNew G_28 _ _ _ (by omega)
          have B_29 := heap_setCell_same w28 w22.heap.size 0 _ _ (.slice (some ⟨w27.heap.size, 0, none⟩) 0 N) B_28
          have O_29 := own_sameAt (w' := w28.setCell ⟨w22.heap.size, 0, none⟩ (.slice (some ⟨w27.heap.size, 0, none⟩) 0 N)) O_28 (fun g e => by simp [Value.ownBlock] at e; subst e; exact heap_setCell_other w28 ⟨w22.heap.size, 0, none⟩ _ _ (by simpa using hRB))
          go_simp
          refine hK1.out _ _ ⟨X_29, G_29⟩ ?_
          clear hK1 K1
          try simp only [Act.put]
          refine wpAnyH_done (by kernel_rfl) (NoPanic.normal ?_) _
          exact unhide REST w27.heap.size w22.heap.size _ (by omega) (by omega) hRB B_29 O_29 X_29 G_29
      · go_simp
        obtain ⟨w30, hw30⟩ : ∃ W, w22.alloc (.cells #[.slice none 0 0] 49) = W := ⟨_, rfl⟩
        have X_30 := (Below.heap_alloc w22 (.cells #[.slice none 0 0] 49) w1.heap.size (Array.getElem?_eq_some_iff.1 X_22).1).trans X_22
        have B_30 := heap_alloc_new w22 (.cells #[.slice none 0 0] 49)
        have G_30 : w3.grownBy w30 none := by rw [← hw30]; exact grown_alloc G_22 _
        have s30 : w22.heap.size + 1 ≤ w30.heap.size := by rw [← hw30]; simp
        have z30 : w3.heap.size ≤ w22.heap.size := G_22.size
        rw [hw30] at X_30 B_30
        rw [hw30]
        clear hw30
        change w30.heap[w22.heap.size]? = _ at B_30
        refine hK1.out _ _ ⟨X_30, G_30⟩ ?_
        clear hK1 K1
        try simp only [Act.put, List.setIfInBounds_toArray, List.set_cons_zero, List.set_cons_succ]
        refine anyH_step1 (i := 6) rfl (by kernel_rfl) (fun K1 hK1 => ?_)
        go_simp
        refine hK1.out _ _ ⟨X_30, G_30⟩ ?_
        clear hK1 K1
        try simp only [Act.put, List.setIfInBounds_toArray, List.set_cons_zero, List.set_cons_succ]
        refine anyH_step1 (i := 7) rfl (by kernel_rfl) (fun K1 hK1 => ?_)
        refine step_make_own (by rfl) _ _ 49 rfl w3.heap.size 57 iP _ 3 Try.underlying49 hiP hzP hsP .i64 .i64 N rfl rfl (by rw [hbP]; omega) (by unfold maxLen; omega) G_30.size ?_
        intro w32 O_32 g32
        have G_32 := grown_trans G_30 g32
        have X_32 := (g32.block w1.heap.size (Array.getElem?_eq_some_iff.1 X_30).1 (by simp)).trans X_30
        have s32 : w30.heap.size ≤ w32.heap.size := g32.size
        have z32 : w3.heap.size ≤ w30.heap.size := G_30.size
        have l32 := (Array.getElem?_eq_some_iff.1 B_30).1
        have B_32 := (g32.block w22.heap.size l32 (by simp)).trans B_30
        refine hK1.out _ _ ⟨X_32, G_32⟩ ?_
        clear hK1 K1
        try simp only [Act.put, List.setIfInBounds_toArray, List.set_cons_zero, List.set_cons_succ]
        refine anyH_step1 (i := 9) rfl (by kernel_rfl) (fun K1 hK1 => ?_)
        have kB : w32.cell? ⟨w22.heap.size, 0, none⟩ = some (.slice none 0 0) := by rw [cell_of_row w32 _ 0 _ _ (0, 0) B_32]; rfl
        have fB := frozen_of_row w32 w22.heap.size 0 _ _ B_32
        have hRB : w30.heap.size ≠ w22.heap.size := by omega
        have X_33 : (w32.setCell ⟨w22.heap.size, 0, none⟩ (.slice (some ⟨w30.heap.size, 0, none⟩) 0 N)).heap[w1.heap.size]? = _ := (heap_setCell_other w32 ⟨w22.heap.size, 0, none⟩ w1.heap.size _ (by simp; omega)).trans X_32
        have G_33 : w3.grownBy (w32.setCell ⟨w22.heap.size, 0, none⟩ (.slice (some ⟨w30.heap.size, 0, none⟩) 0 N)) none := grown_setNew G_32 _ _ _ (by omega)
        have B_33 := heap_setCell_same w32 w22.heap.size 0 _ _ (.slice (some ⟨w30.heap.size, 0, none⟩) 0 N) B_32
        have O_33 := own_sameAt (w' := w32.setCell ⟨w22.heap.size, 0, none⟩ (.slice (some ⟨w30.heap.size, 0, none⟩) 0 N)) O_32 (fun g e => by simp [Value.ownBlock] at e; subst e; exact heap_setCell_other w32 ⟨w22.heap.size, 0, none⟩ _ _ (by simpa using hRB))
        go_simp
        refine hK1.out _ _ ⟨X_33, G_33⟩ ?_
        clear hK1 K1
        try simp only [Act.put]
        refine wpAnyH_done (by kernel_rfl) (NoPanic.normal ?_) _
        exact unhide REST w30.heap.size w22.heap.size _ (by omega) (by omega) hRB B_33 O_33 X_33 G_33
    · go_simp
      obtain ⟨w34, hw34⟩ : ∃ W, w21.alloc (.cells #[.slice none 0 0] 49) = W := ⟨_, rfl⟩
      have X_34 := (Below.heap_alloc w21 (.cells #[.slice none 0 0] 49) w1.heap.size (Array.getElem?_eq_some_iff.1 X_21).1).trans X_21
      have B_34 := heap_alloc_new w21 (.cells #[.slice none 0 0] 49)
      have G_34 : w3.grownBy w34 none := by rw [← hw34]; exact grown_alloc G_21 _
      have s34 : w21.heap.size + 1 ≤ w34.heap.size := by rw [← hw34]; simp
      have z34 : w3.heap.size ≤ w21.heap.size := G_21.size
      rw [hw34] at X_34 B_34
      rw [hw34]
      clear hw34
      change w34.heap[w21.heap.size]? = _ at B_34
      refine hK1.out _ _ ⟨X_34, G_34⟩ ?_
      clear hK1 K1
      try simp only [Act.put, List.setIfInBounds_toArray, List.set_cons_zero, List.set_cons_succ]
      refine anyH_step1 (i := 5) rfl (by kernel_rfl) (fun K1 hK1 => ?_)
      go_simp
      refine (unitBlocks X p wd ht rs n D (unhide HF) (unhide HG) (some ⟨cb, coff, none⟩) m ccap cs w34 ((unhide HCS).grown (grown_trans G3 G_34)) (unhide HT)).mono ?_
      rintro e w35 ⟨rfl, g35⟩
      rw [unhide HBN]
      have G_35 := grown_trans G_34 g35
      have X_35 := (g35.block w1.heap.size (Array.getElem?_eq_some_iff.1 X_34).1 (by simp)).trans X_34
      have s35 : w34.heap.size ≤ w35.heap.size := g35.size
      have B_35 := (g35.block w21.heap.size (Array.getElem?_eq_some_iff.1 B_34).1 (by simp)).trans B_34
      refine hK1.out _ _ ⟨X_35, G_35⟩ ?_
      clear hK1 K1
      try simp only [Act.put, List.setIfInBounds_toArray, List.set_cons_zero, List.set_cons_succ]
      refine anyH_step1 (i := 6) rfl (by kernel_rfl) (fun K1 hK1 => ?_)
      go_simp
      refine hK1.out _ _ ⟨X_35, G_35⟩ ?_
      clear hK1 K1
      try simp only [Act.put, List.setIfInBounds_toArray, List.set_cons_zero, List.set_cons_succ]
      refine anyH_step1 (i := 7) rfl (by kernel_rfl) (fun K1 hK1 => ?_)
      refine step_make_own (by rfl) _ _ 49 rfl w3.heap.size 57 iP _ 3 Try.underlying49 hiP hzP hsP .i64 .i64 N rfl rfl (by rw [hbP]; omega) (by unfold maxLen; omega) G_35.size ?_
      intro w37 O_37 g37
      have G_37 := grown_trans G_35 g37
      have X_37 := (g37.block w1.heap.size (Array.getElem?_eq_some_iff.1 X_35).1 (by simp)).trans X_35
      have s37 : w35.heap.size ≤ w37.heap.size := g37.size
      have z37 : w3.heap.size ≤ w35.heap.size := G_35.size
      have l37 := (Array.getElem?_eq_some_iff.1 B_35).1
      have B_37 := (g37.block w21.heap.size l37 (by simp)).trans B_35
      refine hK1.out _ _ ⟨X_37, G_37⟩ ?_
      clear hK1 K1
      try simp only [Act.put, List.setIfInBounds_toArray, List.set_cons_zero, List.set_cons_succ]
      refine anyH_step1 (i := 9) rfl (by kernel_rfl) (fun K1 hK1 => ?_)
      have kB : w37.cell? ⟨w21.heap.size, 0, none⟩ = some (.slice none 0 0) := by rw [cell_of_row w37 _ 0 _ _ (0, 0) B_37]; rfl
      have fB := frozen_of_row w37 w21.heap.size 0 _ _ B_37
      have hRB : w35.heap.size ≠ w21.heap.size := by omega
      have X_38 : (w37.setCell ⟨w21.heap.size, 0, none⟩ (.slice (some ⟨w35.heap.size, 0, none⟩) 0 N)).heap[w1.heap.size]? = _ := (heap_setCell_other w37 ⟨w21.heap.size, 0, none⟩ w1.heap.size _ (by simp; omega)).trans X_37
      have G_38 : w3.grownBy (w37.setCell ⟨w21.heap.size, 0, none⟩ (.slice (some ⟨w35.heap.size, 0, none⟩) 0 N)) none := grown_setNew G_37 _ _ _ (by omega)
      have B_38 := heap_setCell_same w37 w21.heap.size 0 _ _ (.slice (some ⟨w35.heap.size, 0, none⟩) 0 N) B_37
      have O_38 := own_sameAt (w' := w37.setCell ⟨w21.heap.size, 0, none⟩ (.slice (some ⟨w35.heap.size, 0, none⟩) 0 N)) O_37 (fun g e => by simp [Value.ownBlock] at e; subst e; exact heap_setCell_other w37 ⟨w21.heap.size, 0, none⟩ _ _ (by simpa using hRB))
      go_simp
      refine hK1.out _ _ ⟨X_38, G_38⟩ ?_
      clear hK1 K1
      try simp only [Act.put]
      refine wpAnyH_done (by kernel_rfl) (NoPanic.normal ?_) _
      exact unhide REST w35.heap.size w21.heap.size _ (by omega) (by omega) hRB B_38 O_38 X_38 G_38
  · go_simp
    obtain ⟨w39, hw39⟩ : ∃ W, w3.drew.alloc (.cells #[.slice none 0 0] 49) = W := ⟨_, rfl⟩
    have X_39 := (Below.heap_alloc w3.drew (.cells #[.slice none 0 0] 49) w1.heap.size (Array.getElem?_eq_some_iff.1 X_0).1).trans X_0
    have B_39 := heap_alloc_new w3.drew (.cells #[.slice none 0 0] 49)
    have G_39 : w3.grownBy w39 none := by rw [← hw39]; exact grown_alloc G_0 _
    have s39 : w3.drew.heap.size + 1 ≤ w39.heap.size := by rw [← hw39]; simp
    have z39 : w3.heap.size ≤ w3.drew.heap.size := G_0.size
    rw [hw39] at X_39 B_39
    rw [show (w3.alloc (.cells #[.slice none 0 0] 49)).drew = w39 from hw39]
    clear hw39
    change w39.heap[w3.heap.size]? = _ at B_39
    refine hK1.out _ _ ⟨X_39, G_39⟩ ?_
    clear hK1 K1
    try simp only [Act.put, List.setIfInBounds_toArray, List.set_cons_zero, List.set_cons_succ]
    refine anyH_step1 (i := 2) rfl (by kernel_rfl) (fun K1 hK1 => ?_)
    go_simp
    refine (unitCount X p wd ht rs n D (unhide HF) (unhide HG) (some ⟨cb, coff, none⟩) m ccap cs w39 ((unhide HCS).grown (grown_trans G3 G_39)) (unhide HT)).mono ?_
    rintro e w40 ⟨rfl, g40⟩
    rw [unhide HCN]
    have G_40 := grown_trans G_39 g40
    have X_40 := (g40.block w1.heap.size (Array.getElem?_eq_some_iff.1 X_39).1 (by simp)).trans X_39
    have s40 : w39.heap.size ≤ w40.heap.size := g40.size
    have B_40 := (g40.block w3.heap.size (Array.getElem?_eq_some_iff.1 B_39).1 (by simp)).trans B_39
    refine hK1.out _ _ ⟨X_40, G_40⟩ ?_
    clear hK1 K1
    try simp only [Act.put, List.setIfInBounds_toArray, List.set_cons_zero, List.set_cons_succ]
    refine anyH_step1 (i := 5) rfl (by kernel_rfl) (fun K1 hK1 => ?_)
    go_simp
    refine (unitBlocks X p wd ht rs n D (unhide HF) (unhide HG) (some ⟨cb, coff, none⟩) m ccap cs w40 ((unhide HCS).grown (grown_trans G3 G_40)) (unhide HT)).mono ?_
    rintro e w41 ⟨rfl, g41⟩
    rw [unhide HBN]
    have G_41 := grown_trans G_40 g41
    have X_41 := (g41.block w1.heap.size (Array.getElem?_eq_some_iff.1 X_40).1 (by simp)).trans X_40
    have s41 : w40.heap.size ≤ w41.heap.size := g41.size
    have B_41 := (g41.block w3.heap.size (Array.getElem?_eq_some_iff.1 B_40).1 (by simp)).trans B_40
    refine hK1.out _ _ ⟨X_41, G_41⟩ ?_
    clear hK1 K1
    try simp only [Act.put, List.setIfInBounds_toArray, List.set_cons_zero, List.set_cons_succ]
    refine anyH_step1 (i := 6) rfl (by kernel_rfl) (fun K1 hK1 => ?_)
    go_simp
    refine hK1.out _ _ ⟨X_41, G_41⟩ ?_
    clear hK1 K1
    try simp only [Act.put, List.setIfInBounds_toArray, List.set_cons_zero, List.set_cons_succ]
    refine anyH_step1 (i := 7) rfl (by kernel_rfl) (fun K1 hK1 => ?_)
    refine step_make_own (by rfl) _ _ 49 rfl w3.heap.size 57 iP _ 3 Try.underlying49 hiP hzP hsP .i64 .i64 N rfl rfl (by rw [hbP]; omega) (by unfold maxLen; omega) G_41.size ?_
    intro w43 O_43 g43
    have G_43 := grown_trans G_41 g43
    have X_43 := (g43.block w1.heap.size (Array.getElem?_eq_some_iff.1 X_41).1 (by simp)).trans X_41
    have s43 : w41.heap.size ≤ w43.heap.size := g43.size
    have z43 : w3.heap.size ≤ w41.heap.size := G_41.size
    have l43 := (Array.getElem?_eq_some_iff.1 B_41).1
    have B_43 := (g43.block w3.heap.size l43 (by simp)).trans B_41
    refine hK1.out _ _ ⟨X_43, G_43⟩ ?_
    clear hK1 K1
    try simp only [Act.put, List.setIfInBounds_toArray, List.set_cons_zero, List.set_cons_succ]
    refine anyH_step1 (i := 9) rfl (by kernel_rfl) (fun K1 hK1 => ?_)
    have kB : w43.cell? ⟨w3.heap.size, 0, none⟩ = some (.slice none 0 0) := by rw [cell_of_row w43 _ 0 _ _ (0, 0) B_43]; rfl
    have fB := frozen_of_row w43 w3.heap.size 0 _ _ B_43
    have hRB : w41.heap.size ≠ w3.heap.size := by omega
    have X_44 : (w43.setCell ⟨w3.heap.size, 0, none⟩ (.slice (some ⟨w41.heap.size, 0, none⟩) 0 N)).heap[w1.heap.size]? = _ := (heap_setCell_other w43 ⟨w3.heap.size, 0, none⟩ w1.heap.size _ (by simp; omega)).trans X_43
    have G_44 : w3.grownBy (w43.setCell ⟨w3.heap.size, 0, none⟩ (.slice (some ⟨w41.heap.size, 0, none⟩) 0 N)) none := grown_setNew G_43 _ _ _ (by omega)
    have B_44 := heap_setCell_same w43 w3.heap.size 0 _ _ (.slice (some ⟨w41.heap.size, 0, none⟩) 0 N) B_43
    have O_44 := own_sameAt (w' := w43.setCell ⟨w3.heap.size, 0, none⟩ (.slice (some ⟨w41.heap.size, 0, none⟩) 0 N)) O_43 (fun g e => by simp [Value.ownBlock] at e; subst e; exact heap_setCell_other w43 ⟨w3.heap.size, 0, none⟩ _ _ (by simpa using hRB))
    go_simp
    refine hK1.out _ _ ⟨X_44, G_44⟩ ?_
    clear hK1 K1
    try simp only [Act.put]
    refine wpAnyH_done (by kernel_rfl) (NoPanic.normal ?_) _
    exact unhide REST w41.heap.size w3.heap.size _ (by omega) (by omega) hRB B_44 O_44 X_44 G_44

end Go.Proofs.Ytoeehfjbnbbijaa
