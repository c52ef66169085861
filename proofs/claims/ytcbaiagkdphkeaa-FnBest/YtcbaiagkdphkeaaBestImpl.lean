/-
  The best lens, in the program.
-/
import Derived.Test.YtcbaiagkdphkeaaCountImpl
import Derived.Test.YtcbaiagkdphkeaaCodeImpl
namespace Go.Proofs.Ytcbaiagkdphkeaa
open Go.RowKit

theorem lev_count {fs : List Int} {k : Nat} {H : List Hp} (hL : Lev fs k H) {M : Nat} (hM : M ≤ H.length) {j : Nat} (hj : j < (orderG fs).length) : (((allS (H.take M)).count (((orderG fs).getD j 0 : Nat) : Int) : Nat) : Int) = pre (getc j) (thingsG (coinsG (coinW fs)) k) M := by
  have hl : (H.take M).length = M := by simp; omega
  rw [allS_count, hl, pre_sum _ _ M (by rw [← hL.count]; exact hM)]
  refine sumN_congr _ _ _ (fun t ht => ?_)
  have e1 : at_ (H.take M) t = H[t]'(by omega) := by simp [at_, ht, show t < H.length by omega]
  have e2 : (thingsG (coinsG (coinW fs)) k).getD t default = thOf (orderG fs) (cont (H[t]'(by omega))) := by
    rw [← hL.th]; simp [show t < H.length by omega]
  rw [e1, e2]
  have e3 : (orderG fs).getD j 0 = (orderG fs)[j] := by simp [hj]
  rw [e3]
  simp [getc, thOf, cont, hj]
theorem Counted.parts {fs : List Int} (hfs : freqsB fs = true) {D : List Hp} (h : Counted fs D) : D.length ≤ 512 ∧ (∀ x ∈ D, x.ss.length ≤ 32768) ∧ ∀ x ∈ D, ∀ s ∈ x.ss, ∃ t : Nat, t ∈ orderG fs ∧ s = (t : Int) := by
  have hm := coinW_few hfs
  rcases h with ⟨C, hC, h1, rfl⟩ | ⟨_, H, hH, rfl⟩
  · exact ⟨by omega, fun x hx => by have := hC.len x hx; simp at this; omega, hC.sym⟩
  · refine ⟨?_, fun x hx => ?_, fun x hx => hH.sym x (List.mem_of_mem_take hx)⟩
    · have h1 := hH.count
      have h2 := things_count (ws := coinW fs) 15
      rw [List.length_take]
      omega
    · have := hH.len x (List.mem_of_mem_take hx)
      omega
theorem counted_best {fs : List Int} (hfs : freqsB fs = true) {D : List Hp} (h : Counted fs D) : cntS fs.length (allS D) = bestG fs := by
  have hsym := (h.parts hfs).2.2
  have hcount : ∀ j, j < (orderG fs).length → (((allS D).count (((orderG fs).getD j 0 : Nat) : Int) : Nat) : Int) = (lensX fs).getD j 0 := fun j hj => by
    rcases h with ⟨C, hC, h1, rfl⟩ | ⟨h2, H, hH, rfl⟩
    · have hol : (orderG fs).length = 1 := by rw [← h1, hC.count, thingsG, coins_len, coinW_len]
      obtain rfl : j = 0 := by omega
      have h3 := lev_count hC (M := D.length) (Nat.le_refl _) hj
      rw [List.take_length, h1, thingsG, coins_pre (by rw [coinW_len]; omega) 1 (by rw [coinW_len]; omega)] at h3
      rw [h3]
      simp [lensX, hol]
    · have hen := things_enough (ws := coinW fs) coins_rise (coins_pos hfs) (by rw [coinW_len]; omega) (coinW_few hfs)
      rw [coinW_len] at hen
      rw [lev_count hH (by rw [hH.count]; exact hen) hj]
      have e : lensX fs = lensC (coinW fs) := by unfold lensX; rw [if_neg (by omega)]
      rw [e, lensC_at _ _ (by rw [coinW_len]; exact hj), coinW_len]
  apply List.ext_getElem?
  intro s
  have hbl := best_len hfs
  by_cases hs : s < fs.length
  · have e1 : (cntS fs.length (allS D))[s]? = some (((allS D).count (s : Int) : Nat) : Int) := by simp [cntS, hs]
    have e2 : (bestG fs)[s]? = some ((bestG fs).getD s 0) := by
      have : s < (bestG fs).length := by omega
      simp [this]
    rw [e1, e2]
    congr 1
    by_cases h0 : fs.getD s 0 = 0
    · rw [best_none hfs h0]
      have : (allS D).count (s : Int) = 0 := by
        rw [List.count_eq_zero]
        intro hm
        obtain ⟨x, hx, hxs⟩ := List.mem_flatMap.1 hm
        obtain ⟨t, ht, e⟩ := hsym x hx _ hxs
        have : s = t := by omega
        subst this
        exact ((order_mem fs fs.length s).1 ht).2 h0
      rw [this]; rfl
    · obtain ⟨j, hj, e⟩ := order_has hs h0
      have h3 := hcount j hj
      have h4 := best_at hfs hj
      rw [e] at h3 h4
      rw [h3, h4]
  · rw [List.getElem?_eq_none (by rw [cntS_len]; omega), List.getElem?_eq_none (by omega)]

theorem Lst.beside {w w' : World} {ao : Option Addr} {n cap gg : Nat} {D : List Hp} (h : Lst w (.slice ao n cap) D) (g : w.grownBy w' (some gg)) (hl : D.length = n) (hsym : ∀ x ∈ D, ∀ b off, x.co = some ⟨b, off, none⟩ → b ≠ gg) (hrow : 0 < n → ∀ b off, ao = some ⟨b, off, none⟩ → b ≠ gg) : Lst w' (.slice ao n cap) D := by
  obtain ⟨ao', cap', e, hr, hc⟩ := h.form
  simp only [Value.slice.injEq] at e
  obtain ⟨rfl, _, rfl⟩ := e
  refine ⟨⟨ao, cap, by rw [hl], ⟨rfl, fun i hi => ?_⟩, hc⟩, fun x hx => rd_besideP (h.rd x hx) g (fun b off e e2 => hsym x hx b off e (Option.some.inj e2).symm), h.pos⟩
  obtain ⟨b, off, e, c0, c1, c2⟩ := hr.2 i hi
  have hne : some b ≠ some gg := fun e2 => hrow (by omega) b off e (Option.some.inj e2)
  exact ⟨b, off, e, g.cell c0 hne, g.cell c1 hne, g.cell c2 hne⟩
theorem allS_take {D : List Hp} {i : Nat} (hi : i < D.length) : allS (D.take (i + 1)) = allS (D.take i) ++ (at_ D i).ss := by
  have e : at_ D i = D[i] := by simp [at_, hi]
  rw [List.take_succ_eq_append_getElem hi, e]
  unfold allS
  rw [List.flatMap_append]
  congr 1
  simp
theorem allS_len (B : Nat) : ∀ D : List Hp, (∀ x ∈ D, x.ss.length ≤ B) → (allS D).length ≤ D.length * B
  | [], _ => by simp [allS]
  | x :: D, h => by
    have ih := allS_len B D (fun y hy => h y (by simp [hy]))
    have h1 := h x (by simp)
    have e : allS (x :: D) = x.ss ++ allS D := by simp [allS]
    rw [e, List.length_append, List.length_cons, Nat.succ_mul]
    omega
/-- A row of numbers holds no things. -/
theorem row_apart {w : World} {ao : Option Addr} {n cap base gg k : Nat} {D : List Hp} {xs : List Int} (h : Lst w (.slice ao n cap) D) (hl : D.length = n) (ho : w.ownsRow base 3 1 (.slice (some ⟨gg, 0, none⟩) k k) k (xs.map (Value.int .i64))) : 0 < n → ∀ b off, ao = some ⟨b, off, none⟩ → b ≠ gg := by
  intro hn b off e e2
  obtain ⟨ao', cap', e3, hr, _⟩ := h.form
  simp only [Value.slice.injEq] at e3
  obtain ⟨rfl, _, rfl⟩ := e3
  obtain ⟨b', off', e4, _, c1, _⟩ := hr.2 0 (by omega)
  rw [e] at e4
  simp only [Option.some.injEq, Addr.mk.injEq, and_true] at e4
  obtain ⟨rfl, rfl⟩ := e4
  subst e2
  rcases ho.2 with ⟨h1, _⟩ | ⟨g', cp, cur, h1, _, h3, _, _, h6, h7⟩
  · simp at h1
  · simp only [Value.slice.injEq, Option.some.injEq, Addr.mk.injEq, true_and, and_true] at h1
    obtain ⟨rfl, rfl⟩ := h1
    rw [cell_of_row w b (off + 0 * 3 + 1) _ _ (0, 0) h3] at c1
    have hcur : cur.toList = xs.map (Value.int .i64) := by
      rw [← h7]; rw [List.take_of_length_le]; simp [h6]
    rw [← Array.getElem?_toList, hcur, List.getElem?_map] at c1
    cases hx : xs[off + 0 * 3 + 1]? with
    | none => rw [hx] at c1; simp at c1
    | some z => rw [hx] at c1; simp at c1
set_option maxRecDepth 20000 in
set_option maxHeartbeats 3200000 in
theorem implBestLens (ao : Option Addr) (n cap : Nat) (fs : List Int) (w : World) (hr : Rd .i64 w ao n fs) (hn0 : n ≤ 1048576) :
    Calls Try.prog 16 #[.slice ao n cap] w fun e w' => ∃ v, e = .returned v ∧ w'.ownsRow w.heap.size 3 1 v (bestG fs).length ((bestG fs).map (Value.int .i64)) ∧ w.grownBy w' none := by
  have hl := hr.1
  have HR := hide hr
  clear hr
  obtain ⟨b, HB⟩ : ∃ b, Hid (perB 1000000 fs = b) := ⟨_, rfl⟩
  cases b with
  | false =>
    have e : bestG fs = [] := by
      have h := unhide HB
      rw [sym_freqs] at h
      rw [bestG, h]; rfl
    rw [e]
    go_enter Try.func16, Try.ntmps16
    go_wp2_with fail
    refine (implPer ao n cap fs w (unhide HR) hn0 1000000 false HB).mono ?_
    rintro e w1 ⟨rfl, rfl⟩
    go_wp2
    go_ret
    exact ⟨_, rfl, ⟨rfl, .inl ⟨rfl, rfl⟩⟩, World.grownBy.refl _ _⟩
  | true =>
    have hfs : freqsB fs = true := by have h := unhide HB; rwa [sym_freqs] at h
    have hn : n ≤ 256 := by have := (freqs_parts hfs).1; omega
    have h0 : ∀ s, 0 ≤ fs.getD s 0 := fun s => by
      by_cases hs : s < fs.length
      · exact ((freqs_parts hfs).2.1 s hs).1
      · rw [List.getD_eq_getElem?_getD, List.getElem?_eq_none (by omega)]; simp
    have HBL : Hid ((bestG fs).length = n) := by unfold Hid; rw [best_len hfs, hl]
    obtain ⟨i0, hi, hz0, hz1, hz2⟩ := info_parts info_i9
    have HL := hide hl
    have HFS := hide hfs
    have H0 := hide h0
    clear hl hfs h0
    go_enter Try.func16, Try.ntmps16
    go_wp2_with fail
    refine (implPer ao n cap fs w (unhide HR) hn0 1000000 true HB).mono ?_
    rintro e w1 ⟨rfl, rfl⟩
    go_wp2_with (at_make; refine wpList_make_full _ rfl _ _ 24 rfl w1.heap.size 3 i0 (.int .i64 0) 1 Try.underlying24 hi hz0 hz1 .i64 .i64 _ _ n rfl rfl rfl rfl (by rw [hz2]; omega) (by unfold maxLen; omega) (Nat.le_refl _) ?_)
    intro w2 hown hgrow
    have HO2 : Hid (w2.ownsRow w1.heap.size 3 1 (.slice (some ⟨w1.heap.size, 0, none⟩) n n) n ((cntS n []).map (Value.int .i64))) := by
      unfold Hid
      have e : (madeCells #[Value.int .i64 0] n).toList = List.replicate n (.int .i64 0) := toList_madeCells_one _ _
      have h2 := hown
      rw [cntS_nil, List.map_replicate, ← e]
      simpa [Value.cells] using h2
    have HG2 := hide hgrow
    have HS2 : Hid (w1.heap.size < w2.heap.size) := (hown.lt _ rfl).2
    have HRW := hide ((unhide HR).grown hgrow)
    clear hown hgrow hi hz0 hz1 hz2
    go_wp2_with fail
    refine (implCoins ao n cap fs w2 (unhide HRW) hn (unhide H0)).mono ?_
    rintro e w3 ⟨u3, C, rfl, hlst3, hg3, hC3, hlow3⟩
    obtain ⟨co, cc, rfl, _⟩ := hlst3.form
    have HCN := hide (implCounted (unhide HFS) co C.length cc C w3 hlst3 rfl (coins_lev hC3) w2.heap.size hg3.size hlow3)
    have HO3 := hide (own_grown (unhide HO2) hg3)
    have HG3 := hide (grown_trans (unhide HG2) hg3)
    clear hlst3 hg3 hC3 hlow3 HO2 HG2
    generalize C.length = cl at *
    go_wp2_with fail
    refine (unhide HCN).mono ?_
    rintro e w4 ⟨bo, dk, cb, D, rfl, hdl, hlst4, hg4, hcd, hlow4⟩
    have HO4 := hide (own_grown (unhide HO3) hg4)
    have HG4 := hide (grown_trans (unhide HG3) hg4)
    have HROW := hide (row_apart hlst4 hdl (unhide HO4))
    have HSYM : Hid (∀ x ∈ D, ∀ b off, x.co = some ⟨b, off, none⟩ → b ≠ w1.heap.size) := fun x hx b off e => by
      have := hlow4 x hx b off e
      have := unhide HS2
      omega
    obtain ⟨p1, p2, p3⟩ := hcd.parts (unhide HFS)
    have HEND := hide (counted_best (unhide HFS) hcd)
    rw [unhide HL] at HEND
    have HP2 := hide p2
    have HP3 : Hid (∀ x ∈ D, ∀ s ∈ x.ss, ∃ t : Nat, t < n ∧ s = (t : Int)) := fun x hx s hs => by
      obtain ⟨t, ht, e⟩ := p3 x hx s hs
      exact ⟨t, by have := ((order_mem fs fs.length t).1 ht).1; rw [unhide HL] at this; exact this, e⟩
    have HDL := hide hdl
    have HLST := hide hlst4
    have hdk : dk ≤ 512 := by omega
    have HO4' : Hid (w4.ownsRow w1.heap.size 3 1 (.slice (some ⟨w1.heap.size, 0, none⟩) n n) n ((cntS n (allS (D.take 0))).map (Value.int .i64))) := by unfold Hid; rw [List.take_zero]; exact unhide HO4
    clear hdl hlst4 hg4 hcd hlow4 p1 p2 p3 HCN HO3 HG3 HO4
    go_wp2
    go_loopw [18] (fun iv wr => ∃ (i : Nat), i ≤ dk ∧ iv = .int .i64 i ∧ Hid (wr.ownsRow w1.heap.size 3 1 (.slice (some ⟨w1.heap.size, 0, none⟩) n n) n ((cntS n (allS (D.take i))).map (Value.int .i64))) ∧ Hid (Lst wr (.slice bo dk cb) D) ∧ Hid (w1.grownBy wr none)) (fun iv _ => dk - (intOf iv).toNat)
    case atStart => exact ⟨0, Nat.zero_le _, rfl, HO4', HLST, HG4⟩
    case round =>
      clear HO4' HLST HG4
      obtain ⟨i, hid, rfl, ho, hlst, hg⟩ := hrel
      by_cases hlt : i < dk
      · have hiI : (i : Int) < (dk : Int) := by omega
        obtain ⟨bo', cb', e', hrd, hcap⟩ := (unhide hlst).form
        have hrd2 : RdP wr bo dk D := by
          simp only [Value.slice.injEq] at e'
          obtain ⟨rfl, h3, rfl⟩ := e'
          rw [← h3] at hrd
          exact hrd
        obtain ⟨bb, off, rfl, c0, c1, c2⟩ := hrd2.2 i hlt
        have hmem : at_ D i ∈ D := by
          have hi2 : i < D.length := by rw [unhide HDL]; exact hlt
          have e : at_ D i = D[i] := by simp [at_, hi2]
          rw [e]; exact List.getElem_mem _
        have hxr := (unhide hlst).rd _ hmem
        have hxs := unhide HSYM _ hmem
        have hxl := unhide HP2 _ hmem
        have hxt := unhide HP3 _ hmem
        have hat := allS_take (D := D) (i := i) (by rw [unhide HDL]; exact hlt)
        have hal := allS_len 32768 (D.take i) (fun x hx => unhide HP2 x (List.mem_of_mem_take hx))
        have hal2 : (D.take i).length = i := by rw [List.length_take, unhide HDL]; omega
        rw [hal2] at hal
        clear e' hrd hcap hrd2 hmem hal2
        generalize at_ D i = x at *
        obtain ⟨xw, xo, xc, xs, xk⟩ := x
        dsimp only at c0 c1 c2 hxr hxs hxl hxt hat
        obtain ⟨xn, hxn⟩ : ∃ xn, xs.length = xn := ⟨_, rfl⟩
        rw [hxn] at c1 hxr hxl
        obtain ⟨wo, rfl⟩ : ∃ wo, wo = wr := ⟨wr, rfl⟩
        have HXN := hide hxn
        have HXT := hide hxt
        have HAT := hide hat
        obtain ⟨F, HF⟩ : ∃ F, Hid (allS (D.take i) = F) := ⟨_, rfl⟩
        rw [unhide HF] at ho hal HAT
        have hFl : F.length ≤ 16777216 := by omega
        have HFL := hide hFl
        obtain ⟨w5, HW5⟩ : ∃ w5, Hid (wo.alloc (.cells #[.int .i64 xw, .slice xo xn xc, .int .i64 xk] 54) = w5) := ⟨_, rfl⟩
        have g5 : wo.grownBy w5 none := by rw [← unhide HW5]; exact World.grownBy_alloc _ _ _
        have b5 : w5.heap[wo.heap.size]? = some (.cells #[.int .i64 xw, .slice xo xn xc, .int .i64 xk] 54 (0, 0)) := by rw [← unhide HW5]; exact heap_alloc_new wo _
        have HO5 := hide (own_grown (unhide ho) g5)
        have HL5 := hide ((unhide hlst).more g5)
        have HG5 := hide (grown_trans (unhide hg) g5)
        have HX5 := hide (hxr.grown g5)
        have HXS := hide hxs
        have HO5' : Hid (w5.ownsRow w1.heap.size 3 1 (.slice (some ⟨w1.heap.size, 0, none⟩) n n) n ((cntS n (F ++ xs.take 0)).map (Value.int .i64))) := by unfold Hid; rw [List.take_zero, List.append_nil]; exact unhide HO5
        clear hxr hxs hxt hat hal ho hlst hg g5 b5 hxn hFl HF
        go_wp2
        rw [unhide HW5]
        go_loopw [25] (fun jv wq => ∃ (j : Nat), j ≤ xn ∧ jv = .int .i64 j ∧ Hid (wq.ownsRow w1.heap.size 3 1 (.slice (some ⟨w1.heap.size, 0, none⟩) n n) n ((cntS n (F ++ xs.take j)).map (Value.int .i64))) ∧ Hid (Lst wq (.slice (some ⟨bb, off, none⟩) dk cb) D) ∧ Hid (w1.grownBy wq none) ∧ Hid (Rd .i64 wq xo xn xs)) (fun jv _ => xn - (intOf jv).toNat)
        case atStart => exact ⟨0, Nat.zero_le _, rfl, HO5', HL5, HG5, HX5⟩
        case round =>
          clear HO5' HO5 HL5 HG5 HX5 HW5
          obtain ⟨j, hj, rfl, hoj, hlj, hgj, hxj⟩ := hrel
          by_cases hjl : j < xn
          · have hjI : (j : Int) < (xn : Int) := by omega
            obtain ⟨sb, sof, rfl, hcs⟩ := (unhide hxj).2 j hjl
            have hjx : j < xs.length := by rw [unhide HXN]; exact hjl
            have hgd : xs.getD j 0 = xs[j] := by simp [hjx]
            obtain ⟨t, ht, e⟩ := unhide HXT (xs.getD j 0) (by rw [hgd]; exact List.getElem_mem _)
            have htk : F ++ xs.take (j + 1) = (F ++ xs.take j) ++ [(t : Int)] := by
              rw [List.take_succ_eq_append_getElem hjx, ← hgd, e, List.append_assoc]
            rw [e] at hcs
            obtain ⟨Fj, HFJ⟩ : ∃ Fj, Hid (F ++ xs.take j = Fj) := ⟨_, rfl⟩
            have hFjl : Fj.length ≤ 16777216 + 32768 := by
              rw [← unhide HFJ, List.length_append, List.length_take]
              have := unhide HFL
              omega
            rw [unhide HFJ] at hoj htk
            have hcnt : Fj.count (t : Int) ≤ Fj.length := List.count_le_length
            have hcell : wr.cell? ⟨w1.heap.size, t, none⟩ = some (.int .i64 ((Fj.count (t : Int) : Nat) : Int)) := by
              rw [(unhide hoj).cellAt t (by omega), List.getElem?_map]
              have : (cntS n Fj)[t]? = some ((Fj.count (t : Int) : Nat) : Int) := by simp [cntS, ht]
              rw [this]; rfl
            have hfz := (unhide hoj).frozenAt t
            have hst := (unhide hoj).stored t (.int .i64 (((Fj.count (t : Int) : Nat) : Int) + 1))
            have hset : ((cntS n Fj).map (Value.int .i64)).set t (.int .i64 (((Fj.count (t : Int) : Nat) : Int) + 1)) = (cntS n (Fj ++ [(t : Int)])).map (Value.int .i64) := by
              rw [← cntS_add, List.map_set]
            rw [hset, ← htk] at hst
            have HST := hide hst.1
            have HGS := hide (grown_new (unhide hgj) hst.2 (fun q e => by have := Option.some.inj e; omega))
            have HLS := hide ((unhide hlj).beside hst.2 (unhide HDL) (unhide HSYM) (unhide HROW))
            have HXJ : Hid (Rd .i64 (wr.setCell ⟨w1.heap.size, t, none⟩ (.int .i64 (((Fj.count (t : Int) : Nat) : Int) + 1))) (some ⟨sb, sof, none⟩) xn xs) := by
              have h1 := unhide hxj
              have h2 := rd_besideP (h := ⟨xw, some ⟨sb, sof, none⟩, xc, xs, xk⟩) (by rw [unhide HXN]; exact h1) hst.2 (fun b off e e2 => unhide HXS b off e (Option.some.inj e2).symm)
              rw [unhide HXN] at h2
              exact h2
            generalize Fj.count (t : Int) = cn at *
            have e5 := i64_in ((cn : Int) + 1) (by omega)
            have htI : (t : Int) < (n : Int) := by omega
            clear hst hset htk hoj hlj hgj hxj HFJ hcnt hFjl hgd e
            go_wp2
            go_roundw
            case rel => exact ⟨j + 1, by omega, by go_num, HST, HLS, HGS, HXJ⟩
            case measure => simp [intOf]; omega
          · obtain rfl : j = xn := by omega
            have HOX : Hid (wr.ownsRow w1.heap.size 3 1 (.slice (some ⟨w1.heap.size, 0, none⟩) n n) n ((cntS n (allS (D.take (i + 1)))).map (Value.int .i64))) := by
              have h1 := unhide hoj
              rw [← unhide HXN, List.take_length, ← unhide HAT] at h1
              exact h1
            clear hoj hxj
            go_wp2
            go_roundw
            case rel => exact ⟨i + 1, by omega, by go_num, HOX, hlj, hgj⟩
            case measure => simp [intOf]; omega
      · obtain rfl : i = dk := by omega
        have HOX : Hid (wr.ownsRow w1.heap.size 3 1 (.slice (some ⟨w1.heap.size, 0, none⟩) n n) n ((bestG fs).map (Value.int .i64))) := by
          have h1 := unhide ho
          rw [← unhide HDL, List.take_length, unhide HEND] at h1
          exact h1
        clear ho hlst
        go_wp2
        go_ret
        exact ⟨_, rfl, by rw [unhide HBL]; exact unhide HOX, unhide hg⟩

end Go.Proofs.Ytcbaiagkdphkeaa
