/-
  CoefOk, LeftPure, DeepA, TreeGA, AppIntS.
-/
import Derived.Deep.RegionHeld3
import Derived.Deep.QuietTactic
import Derived.BigQuiet
import Derived.Maps.AppendAt
import Derived.Deep.AppendLies
import Derived.Test.YtjkokbijnaodnaaGreatRows
import Derived.Test.YtjkokbijnaodnaaGreatMAe

namespace Go.Proofs.YtjkokbijnaodnaaGreat
open Go.RowKit

theorem hid_at {wd ht : Int} {n : Nat} {C : Nat → Nat → Int} {c k bw : Nat} : hiddenI wd ht n C c ((k / bw : Nat) : Int) ((k % bw : Nat) : Int) = hidB bw (nwG wd n C c) (nhG ht n C c) k := by
  unfold hiddenI hidB
  congr 1
  · apply decide_eq_decide.2; omega
  · apply decide_eq_decide.2; omega
theorem all_range {f : Nat → Bool} (k : Nat) : (List.range (k + 1)).all f = ((List.range k).all f && f k) := by rw [List.range_succ, List.all_append]; simp
theorem all_range_no {f : Nat → Bool} {k n : Nat} (hk : k < n) (h : f k = false) : (List.range n).all f = false := by
  cases hx : (List.range n).all f with
  | false => rfl
  | true => rw [List.all_eq_true.1 hx k (List.mem_range.2 hk)] at h; exact h

set_option maxRecDepth 20000 in
set_option maxHeartbeats 6400000 in
theorem specCoefsOk (p wd ht rs : Int) (ao : Option Addr) (n cap : Nat) (C : Nat → Nat → Int) (v : Value) (X : List (List (List Int))) (w : World) (hr : RdC w ao n C) (hx : Rd3 w v X) (hs : szCo X ≤ 1048576) (fb b : Bool) (HFB : Hid (frameB p wd ht rs n C = fb)) (HB : Hid (coefsOkF fb wd ht n C X = b)) :
    Calls Tryz.prog 37 #[.agg #[.int .i64 p, .int .i64 wd, .int .i64 ht, .int .i64 rs, .slice ao n cap], .agg #[v]] w fun e w' => e = .returned (.bool b) ∧ w.grownBy w' none := by
  obtain ⟨xo, xc, rfl, hel⟩ := id hx
  obtain ⟨W2, hW2⟩ : ∃ W2, ((w.alloc (.cells #[.int .i64 p, .int .i64 wd, .int .i64 ht, .int .i64 rs, .slice ao n cap] 37)).alloc (.cells #[.slice xo X.length xc] 38)) = W2 := ⟨_, rfl⟩
  have G0 : w.grownBy W2 none := by rw [← hW2]; exact grown_alloc (grown_alloc (World.grownBy.refl _ _) _) _
  have B0 : Hid (W2.heap[w.heap.size]? = some (.cells #[.int .i64 p, .int .i64 wd, .int .i64 ht, .int .i64 rs, .slice ao n cap] 37 (0, 0))) := by
    unfold Hid
    rw [← hW2, Below.heap_alloc _ _ _ (by simp)]
    exact heap_alloc_new w _
  have B1 : Hid (W2.heap[w.heap.size + 1]? = some (.cells #[.slice xo X.length xc] 38 (0, 0))) := by
    unfold Hid
    rw [← hW2]
    have := heap_alloc_new (w.alloc (.cells #[.int .i64 p, .int .i64 wd, .int .i64 ht, .int .i64 rs, .slice ao n cap] 37)) (.cells #[.slice xo X.length xc] 38)
    simpa using this
  have HFO := hide (specFrameOk p wd ht rs ao n cap C W2 (hr.grown G0) fb HFB)
  have HW := hide hW2
  have HG0 := hide G0
  have HR := hide hr
  have HEL := hide hel
  have HS := hide hs
  have hlen : X.length ≤ 1048576 := Nat.le_trans (szR_len _ X) hs
  have HLEN := hide hlen
  obtain ⟨m, HM⟩ : ∃ m, Hid (X.length = m) := ⟨_, rfl⟩
  rw [unhide HM] at B1 HW hlen ⊢
  clear hW2 G0 hr hx hel hs
  cases fb with
  | false =>
    have e : b = false := by rw [← unhide HB]; rfl
    subst e
    clear HB
    go_enter Tryz.func37, Tryz.ntmps37
    go_wp2_with fail
    rw [unhide HW]
    refine (unhide HFO).mono ?_
    rintro e w1 ⟨rfl, g1⟩
    have HG1 := hide (grown_trans (unhide HG0) g1)
    clear g1 HFO
    go_wp2
    go_ret
    exact ⟨rfl, unhide HG1⟩
  | true =>
    have hg := geo_of (unhide HFB)
    have hn4 := hg.n4
    have HG := hide hg
    obtain ⟨f, HF⟩ : ∃ f : Nat → Bool, Hid ((fun c => planeB (bwG wd n C c) (bhG ht n C c) (nwG wd n C c) (nhG ht n C c) (X.getD c [])) = f) := ⟨_, rfl⟩
    have HBE : Hid (b = (decide (m = n) && (List.range m).all f)) := by
      have h := unhide HB
      unfold coefsOkF coefsOkB at h
      rw [unhide HF, unhide HM] at h
      exact h.symm
    clear hg HB
    by_cases hmn : m = n
    · subst hmn
      have hne : ((m : Int) != (m : Int)) = false := by simp
      have HBE2 : Hid (b = (List.range m).all f) := by have h := unhide HBE; rw [decide_eq_true rfl] at h; exact h
      clear HBE
      go_enter Tryz.func37, Tryz.ntmps37
      go_wp2_with fail
      rw [unhide HW]
      refine (unhide HFO).mono ?_
      rintro e w1 ⟨rfl, g1⟩
      have HG1 := hide (grown_trans (unhide HG0) g1)
      have HB0 := hide (grown_atT g1 (unhide B0) (by simp))
      have HB1 := hide (grown_atT g1 (unhide B1) (by simp))
      have c4 := (frameCells' (unhide HB0)).2.2.2.2
      have d0 : w1.cell? ⟨w.heap.size + 1, 0, none⟩ = some (.slice xo m xc) := by rw [cell_of_row w1 _ 0 _ _ (0, 0) (unhide HB1)]; rfl
      clear g1 HFO B0 B1 HG0
      go_wp2
      clear c4 d0
      go_loopw [5] (fun iv wr => ∃ i : Nat, i ≤ m ∧ iv = .int .i64 i ∧ Hid ((List.range i).all f = true) ∧ Hid (w1.grownBy wr none)) (fun iv _ => m - (intOf iv).toNat)
      case atStart => exact ⟨0, Nat.zero_le _, rfl, rfl, World.grownBy.refl _ _⟩
      case round =>
        obtain ⟨i, hi, rfl, ha, hgw⟩ := hrel
        have HBF := hide (grown_atT (unhide hgw) (unhide HB0) (by simp))
        have hbx := grown_atT (unhide hgw) (unhide HB1) (by simp)
        have d0 : wr.cell? ⟨w.heap.size + 1, 0, none⟩ = some (.slice xo m xc) := by rw [cell_of_row wr _ 0 _ _ (0, 0) hbx]; rfl
        have HGW := hide (grown_trans (unhide HG1) (unhide hgw))
        clear hbx
        by_cases hlt : i < m
        · have hia : i < X.length := by rw [unhide HM]; exact hlt
          have hal := all_range (f := f) i
          have hno := all_range_no (f := f) hlt
          have hd := dims_of (unhide HG) i hlt
          have HT := hide (specBlocks p wd ht rs ao m cap C wr ((unhide HR).grown (unhide HGW)) _ _ (unhide HG) i hlt _ _ rfl rfl)
          rw [hd.bw, hd.bh] at HT
          have hbw := hd.bw1
          have hbh := hd.bh1
          obtain ⟨pb, poff, pu, rfl, pc0, pq⟩ := unhide HEL i hia
          obtain ⟨po, pcap, rfl, pel⟩ := pq
          have HPE := hide pel
          have hsz := (szR_el (szR lenI) X i hia).2
          have hpl : X[i].length ≤ 1048576 := Nat.le_trans (szR_len lenI X[i]) (Nat.le_trans hsz (unhide HS))
          have HSP : Hid (szR lenI X[i] ≤ 1048576) := Nat.le_trans hsz (unhide HS)
          have hfi : f i = planeB (bwG wd m C i) (bhG ht m C i) (nwG wd m C i) (nhG ht m C i) X[i] := by
            rw [← unhide HF]
            dsimp only
            congr 1
            simp [hia]
          have HPI : Hid (∀ k, hiddenI wd ht m C i ((k / bwG wd m C i : Nat) : Int) ((k % bwG wd m C i : Nat) : Int) = hidB (bwG wd m C i) (nwG wd m C i) (nhG ht m C i) k) := fun k => hid_at
          obtain ⟨bw, HBW⟩ : ∃ bw, Hid (bwG wd m C i = bw) := ⟨_, rfl⟩
          obtain ⟨bh, HBH⟩ : ∃ bh, Hid (bhG ht m C i = bh) := ⟨_, rfl⟩
          rw [unhide HBW] at HT hbw hfi HPI
          rw [unhide HBH] at HT hbh hfi
          generalize nwG wd m C i = nw at hfi HPI
          generalize nhG ht m C i = nh at hfi HPI
          generalize X[i] = Pl at *
          have hm : bw * bh ≤ 128 * 128 := Nat.mul_le_mul hbw.2 hbh.2
          obtain ⟨bn, hbn⟩ : ∃ bn, bw * bh = bn := ⟨_, rfl⟩
          have e3 : (bw : Int) * (bh : Int) = (bn : Int) := by rw [← hbn]; simp
          rw [hbn] at hm
          have e4 := i64_in (bn : Int) (by omega)
          obtain ⟨g, HGG⟩ : ∃ g : Nat → Bool, Hid ((fun k => blockB (hidB bw nw nh k) (Pl.getD k [])) = g) := ⟨_, rfl⟩
          obtain ⟨pl, HPL⟩ : ∃ pl, Hid (Pl.length = pl) := ⟨_, rfl⟩
          have hfi2 : f i = (decide (pl = bn) && (List.range pl).all g) := by rw [hfi]; unfold planeB; rw [unhide HGG, unhide HPL, hbn]
          have hiI : (i : Int) < (m : Int) := by omega
          rw [unhide HPL] at hpl pc0
          have HFI := hide hfi2
          have HAL := hide hal
          have HNO := hide hno
          obtain ⟨f0, f1, f2, f3, f4⟩ := frameCells' (unhide HBF)
          clear hd hsz hfi hfi2 hal hno pel hbn
          go_wp2_with fail
          refine (unhide HT).mono ?_
          rintro e w2 ⟨rfl, g2⟩
          have HG2 := hide (grown_trans (unhide hgw) g2)
          have hb0 := grown_atT g2 (unhide HBF) (by simp)
          have hb1 := grown_atT (unhide HG2) (unhide HB1) (by simp)
          have d2 : w2.cell? ⟨w.heap.size + 1, 0, none⟩ = some (.slice (some ⟨pb, poff, none⟩) m xc) := by rw [cell_of_row w2 _ 0 _ _ (0, 0) hb1]; rfl
          have p2 := (grown_trans (unhide HG1) (unhide HG2)).cell pc0 (by simp)
          have HGB := hide (grown_trans (unhide HG1) (unhide HG2))
          clear f0 f1 f2 f3 f4 HT g2 hb0 hb1 HBF d0
          by_cases hpn : pl = bn
          · subst hpn
            have hne2 : ((pl : Int) != (pl : Int)) = false := by simp
            go_wp2
            clear d2 p2
            go_loopw [8] (fun kv wr2 => ∃ k : Nat, k ≤ pl ∧ kv = .int .i64 k ∧ Hid ((List.range k).all g = true) ∧ Hid (w1.grownBy wr2 none)) (fun kv _ => pl - (intOf kv).toNat)
            case atStart => exact ⟨0, Nat.zero_le _, rfl, rfl, HG2⟩
            case round =>
              clear HG2 HGB HGW hgw
              obtain ⟨k, hk, rfl, hka, hgw⟩ := hrel
              have HBF := hide (grown_atT (unhide hgw) (unhide HB0) (by simp))
              have hbx := grown_atT (unhide hgw) (unhide HB1) (by simp)
              have d0 : wr.cell? ⟨w.heap.size + 1, 0, none⟩ = some (.slice (some ⟨pb, poff, none⟩) m xc) := by rw [cell_of_row wr _ 0 _ _ (0, 0) hbx]; rfl
              have HGW := hide (grown_trans (unhide HG1) (unhide hgw))
              have p0 := (unhide HGW).cell pc0 (by simp)
              clear hbx
              by_cases hkl : k < pl
              · have hka2 : k < Pl.length := by rw [unhide HPL]; exact hkl
                obtain ⟨kb, koff, ku, rfl, kc0, kq⟩ := unhide HPE k hka2
                obtain ⟨zo, zcap, rfl, zr⟩ := kq
                have z0 := (unhide HGW).cell kc0 (by simp)
                have hzl : Pl[k].length ≤ 1048576 := Nat.le_trans ((szR_el lenI Pl k hka2).2) (unhide HSP)
                have hgk : g k = blockB (hidB bw nw nh k) Pl[k] := by rw [← unhide HGG]; dsimp only; congr 1; simp [hka2]
                have hak := all_range (f := g) k
                have hnk := all_range_no (f := g) hkl
                generalize Pl[k] = zs at *
                have HZ := hide (zr.grown (unhide HGW))
                obtain ⟨zn, HZN⟩ : ∃ zn, Hid (zs.length = zn) := ⟨_, rfl⟩
                rw [unhide HZN] at HZ z0 hzl
                have hkI : (k : Int) < (pl : Int) := by omega
                obtain ⟨lv, HLV⟩ : ∃ lv, Hid (levB (-16383) 16383 zs = lv) := ⟨_, rfl⟩
                obtain ⟨f0, f1, f2, f3, f4⟩ := frameCells' (unhide HBF)
                obtain ⟨kr, HKR⟩ : ∃ kr, Hid (k / bw = kr) := ⟨_, rfl⟩
                obtain ⟨kc, HKC⟩ : ∃ kc, Hid (k % bw = kc) := ⟨_, rfl⟩
                have e5 : (k : Int).tdiv (bw : Int) = (kr : Int) := by rw [Int.tdiv_eq_ediv_of_nonneg (by omega), ← unhide HKR]; simp
                have e6 : (k : Int).tmod (bw : Int) = (kc : Int) := by rw [Int.tmod_eq_emod_of_nonneg (by omega), ← unhide HKC]; simp
                have hkr : kr ≤ k := by rw [← unhide HKR]; exact Nat.div_le_self _ _
                have hkc : kc ≤ k := by rw [← unhide HKC]; exact Nat.mod_le _ _
                have hkp : k ≤ 16384 := by omega
                have e7 := i64_in (kr : Int) (by omega)
                have e8 := i64_in (kc : Int) (by omega)
                have hb0 : ((bw : Int) == 0) = false := beq_false_of_ne (by omega)
                have hb1 : ((bw : Int) == -1) = false := beq_false_of_ne (by omega)
                have hbz : ¬ bw = 0 := by omega
                have HZD := hide ((unhide HZ).grown (grown_drew (World.grownBy.refl wr none)))
                have KEEP : Hid (∀ W, wr.drew.grownBy W none → W.cell? ⟨w.heap.size, 0, none⟩ = some (.int .i64 p) ∧ W.cell? ⟨w.heap.size, 1, none⟩ = some (.int .i64 wd) ∧ W.cell? ⟨w.heap.size, 2, none⟩ = some (.int .i64 ht) ∧ W.cell? ⟨w.heap.size, 3, none⟩ = some (.int .i64 rs) ∧ W.cell? ⟨w.heap.size, 4, none⟩ = some (.slice ao m cap)) := fun W gW => frameCells' (grown_atT (grown_trans (grown_drew (World.grownBy.refl wr none)) gW) (unhide HBF) (by simp))
                cases lv with
                | false =>
                  have e : b = false := by
                    rw [unhide HBE2]
                    refine unhide HNO ?_
                    rw [unhide HFI, hnk (by rw [hgk, blockB, unhide HLV, Bool.false_and])]; simp
                  subst e
                  clear hak hnk hgk
                  go_wp2
                  refine wp_region_noPanic ?_
                  refine wp_region_raw (fun w' => w'.cell? ⟨w.heap.size, 0, none⟩ = some (.int .i64 p) ∧ w'.cell? ⟨w.heap.size, 1, none⟩ = some (.int .i64 wd) ∧ w'.cell? ⟨w.heap.size, 2, none⟩ = some (.int .i64 ht) ∧ w'.cell? ⟨w.heap.size, 3, none⟩ = some (.int .i64 rs) ∧ w'.cell? ⟨w.heap.size, 4, none⟩ = some (.slice ao m cap)) [true, false, false, false, false, false, false, false, false, false, false, false, false, false, false, false, false, false, false, false] (by kernel_rfl) (fun _ _ _ _ _ h => h) rfl (by kernel_rfl) ⟨f0, f1, f2, f3, f4⟩ ?_
                  refine heldF_take (v := ?_) (Or.inl ⟨by rfl, ?_⟩) ?_
                  rotate_left 1
                  · intro w' hSw
                    go_simp
                    try with_reducible rfl
                  try simp only [Act.put, List.setIfInBounds_toArray, List.set_cons_zero, List.set_cons_succ]
                  iterate 19 refine heldF_skip ?_
                  refine heldF_nil ?_
                  refine anyH_step1 (i := 1) rfl (by kernel_rfl) (fun K hK => ?_)
                  go_simp
                  refine (specLevel zo zn zcap zs wr.drew (unhide HZD) false HLV).mono ?_
                  rintro e w5 ⟨rfl, g5⟩
                  have HS5 := hide (unhide KEEP _ g5)
                  have HG5 := hide g5
                  clear g5
                  go_simp
                  refine hK.out _ _ (unhide HS5) ?_
                  clear hK K
                  try simp only [Act.put, List.setIfInBounds_toArray, List.set_cons_zero, List.set_cons_succ]
                  refine anyH_take1 (i := 2) (v := ?_) rfl (by kernel_rfl) (fun _ _ _ _ _ h => h) (unhide HS5) (Or.inl ⟨by rfl, ?_⟩) ?_
                  rotate_left 1
                  · intro w' hSw
                    try dsimp only at hSw
                    obtain ⟨z0, z1, z2, z3, z4⟩ := hSw
                    go_simp
                    try with_reducible rfl
                  try simp only [Act.put, List.setIfInBounds_toArray, List.set_cons_zero, List.set_cons_succ]
                  refine anyH_take1 (i := 3) (v := ?_) rfl (by kernel_rfl) (fun _ _ _ _ _ h => h) (unhide HS5) (Or.inl ⟨by rfl, ?_⟩) ?_
                  rotate_left 1
                  · intro w' hSw
                    try dsimp only at hSw
                    obtain ⟨z0, z1, z2, z3, z4⟩ := hSw
                    go_simp
                    try with_reducible rfl
                  try simp only [Act.put, List.setIfInBounds_toArray, List.set_cons_zero, List.set_cons_succ]
                  refine anyH_take1 (i := 4) (v := undef) rfl (by kernel_rfl) (fun _ _ _ _ _ h => h) (unhide HS5) (Or.inr ⟨by rfl, rfl⟩) ?_
                  try simp only [Act.put, List.setIfInBounds_toArray, List.set_cons_zero, List.set_cons_succ]
                  refine anyH_take1 (i := 5) (v := undef) rfl (by kernel_rfl) (fun _ _ _ _ _ h => h) (unhide HS5) (Or.inr ⟨by rfl, rfl⟩) ?_
                  try simp only [Act.put, List.setIfInBounds_toArray, List.set_cons_zero, List.set_cons_succ]
                  refine anyH_take1 (i := 6) (v := undef) rfl (by kernel_rfl) (fun _ _ _ _ _ h => h) (unhide HS5) (Or.inr ⟨by rfl, rfl⟩) ?_
                  try simp only [Act.put, List.setIfInBounds_toArray, List.set_cons_zero, List.set_cons_succ]
                  refine anyH_take1 (i := 7) (v := undef) rfl (by kernel_rfl) (fun _ _ _ _ _ h => h) (unhide HS5) (Or.inr ⟨by rfl, rfl⟩) ?_
                  try simp only [Act.put, List.setIfInBounds_toArray, List.set_cons_zero, List.set_cons_succ]
                  refine anyH_take1 (i := 8) (v := undef) rfl (by kernel_rfl) (fun _ _ _ _ _ h => h) (unhide HS5) (Or.inr ⟨by rfl, rfl⟩) ?_
                  try simp only [Act.put, List.setIfInBounds_toArray, List.set_cons_zero, List.set_cons_succ]
                  refine anyH_take1 (i := 9) (v := undef) rfl (by kernel_rfl) (fun _ _ _ _ _ h => h) (unhide HS5) (Or.inr ⟨by rfl, rfl⟩) ?_
                  try simp only [Act.put, List.setIfInBounds_toArray, List.set_cons_zero, List.set_cons_succ]
                  refine anyH_take1 (i := 10) (v := undef) rfl (by kernel_rfl) (fun _ _ _ _ _ h => h) (unhide HS5) (Or.inr ⟨by rfl, rfl⟩) ?_
                  try simp only [Act.put, List.setIfInBounds_toArray, List.set_cons_zero, List.set_cons_succ]
                  refine anyH_take1 (i := 11) (v := undef) rfl (by kernel_rfl) (fun _ _ _ _ _ h => h) (unhide HS5) (Or.inr ⟨by rfl, rfl⟩) ?_
                  try simp only [Act.put, List.setIfInBounds_toArray, List.set_cons_zero, List.set_cons_succ]
                  refine anyH_take1 (i := 12) (v := undef) rfl (by kernel_rfl) (fun _ _ _ _ _ h => h) (unhide HS5) (Or.inr ⟨by rfl, rfl⟩) ?_
                  try simp only [Act.put, List.setIfInBounds_toArray, List.set_cons_zero, List.set_cons_succ]
                  refine anyH_take1 (i := 13) (v := undef) rfl (by kernel_rfl) (fun _ _ _ _ _ h => h) (unhide HS5) (Or.inr ⟨by rfl, rfl⟩) ?_
                  try simp only [Act.put, List.setIfInBounds_toArray, List.set_cons_zero, List.set_cons_succ]
                  refine anyH_take1 (i := 14) (v := undef) rfl (by kernel_rfl) (fun _ _ _ _ _ h => h) (unhide HS5) (Or.inr ⟨by rfl, rfl⟩) ?_
                  try simp only [Act.put, List.setIfInBounds_toArray, List.set_cons_zero, List.set_cons_succ]
                  refine anyH_take1 (i := 15) (v := undef) rfl (by kernel_rfl) (fun _ _ _ _ _ h => h) (unhide HS5) (Or.inr ⟨by rfl, rfl⟩) ?_
                  try simp only [Act.put, List.setIfInBounds_toArray, List.set_cons_zero, List.set_cons_succ]
                  refine anyH_take1 (i := 16) (v := undef) rfl (by kernel_rfl) (fun _ _ _ _ _ h => h) (unhide HS5) (Or.inr ⟨by rfl, rfl⟩) ?_
                  try simp only [Act.put, List.setIfInBounds_toArray, List.set_cons_zero, List.set_cons_succ]
                  refine anyH_take1 (i := 17) (v := undef) rfl (by kernel_rfl) (fun _ _ _ _ _ h => h) (unhide HS5) (Or.inr ⟨by rfl, rfl⟩) ?_
                  try simp only [Act.put, List.setIfInBounds_toArray, List.set_cons_zero, List.set_cons_succ]
                  refine anyH_take1 (i := 18) (v := undef) rfl (by kernel_rfl) (fun _ _ _ _ _ h => h) (unhide HS5) (Or.inr ⟨by rfl, rfl⟩) ?_
                  try simp only [Act.put, List.setIfInBounds_toArray, List.set_cons_zero, List.set_cons_succ]
                  refine anyH_take1 (i := 19) (v := ?_) rfl (by kernel_rfl) (fun _ _ _ _ _ h => h) (unhide HS5) (Or.inl ⟨by rfl, ?_⟩) ?_
                  rotate_left 1
                  · intro w' hSw
                    try dsimp only at hSw
                    obtain ⟨z0, z1, z2, z3, z4⟩ := hSw
                    go_simp
                    try with_reducible rfl
                  try simp only [Act.put, List.setIfInBounds_toArray, List.set_cons_zero, List.set_cons_succ]
                  refine wpAnyH_done (by kernel_rfl) (NoPanic.normal ?_) _
                  have HFIN := hide (grown_trans (unhide HGW) (grown_trans (grown_drew (World.grownBy.refl wr none)) (unhide HG5)))
                  clear HGW
                  go_wp2
                  go_ret
                  exact ⟨rfl, unhide HFIN⟩
                | true =>
                  have HPK := hide (unhide HPI k)
                  rw [unhide HKR, unhide HKC] at HPK
                  obtain ⟨hd, HHD⟩ : ∃ hd, Hid (hidB bw nw nh k = hd) := ⟨_, rfl⟩
                  rw [unhide HHD] at HPK hgk
                  cases hd with
                  | false =>
                    have HA3 : Hid ((List.range (k + 1)).all g = true) := by unfold Hid; rw [hak, unhide hka, hgk, blockB, unhide HLV]; rfl
                    clear hak hnk hgk
                    go_wp2
                    refine wp_region_noPanic ?_
                    refine wp_region_raw (fun w' => w'.cell? ⟨w.heap.size, 0, none⟩ = some (.int .i64 p) ∧ w'.cell? ⟨w.heap.size, 1, none⟩ = some (.int .i64 wd) ∧ w'.cell? ⟨w.heap.size, 2, none⟩ = some (.int .i64 ht) ∧ w'.cell? ⟨w.heap.size, 3, none⟩ = some (.int .i64 rs) ∧ w'.cell? ⟨w.heap.size, 4, none⟩ = some (.slice ao m cap)) [true, false, false, false, false, false, false, false, false, false, false, false, false, false, false, false, false, false, false, false] (by kernel_rfl) (fun _ _ _ _ _ h => h) rfl (by kernel_rfl) ⟨f0, f1, f2, f3, f4⟩ ?_
                    refine heldF_take (v := ?_) (Or.inl ⟨by rfl, ?_⟩) ?_
                    rotate_left 1
                    · intro w' hSw
                      go_simp
                      try with_reducible rfl
                    try simp only [Act.put, List.setIfInBounds_toArray, List.set_cons_zero, List.set_cons_succ]
                    iterate 19 refine heldF_skip ?_
                    refine heldF_nil ?_
                    refine anyH_step1 (i := 1) rfl (by kernel_rfl) (fun K hK => ?_)
                    go_simp
                    refine (specLevel zo zn zcap zs wr.drew (unhide HZD) true HLV).mono ?_
                    rintro e w5 ⟨rfl, g5⟩
                    have HS5 := hide (unhide KEEP _ g5)
                    have HG5 := hide g5
                    clear g5
                    go_simp
                    refine hK.out _ _ (unhide HS5) ?_
                    clear hK K
                    try simp only [Act.put, List.setIfInBounds_toArray, List.set_cons_zero, List.set_cons_succ]
                    refine anyH_take1 (i := 2) (v := ?_) rfl (by kernel_rfl) (fun _ _ _ _ _ h => h) (unhide HS5) (Or.inl ⟨by rfl, ?_⟩) ?_
                    rotate_left 1
                    · intro w' hSw
                      try dsimp only at hSw
                      obtain ⟨z0, z1, z2, z3, z4⟩ := hSw
                      go_simp
                      try with_reducible rfl
                    try simp only [Act.put, List.setIfInBounds_toArray, List.set_cons_zero, List.set_cons_succ]
                    refine anyH_take1 (i := 3) (v := ?_) rfl (by kernel_rfl) (fun _ _ _ _ _ h => h) (unhide HS5) (Or.inl ⟨by rfl, ?_⟩) ?_
                    rotate_left 1
                    · intro w' hSw
                      try dsimp only at hSw
                      obtain ⟨z0, z1, z2, z3, z4⟩ := hSw
                      go_simp
                      try with_reducible rfl
                    try simp only [Act.put, List.setIfInBounds_toArray, List.set_cons_zero, List.set_cons_succ]
                    refine anyH_take1 (i := 4) (v := ?_) rfl (by kernel_rfl) (fun _ _ _ _ _ h => h) (unhide HS5) (Or.inl ⟨by rfl, ?_⟩) ?_
                    rotate_left 1
                    · intro w' hSw
                      try dsimp only at hSw
                      obtain ⟨z0, z1, z2, z3, z4⟩ := hSw
                      go_simp
                      try with_reducible rfl
                    try simp only [Act.put, List.setIfInBounds_toArray, List.set_cons_zero, List.set_cons_succ]
                    refine anyH_take1 (i := 5) (v := ?_) rfl (by kernel_rfl) (fun _ _ _ _ _ h => h) (unhide HS5) (Or.inl ⟨by rfl, ?_⟩) ?_
                    rotate_left 1
                    · intro w' hSw
                      try dsimp only at hSw
                      obtain ⟨z0, z1, z2, z3, z4⟩ := hSw
                      go_simp
                      try with_reducible rfl
                    try simp only [Act.put, List.setIfInBounds_toArray, List.set_cons_zero, List.set_cons_succ]
                    refine anyH_take1 (i := 6) (v := ?_) rfl (by kernel_rfl) (fun _ _ _ _ _ h => h) (unhide HS5) (Or.inl ⟨by rfl, ?_⟩) ?_
                    rotate_left 1
                    · intro w' hSw
                      try dsimp only at hSw
                      obtain ⟨z0, z1, z2, z3, z4⟩ := hSw
                      go_simp
                      try with_reducible rfl
                    try simp only [Act.put, List.setIfInBounds_toArray, List.set_cons_zero, List.set_cons_succ]
                    refine anyH_take1 (i := 7) (v := ?_) rfl (by kernel_rfl) (fun _ _ _ _ _ h => h) (unhide HS5) (Or.inl ⟨by rfl, ?_⟩) ?_
                    rotate_left 1
                    · intro w' hSw
                      try dsimp only at hSw
                      obtain ⟨z0, z1, z2, z3, z4⟩ := hSw
                      go_simp
                      try with_reducible rfl
                    try simp only [Act.put, List.setIfInBounds_toArray, List.set_cons_zero, List.set_cons_succ]
                    refine anyH_take1 (i := 8) (v := ?_) rfl (by kernel_rfl) (fun _ _ _ _ _ h => h) (unhide HS5) (Or.inl ⟨by rfl, ?_⟩) ?_
                    rotate_left 1
                    · intro w' hSw
                      try dsimp only at hSw
                      obtain ⟨z0, z1, z2, z3, z4⟩ := hSw
                      go_simp
                      try with_reducible rfl
                    try simp only [Act.put, List.setIfInBounds_toArray, List.set_cons_zero, List.set_cons_succ]
                    refine anyH_take1 (i := 9) (v := ?_) rfl (by kernel_rfl) (fun _ _ _ _ _ h => h) (unhide HS5) (Or.inl ⟨by rfl, ?_⟩) ?_
                    rotate_left 1
                    · intro w' hSw
                      try dsimp only at hSw
                      obtain ⟨z0, z1, z2, z3, z4⟩ := hSw
                      go_simp
                      try with_reducible rfl
                    try simp only [Act.put, List.setIfInBounds_toArray, List.set_cons_zero, List.set_cons_succ]
                    refine anyH_take1 (i := 10) (v := ?_) rfl (by kernel_rfl) (fun _ _ _ _ _ h => h) (unhide HS5) (Or.inl ⟨by rfl, ?_⟩) ?_
                    rotate_left 1
                    · intro w' hSw
                      try dsimp only at hSw
                      obtain ⟨z0, z1, z2, z3, z4⟩ := hSw
                      go_simp
                      try with_reducible rfl
                    try simp only [Act.put, List.setIfInBounds_toArray, List.set_cons_zero, List.set_cons_succ]
                    refine anyH_take1 (i := 11) (v := ?_) rfl (by kernel_rfl) (fun _ _ _ _ _ h => h) (unhide HS5) (Or.inl ⟨by rfl, ?_⟩) ?_
                    rotate_left 1
                    · intro w' hSw
                      try dsimp only at hSw
                      obtain ⟨z0, z1, z2, z3, z4⟩ := hSw
                      go_simp
                      try with_reducible rfl
                    try simp only [Act.put, List.setIfInBounds_toArray, List.set_cons_zero, List.set_cons_succ]
                    refine anyH_take1 (i := 12) (v := ?_) rfl (by kernel_rfl) (fun _ _ _ _ _ h => h) (unhide HS5) (Or.inl ⟨by rfl, ?_⟩) ?_
                    rotate_left 1
                    · intro w' hSw
                      try dsimp only at hSw
                      obtain ⟨z0, z1, z2, z3, z4⟩ := hSw
                      go_simp
                      try with_reducible rfl
                    try simp only [Act.put, List.setIfInBounds_toArray, List.set_cons_zero, List.set_cons_succ]
                    refine anyH_step1 (i := 13) rfl (by kernel_rfl) (fun K hK => ?_)
                    go_simp
                    refine (specHidden p wd ht rs ao m cap C w5 ((unhide HR).grown (grown_trans (unhide HGW) (grown_trans (grown_drew (World.grownBy.refl wr none)) (unhide HG5)))) (unhide HG) i hlt (kr : Int) (kc : Int) false HPK).mono ?_
                    rintro e w6 ⟨rfl, g6⟩
                    have HS6 := hide (unhide KEEP _ (grown_trans (unhide HG5) g6))
                    have HG6 := hide (grown_trans (unhide HG5) g6)
                    clear g6
                    go_simp
                    refine hK.out _ _ (unhide HS6) ?_
                    clear hK K
                    try simp only [Act.put, List.setIfInBounds_toArray, List.set_cons_zero, List.set_cons_succ]
                    refine anyH_take1 (i := 14) (v := ?_) rfl (by kernel_rfl) (fun _ _ _ _ _ h => h) (unhide HS6) (Or.inl ⟨by rfl, ?_⟩) ?_
                    rotate_left 1
                    · intro w' hSw
                      try dsimp only at hSw
                      obtain ⟨z0, z1, z2, z3, z4⟩ := hSw
                      go_simp
                      try with_reducible rfl
                    try simp only [Act.put, List.setIfInBounds_toArray, List.set_cons_zero, List.set_cons_succ]
                    refine anyH_take1 (i := 15) (v := undef) rfl (by kernel_rfl) (fun _ _ _ _ _ h => h) (unhide HS6) (Or.inr ⟨by rfl, rfl⟩) ?_
                    try simp only [Act.put, List.setIfInBounds_toArray, List.set_cons_zero, List.set_cons_succ]
                    refine anyH_take1 (i := 16) (v := undef) rfl (by kernel_rfl) (fun _ _ _ _ _ h => h) (unhide HS6) (Or.inr ⟨by rfl, rfl⟩) ?_
                    try simp only [Act.put, List.setIfInBounds_toArray, List.set_cons_zero, List.set_cons_succ]
                    refine anyH_take1 (i := 17) (v := undef) rfl (by kernel_rfl) (fun _ _ _ _ _ h => h) (unhide HS6) (Or.inr ⟨by rfl, rfl⟩) ?_
                    try simp only [Act.put, List.setIfInBounds_toArray, List.set_cons_zero, List.set_cons_succ]
                    refine anyH_take1 (i := 18) (v := ?_) rfl (by kernel_rfl) (fun _ _ _ _ _ h => h) (unhide HS6) (Or.inl ⟨by rfl, ?_⟩) ?_
                    rotate_left 1
                    · intro w' hSw
                      try dsimp only at hSw
                      obtain ⟨z0, z1, z2, z3, z4⟩ := hSw
                      go_simp
                      try with_reducible rfl
                    try simp only [Act.put, List.setIfInBounds_toArray, List.set_cons_zero, List.set_cons_succ]
                    refine anyH_take1 (i := 19) (v := ?_) rfl (by kernel_rfl) (fun _ _ _ _ _ h => h) (unhide HS6) (Or.inl ⟨by rfl, ?_⟩) ?_
                    rotate_left 1
                    · intro w' hSw
                      try dsimp only at hSw
                      obtain ⟨z0, z1, z2, z3, z4⟩ := hSw
                      go_simp
                      try with_reducible rfl
                    try simp only [Act.put, List.setIfInBounds_toArray, List.set_cons_zero, List.set_cons_succ]
                    refine wpAnyH_done (by kernel_rfl) (NoPanic.normal ?_) _
                    have HFIN := hide (grown_trans (unhide hgw) (grown_trans (grown_drew (World.grownBy.refl wr none)) (unhide HG6)))
                    clear HGW hgw
                    go_wp2
                    go_roundw
                    case rel => exact ⟨k + 1, by omega, by go_num, HA3, HFIN⟩
                    case measure => simp [intOf]; omega
                  | true =>
                    obtain ⟨zb, HZB⟩ : ∃ zb, Hid (zeroB zs = zb) := ⟨_, rfl⟩
                    cases zb with
                    | false =>
                      have e : b = false := by
                        rw [unhide HBE2]
                        refine unhide HNO ?_
                        rw [unhide HFI, hnk (by rw [hgk, blockB, unhide HLV, unhide HZB]; rfl)]; simp
                      subst e
                      clear hak hnk hgk
                      go_wp2
                      refine wp_region_noPanic ?_
                      refine wp_region_raw (fun w' => w'.cell? ⟨w.heap.size, 0, none⟩ = some (.int .i64 p) ∧ w'.cell? ⟨w.heap.size, 1, none⟩ = some (.int .i64 wd) ∧ w'.cell? ⟨w.heap.size, 2, none⟩ = some (.int .i64 ht) ∧ w'.cell? ⟨w.heap.size, 3, none⟩ = some (.int .i64 rs) ∧ w'.cell? ⟨w.heap.size, 4, none⟩ = some (.slice ao m cap)) [true, false, false, false, false, false, false, false, false, false, false, false, false, false, false, false, false, false, false, false] (by kernel_rfl) (fun _ _ _ _ _ h => h) rfl (by kernel_rfl) ⟨f0, f1, f2, f3, f4⟩ ?_
                      refine heldF_take (v := ?_) (Or.inl ⟨by rfl, ?_⟩) ?_
                      rotate_left 1
                      · intro w' hSw
                        go_simp
                        try with_reducible rfl
                      try simp only [Act.put, List.setIfInBounds_toArray, List.set_cons_zero, List.set_cons_succ]
                      iterate 19 refine heldF_skip ?_
                      refine heldF_nil ?_
                      refine anyH_step1 (i := 1) rfl (by kernel_rfl) (fun K hK => ?_)
                      go_simp
                      refine (specLevel zo zn zcap zs wr.drew (unhide HZD) true HLV).mono ?_
                      rintro e w5 ⟨rfl, g5⟩
                      have HS5 := hide (unhide KEEP _ g5)
                      have HG5 := hide g5
                      clear g5
                      go_simp
                      refine hK.out _ _ (unhide HS5) ?_
                      clear hK K
                      try simp only [Act.put, List.setIfInBounds_toArray, List.set_cons_zero, List.set_cons_succ]
                      refine anyH_take1 (i := 2) (v := ?_) rfl (by kernel_rfl) (fun _ _ _ _ _ h => h) (unhide HS5) (Or.inl ⟨by rfl, ?_⟩) ?_
                      rotate_left 1
                      · intro w' hSw
                        try dsimp only at hSw
                        obtain ⟨z0, z1, z2, z3, z4⟩ := hSw
                        go_simp
                        try with_reducible rfl
                      try simp only [Act.put, List.setIfInBounds_toArray, List.set_cons_zero, List.set_cons_succ]
                      refine anyH_take1 (i := 3) (v := ?_) rfl (by kernel_rfl) (fun _ _ _ _ _ h => h) (unhide HS5) (Or.inl ⟨by rfl, ?_⟩) ?_
                      rotate_left 1
                      · intro w' hSw
                        try dsimp only at hSw
                        obtain ⟨z0, z1, z2, z3, z4⟩ := hSw
                        go_simp
                        try with_reducible rfl
                      try simp only [Act.put, List.setIfInBounds_toArray, List.set_cons_zero, List.set_cons_succ]
                      refine anyH_take1 (i := 4) (v := ?_) rfl (by kernel_rfl) (fun _ _ _ _ _ h => h) (unhide HS5) (Or.inl ⟨by rfl, ?_⟩) ?_
                      rotate_left 1
                      · intro w' hSw
                        try dsimp only at hSw
                        obtain ⟨z0, z1, z2, z3, z4⟩ := hSw
                        go_simp
                        try with_reducible rfl
                      try simp only [Act.put, List.setIfInBounds_toArray, List.set_cons_zero, List.set_cons_succ]
                      refine anyH_take1 (i := 5) (v := ?_) rfl (by kernel_rfl) (fun _ _ _ _ _ h => h) (unhide HS5) (Or.inl ⟨by rfl, ?_⟩) ?_
                      rotate_left 1
                      · intro w' hSw
                        try dsimp only at hSw
                        obtain ⟨z0, z1, z2, z3, z4⟩ := hSw
                        go_simp
                        try with_reducible rfl
                      try simp only [Act.put, List.setIfInBounds_toArray, List.set_cons_zero, List.set_cons_succ]
                      refine anyH_take1 (i := 6) (v := ?_) rfl (by kernel_rfl) (fun _ _ _ _ _ h => h) (unhide HS5) (Or.inl ⟨by rfl, ?_⟩) ?_
                      rotate_left 1
                      · intro w' hSw
                        try dsimp only at hSw
                        obtain ⟨z0, z1, z2, z3, z4⟩ := hSw
                        go_simp
                        try with_reducible rfl
                      try simp only [Act.put, List.setIfInBounds_toArray, List.set_cons_zero, List.set_cons_succ]
                      refine anyH_take1 (i := 7) (v := ?_) rfl (by kernel_rfl) (fun _ _ _ _ _ h => h) (unhide HS5) (Or.inl ⟨by rfl, ?_⟩) ?_
                      rotate_left 1
                      · intro w' hSw
                        try dsimp only at hSw
                        obtain ⟨z0, z1, z2, z3, z4⟩ := hSw
                        go_simp
                        try with_reducible rfl
                      try simp only [Act.put, List.setIfInBounds_toArray, List.set_cons_zero, List.set_cons_succ]
                      refine anyH_take1 (i := 8) (v := ?_) rfl (by kernel_rfl) (fun _ _ _ _ _ h => h) (unhide HS5) (Or.inl ⟨by rfl, ?_⟩) ?_
                      rotate_left 1
                      · intro w' hSw
                        try dsimp only at hSw
                        obtain ⟨z0, z1, z2, z3, z4⟩ := hSw
                        go_simp
                        try with_reducible rfl
                      try simp only [Act.put, List.setIfInBounds_toArray, List.set_cons_zero, List.set_cons_succ]
                      refine anyH_take1 (i := 9) (v := ?_) rfl (by kernel_rfl) (fun _ _ _ _ _ h => h) (unhide HS5) (Or.inl ⟨by rfl, ?_⟩) ?_
                      rotate_left 1
                      · intro w' hSw
                        try dsimp only at hSw
                        obtain ⟨z0, z1, z2, z3, z4⟩ := hSw
                        go_simp
                        try with_reducible rfl
                      try simp only [Act.put, List.setIfInBounds_toArray, List.set_cons_zero, List.set_cons_succ]
                      refine anyH_take1 (i := 10) (v := ?_) rfl (by kernel_rfl) (fun _ _ _ _ _ h => h) (unhide HS5) (Or.inl ⟨by rfl, ?_⟩) ?_
                      rotate_left 1
                      · intro w' hSw
                        try dsimp only at hSw
                        obtain ⟨z0, z1, z2, z3, z4⟩ := hSw
                        go_simp
                        try with_reducible rfl
                      try simp only [Act.put, List.setIfInBounds_toArray, List.set_cons_zero, List.set_cons_succ]
                      refine anyH_take1 (i := 11) (v := ?_) rfl (by kernel_rfl) (fun _ _ _ _ _ h => h) (unhide HS5) (Or.inl ⟨by rfl, ?_⟩) ?_
                      rotate_left 1
                      · intro w' hSw
                        try dsimp only at hSw
                        obtain ⟨z0, z1, z2, z3, z4⟩ := hSw
                        go_simp
                        try with_reducible rfl
                      try simp only [Act.put, List.setIfInBounds_toArray, List.set_cons_zero, List.set_cons_succ]
                      refine anyH_take1 (i := 12) (v := ?_) rfl (by kernel_rfl) (fun _ _ _ _ _ h => h) (unhide HS5) (Or.inl ⟨by rfl, ?_⟩) ?_
                      rotate_left 1
                      · intro w' hSw
                        try dsimp only at hSw
                        obtain ⟨z0, z1, z2, z3, z4⟩ := hSw
                        go_simp
                        try with_reducible rfl
                      try simp only [Act.put, List.setIfInBounds_toArray, List.set_cons_zero, List.set_cons_succ]
                      refine anyH_step1 (i := 13) rfl (by kernel_rfl) (fun K hK => ?_)
                      go_simp
                      refine (specHidden p wd ht rs ao m cap C w5 ((unhide HR).grown (grown_trans (unhide HGW) (grown_trans (grown_drew (World.grownBy.refl wr none)) (unhide HG5)))) (unhide HG) i hlt (kr : Int) (kc : Int) true HPK).mono ?_
                      rintro e w6 ⟨rfl, g6⟩
                      have HS6 := hide (unhide KEEP _ (grown_trans (unhide HG5) g6))
                      have HG6 := hide (grown_trans (unhide HG5) g6)
                      clear g6
                      go_simp
                      refine hK.out _ _ (unhide HS6) ?_
                      clear hK K
                      try simp only [Act.put, List.setIfInBounds_toArray, List.set_cons_zero, List.set_cons_succ]
                      refine anyH_take1 (i := 14) (v := ?_) rfl (by kernel_rfl) (fun _ _ _ _ _ h => h) (unhide HS6) (Or.inl ⟨by rfl, ?_⟩) ?_
                      rotate_left 1
                      · intro w' hSw
                        try dsimp only at hSw
                        obtain ⟨z0, z1, z2, z3, z4⟩ := hSw
                        go_simp
                        try with_reducible rfl
                      try simp only [Act.put, List.setIfInBounds_toArray, List.set_cons_zero, List.set_cons_succ]
                      refine anyH_take1 (i := 15) (v := ?_) rfl (by kernel_rfl) (fun _ _ _ _ _ h => h) (unhide HS6) (Or.inl ⟨by rfl, ?_⟩) ?_
                      rotate_left 1
                      · intro w' hSw
                        try dsimp only at hSw
                        obtain ⟨z0, z1, z2, z3, z4⟩ := hSw
                        go_simp
                        try with_reducible rfl
                      try simp only [Act.put, List.setIfInBounds_toArray, List.set_cons_zero, List.set_cons_succ]
                      refine anyH_step1 (i := 16) rfl (by kernel_rfl) (fun K hK => ?_)
                      go_simp
                      refine (specZero zo zn zcap zs w6 ((unhide HZD).grown (unhide HG6)) hzl false HZB).mono ?_
                      rintro e w7 ⟨rfl, rfl⟩
                      go_simp
                      refine hK.out _ _ (unhide HS6) ?_
                      clear hK K
                      try simp only [Act.put, List.setIfInBounds_toArray, List.set_cons_zero, List.set_cons_succ]
                      refine anyH_take1 (i := 17) (v := ?_) rfl (by kernel_rfl) (fun _ _ _ _ _ h => h) (unhide HS6) (Or.inl ⟨by rfl, ?_⟩) ?_
                      rotate_left 1
                      · intro w' hSw
                        try dsimp only at hSw
                        obtain ⟨z0, z1, z2, z3, z4⟩ := hSw
                        go_simp
                        try with_reducible rfl
                      try simp only [Act.put, List.setIfInBounds_toArray, List.set_cons_zero, List.set_cons_succ]
                      refine anyH_take1 (i := 18) (v := ?_) rfl (by kernel_rfl) (fun _ _ _ _ _ h => h) (unhide HS6) (Or.inl ⟨by rfl, ?_⟩) ?_
                      rotate_left 1
                      · intro w' hSw
                        try dsimp only at hSw
                        obtain ⟨z0, z1, z2, z3, z4⟩ := hSw
                        go_simp
                        try with_reducible rfl
                      try simp only [Act.put, List.setIfInBounds_toArray, List.set_cons_zero, List.set_cons_succ]
                      refine anyH_take1 (i := 19) (v := ?_) rfl (by kernel_rfl) (fun _ _ _ _ _ h => h) (unhide HS6) (Or.inl ⟨by rfl, ?_⟩) ?_
                      rotate_left 1
                      · intro w' hSw
                        try dsimp only at hSw
                        obtain ⟨z0, z1, z2, z3, z4⟩ := hSw
                        go_simp
                        try with_reducible rfl
                      try simp only [Act.put, List.setIfInBounds_toArray, List.set_cons_zero, List.set_cons_succ]
                      refine wpAnyH_done (by kernel_rfl) (NoPanic.normal ?_) _
                      have HFIN := hide (grown_trans (unhide HGW) (grown_trans (grown_drew (World.grownBy.refl wr none)) (unhide HG6)))
                      clear HGW
                      go_wp2
                      go_ret
                      exact ⟨rfl, unhide HFIN⟩
                    | true =>
                      have HA3 : Hid ((List.range (k + 1)).all g = true) := by unfold Hid; rw [hak, unhide hka, hgk, blockB, unhide HLV, unhide HZB]; rfl
                      clear hak hnk hgk
                      go_wp2
                      refine wp_region_noPanic ?_
                      refine wp_region_raw (fun w' => w'.cell? ⟨w.heap.size, 0, none⟩ = some (.int .i64 p) ∧ w'.cell? ⟨w.heap.size, 1, none⟩ = some (.int .i64 wd) ∧ w'.cell? ⟨w.heap.size, 2, none⟩ = some (.int .i64 ht) ∧ w'.cell? ⟨w.heap.size, 3, none⟩ = some (.int .i64 rs) ∧ w'.cell? ⟨w.heap.size, 4, none⟩ = some (.slice ao m cap)) [true, false, false, false, false, false, false, false, false, false, false, false, false, false, false, false, false, false, false, false] (by kernel_rfl) (fun _ _ _ _ _ h => h) rfl (by kernel_rfl) ⟨f0, f1, f2, f3, f4⟩ ?_
                      refine heldF_take (v := ?_) (Or.inl ⟨by rfl, ?_⟩) ?_
                      rotate_left 1
                      · intro w' hSw
                        go_simp
                        try with_reducible rfl
                      try simp only [Act.put, List.setIfInBounds_toArray, List.set_cons_zero, List.set_cons_succ]
                      iterate 19 refine heldF_skip ?_
                      refine heldF_nil ?_
                      refine anyH_step1 (i := 1) rfl (by kernel_rfl) (fun K hK => ?_)
                      go_simp
                      refine (specLevel zo zn zcap zs wr.drew (unhide HZD) true HLV).mono ?_
                      rintro e w5 ⟨rfl, g5⟩
                      have HS5 := hide (unhide KEEP _ g5)
                      have HG5 := hide g5
                      clear g5
                      go_simp
                      refine hK.out _ _ (unhide HS5) ?_
                      clear hK K
                      try simp only [Act.put, List.setIfInBounds_toArray, List.set_cons_zero, List.set_cons_succ]
                      refine anyH_take1 (i := 2) (v := ?_) rfl (by kernel_rfl) (fun _ _ _ _ _ h => h) (unhide HS5) (Or.inl ⟨by rfl, ?_⟩) ?_
                      rotate_left 1
                      · intro w' hSw
                        try dsimp only at hSw
                        obtain ⟨z0, z1, z2, z3, z4⟩ := hSw
                        go_simp
                        try with_reducible rfl
                      try simp only [Act.put, List.setIfInBounds_toArray, List.set_cons_zero, List.set_cons_succ]
                      refine anyH_take1 (i := 3) (v := ?_) rfl (by kernel_rfl) (fun _ _ _ _ _ h => h) (unhide HS5) (Or.inl ⟨by rfl, ?_⟩) ?_
                      rotate_left 1
                      · intro w' hSw
                        try dsimp only at hSw
                        obtain ⟨z0, z1, z2, z3, z4⟩ := hSw
                        go_simp
                        try with_reducible rfl
                      try simp only [Act.put, List.setIfInBounds_toArray, List.set_cons_zero, List.set_cons_succ]
                      refine anyH_take1 (i := 4) (v := ?_) rfl (by kernel_rfl) (fun _ _ _ _ _ h => h) (unhide HS5) (Or.inl ⟨by rfl, ?_⟩) ?_
                      rotate_left 1
                      · intro w' hSw
                        try dsimp only at hSw
                        obtain ⟨z0, z1, z2, z3, z4⟩ := hSw
                        go_simp
                        try with_reducible rfl
                      try simp only [Act.put, List.setIfInBounds_toArray, List.set_cons_zero, List.set_cons_succ]
                      refine anyH_take1 (i := 5) (v := ?_) rfl (by kernel_rfl) (fun _ _ _ _ _ h => h) (unhide HS5) (Or.inl ⟨by rfl, ?_⟩) ?_
                      rotate_left 1
                      · intro w' hSw
                        try dsimp only at hSw
                        obtain ⟨z0, z1, z2, z3, z4⟩ := hSw
                        go_simp
                        try with_reducible rfl
                      try simp only [Act.put, List.setIfInBounds_toArray, List.set_cons_zero, List.set_cons_succ]
                      refine anyH_take1 (i := 6) (v := ?_) rfl (by kernel_rfl) (fun _ _ _ _ _ h => h) (unhide HS5) (Or.inl ⟨by rfl, ?_⟩) ?_
                      rotate_left 1
                      · intro w' hSw
                        try dsimp only at hSw
                        obtain ⟨z0, z1, z2, z3, z4⟩ := hSw
                        go_simp
                        try with_reducible rfl
                      try simp only [Act.put, List.setIfInBounds_toArray, List.set_cons_zero, List.set_cons_succ]
                      refine anyH_take1 (i := 7) (v := ?_) rfl (by kernel_rfl) (fun _ _ _ _ _ h => h) (unhide HS5) (Or.inl ⟨by rfl, ?_⟩) ?_
                      rotate_left 1
                      · intro w' hSw
                        try dsimp only at hSw
                        obtain ⟨z0, z1, z2, z3, z4⟩ := hSw
                        go_simp
                        try with_reducible rfl
                      try simp only [Act.put, List.setIfInBounds_toArray, List.set_cons_zero, List.set_cons_succ]
                      refine anyH_take1 (i := 8) (v := ?_) rfl (by kernel_rfl) (fun _ _ _ _ _ h => h) (unhide HS5) (Or.inl ⟨by rfl, ?_⟩) ?_
                      rotate_left 1
                      · intro w' hSw
                        try dsimp only at hSw
                        obtain ⟨z0, z1, z2, z3, z4⟩ := hSw
                        go_simp
                        try with_reducible rfl
                      try simp only [Act.put, List.setIfInBounds_toArray, List.set_cons_zero, List.set_cons_succ]
                      refine anyH_take1 (i := 9) (v := ?_) rfl (by kernel_rfl) (fun _ _ _ _ _ h => h) (unhide HS5) (Or.inl ⟨by rfl, ?_⟩) ?_
                      rotate_left 1
                      · intro w' hSw
                        try dsimp only at hSw
                        obtain ⟨z0, z1, z2, z3, z4⟩ := hSw
                        go_simp
                        try with_reducible rfl
                      try simp only [Act.put, List.setIfInBounds_toArray, List.set_cons_zero, List.set_cons_succ]
                      refine anyH_take1 (i := 10) (v := ?_) rfl (by kernel_rfl) (fun _ _ _ _ _ h => h) (unhide HS5) (Or.inl ⟨by rfl, ?_⟩) ?_
                      rotate_left 1
                      · intro w' hSw
                        try dsimp only at hSw
                        obtain ⟨z0, z1, z2, z3, z4⟩ := hSw
                        go_simp
                        try with_reducible rfl
                      try simp only [Act.put, List.setIfInBounds_toArray, List.set_cons_zero, List.set_cons_succ]
                      refine anyH_take1 (i := 11) (v := ?_) rfl (by kernel_rfl) (fun _ _ _ _ _ h => h) (unhide HS5) (Or.inl ⟨by rfl, ?_⟩) ?_
                      rotate_left 1
                      · intro w' hSw
                        try dsimp only at hSw
                        obtain ⟨z0, z1, z2, z3, z4⟩ := hSw
                        go_simp
                        try with_reducible rfl
                      try simp only [Act.put, List.setIfInBounds_toArray, List.set_cons_zero, List.set_cons_succ]
                      refine anyH_take1 (i := 12) (v := ?_) rfl (by kernel_rfl) (fun _ _ _ _ _ h => h) (unhide HS5) (Or.inl ⟨by rfl, ?_⟩) ?_
                      rotate_left 1
                      · intro w' hSw
                        try dsimp only at hSw
                        obtain ⟨z0, z1, z2, z3, z4⟩ := hSw
                        go_simp
                        try with_reducible rfl
                      try simp only [Act.put, List.setIfInBounds_toArray, List.set_cons_zero, List.set_cons_succ]
                      refine anyH_step1 (i := 13) rfl (by kernel_rfl) (fun K hK => ?_)
                      go_simp
                      refine (specHidden p wd ht rs ao m cap C w5 ((unhide HR).grown (grown_trans (unhide HGW) (grown_trans (grown_drew (World.grownBy.refl wr none)) (unhide HG5)))) (unhide HG) i hlt (kr : Int) (kc : Int) true HPK).mono ?_
                      rintro e w6 ⟨rfl, g6⟩
                      have HS6 := hide (unhide KEEP _ (grown_trans (unhide HG5) g6))
                      have HG6 := hide (grown_trans (unhide HG5) g6)
                      clear g6
                      go_simp
                      refine hK.out _ _ (unhide HS6) ?_
                      clear hK K
                      try simp only [Act.put, List.setIfInBounds_toArray, List.set_cons_zero, List.set_cons_succ]
                      refine anyH_take1 (i := 14) (v := ?_) rfl (by kernel_rfl) (fun _ _ _ _ _ h => h) (unhide HS6) (Or.inl ⟨by rfl, ?_⟩) ?_
                      rotate_left 1
                      · intro w' hSw
                        try dsimp only at hSw
                        obtain ⟨z0, z1, z2, z3, z4⟩ := hSw
                        go_simp
                        try with_reducible rfl
                      try simp only [Act.put, List.setIfInBounds_toArray, List.set_cons_zero, List.set_cons_succ]
                      refine anyH_take1 (i := 15) (v := ?_) rfl (by kernel_rfl) (fun _ _ _ _ _ h => h) (unhide HS6) (Or.inl ⟨by rfl, ?_⟩) ?_
                      rotate_left 1
                      · intro w' hSw
                        try dsimp only at hSw
                        obtain ⟨z0, z1, z2, z3, z4⟩ := hSw
                        go_simp
                        try with_reducible rfl
                      try simp only [Act.put, List.setIfInBounds_toArray, List.set_cons_zero, List.set_cons_succ]
                      refine anyH_step1 (i := 16) rfl (by kernel_rfl) (fun K hK => ?_)
                      go_simp
                      refine (specZero zo zn zcap zs w6 ((unhide HZD).grown (unhide HG6)) hzl true HZB).mono ?_
                      rintro e w7 ⟨rfl, rfl⟩
                      go_simp
                      refine hK.out _ _ (unhide HS6) ?_
                      clear hK K
                      try simp only [Act.put, List.setIfInBounds_toArray, List.set_cons_zero, List.set_cons_succ]
                      refine anyH_take1 (i := 17) (v := ?_) rfl (by kernel_rfl) (fun _ _ _ _ _ h => h) (unhide HS6) (Or.inl ⟨by rfl, ?_⟩) ?_
                      rotate_left 1
                      · intro w' hSw
                        try dsimp only at hSw
                        obtain ⟨z0, z1, z2, z3, z4⟩ := hSw
                        go_simp
                        try with_reducible rfl
                      try simp only [Act.put, List.setIfInBounds_toArray, List.set_cons_zero, List.set_cons_succ]
                      refine anyH_take1 (i := 18) (v := ?_) rfl (by kernel_rfl) (fun _ _ _ _ _ h => h) (unhide HS6) (Or.inl ⟨by rfl, ?_⟩) ?_
                      rotate_left 1
                      · intro w' hSw
                        try dsimp only at hSw
                        obtain ⟨z0, z1, z2, z3, z4⟩ := hSw
                        go_simp
                        try with_reducible rfl
                      try simp only [Act.put, List.setIfInBounds_toArray, List.set_cons_zero, List.set_cons_succ]
                      refine anyH_take1 (i := 19) (v := ?_) rfl (by kernel_rfl) (fun _ _ _ _ _ h => h) (unhide HS6) (Or.inl ⟨by rfl, ?_⟩) ?_
                      rotate_left 1
                      · intro w' hSw
                        try dsimp only at hSw
                        obtain ⟨z0, z1, z2, z3, z4⟩ := hSw
                        go_simp
                        try with_reducible rfl
                      try simp only [Act.put, List.setIfInBounds_toArray, List.set_cons_zero, List.set_cons_succ]
                      refine wpAnyH_done (by kernel_rfl) (NoPanic.normal ?_) _
                      have HFIN := hide (grown_trans (unhide hgw) (grown_trans (grown_drew (World.grownBy.refl wr none)) (unhide HG6)))
                      clear HGW hgw
                      go_wp2
                      go_roundw
                      case rel => exact ⟨k + 1, by omega, by go_num, HA3, HFIN⟩
                      case measure => simp [intOf]; omega
              · obtain rfl : k = pl := by omega
                have HA2 : Hid ((List.range (i + 1)).all f = true) := by
                  unfold Hid
                  rw [unhide HAL, unhide ha, unhide HFI, unhide hka]; simp
                clear hka d0 p0
                go_wp2
                go_roundw
                case rel => exact ⟨i + 1, by omega, by go_num, HA2, hgw⟩
                case measure => simp [intOf]; omega
          · have hne2 : ((pl : Int) != (bn : Int)) = true := by simp; omega
            have e : b = false := by
              rw [unhide HBE2]
              refine unhide HNO ?_
              rw [unhide HFI, decide_eq_false hpn]; rfl
            subst e
            go_wp2
            go_ret
            exact ⟨rfl, unhide HGB⟩
        · obtain rfl : i = m := by omega
          have e : b = true := by rw [unhide HBE2]; exact unhide ha
          subst e
          go_wp2
          go_ret
          exact ⟨rfl, unhide HGW⟩
    · have hne : ((m : Int) != (n : Int)) = true := by simp; omega
      have e : b = false := by rw [unhide HBE, decide_eq_false hmn]; rfl
      subst e
      go_enter Tryz.func37, Tryz.ntmps37
      go_wp2_with fail
      rw [unhide HW]
      refine (unhide HFO).mono ?_
      rintro e w1 ⟨rfl, g1⟩
      have HG1 := hide (grown_trans (unhide HG0) g1)
      have c4 := (frameCells' (grown_atT g1 (unhide B0) (by simp))).2.2.2.2
      have d0 : w1.cell? ⟨w.heap.size + 1, 0, none⟩ = some (.slice xo m xc) := by rw [cell_of_row w1 _ 0 _ _ (0, 0) (grown_atT g1 (unhide B1) (by simp))]; rfl
      clear g1 HFO
      go_wp2
      go_ret
      exact ⟨rfl, unhide HG1⟩

end Go.Proofs.YtjkokbijnaodnaaGreat

namespace Go.Proofs.YtjkokbijnaodnaaGreat

theorem leftRow_app (want lo : Int) : ∀ (m k d : Nat) (row : List Int), leftRow want lo k (m + d) row = (leftRow want lo k m row).bind (leftRow want lo (k + m) d)
  | 0, k, d, row => by rw [Nat.zero_add]; rfl
  | m + 1, k, d, row => by
    have e : m + 1 + d = (m + d) + 1 := by omega
    rw [e]
    simp only [leftRow]
    split
    · rw [leftRow_app want lo m (k + 1) d]
      have e2 : k + 1 + m = k + (m + 1) := by omega
      rw [e2]
    · rfl
theorem leftComps_app (want lo : Int) (k m : Nat) : ∀ (cs ds : List Int) (X : List (List Int)), leftComps want lo k m (cs ++ ds) X = (leftComps want lo k m cs X).bind (leftComps want lo k m ds)
  | [], ds, X => rfl
  | c :: cs, ds, X => by
    simp only [List.cons_append, leftComps]
    cases leftRow want lo k m (X.getD c.toNat []) with
    | none => rfl
    | some row => exact leftComps_app want lo k m cs ds _
/-- One place more. -/
theorem leftRow_next {want lo : Int} {k m : Nat} {row r : List Int} (h : leftRow want lo k m row = some r) (hw : r.getD (k + m) 0 = want) : leftRow want lo k (m + 1) row = some (r.set (k + m) lo) := by
  rw [leftRow_app, h]
  show leftRow want lo (k + m) 1 r = _
  simp only [leftRow, hw, if_true]
theorem leftRow_fails {want lo : Int} {k m M : Nat} {row r : List Int} (h : leftRow want lo k m row = some r) (hw : r.getD (k + m) 0 ≠ want) (hM : m < M) : leftRow want lo k M row = none := by
  obtain ⟨d, rfl⟩ : ∃ d, M = m + (d + 1) := ⟨M - m - 1, by omega⟩
  rw [leftRow_app, h]
  show leftRow want lo (k + m) (d + 1) r = none
  simp only [leftRow, hw, if_false]
theorem leftComps_next {want lo : Int} {k m : Nat} {cs : List Int} {X Y : List (List Int)} (j : Nat) (hj : j < cs.length) (h : leftComps want lo k m (cs.take j) X = some Y) {row : List Int} (hr : leftRow want lo k m (Y.getD (cs.getD j 0).toNat []) = some row) : leftComps want lo k m (cs.take (j + 1)) X = some (Y.set (cs.getD j 0).toNat row) := by
  have e : cs.getD j 0 = cs[j] := by simp [hj]
  rw [List.take_succ_eq_append_getElem hj, leftComps_app, h]
  rw [e] at hr ⊢
  show leftComps want lo k m [cs[j]] Y = _
  simp only [leftComps, hr]
theorem leftComps_fails {want lo : Int} {k m : Nat} {cs : List Int} {X Y : List (List Int)} (j : Nat) (hj : j < cs.length) (h : leftComps want lo k m (cs.take j) X = some Y) (hr : leftRow want lo k m (Y.getD (cs.getD j 0).toNat []) = none) : leftComps want lo k m cs X = none := by
  have e : cs.getD j 0 = cs[j] := by simp [hj]
  have e2 : cs = cs.take j ++ cs[j] :: cs.drop (j + 1) := by rw [List.getElem_cons_drop]; exact (List.take_append_drop j cs).symm
  rw [e] at hr
  rw [e2, leftComps_app, h]
  show leftComps want lo k m (cs[j] :: cs.drop (j + 1)) Y = none
  simp only [leftComps, hr]
theorem leftAll_next {fb : Bool} {n : Nat} {s : List Scn} {X Y Z : List (List Int)} (i : Nat) (hi : i < s.length) (h : leftAll fb n (s.take i) X = some Y) (hb : scanB fb n s[i] = true) (hs : leftScan s[i] Y = some Z) : leftAll fb n (s.take (i + 1)) X = some Z := by
  rw [List.take_succ_eq_append_getElem hi, leftAll_app, h]
  show leftAll fb n [s[i]] Y = _
  simp only [leftAll, hb, if_true, hs]
theorem leftAll_fails {fb : Bool} {n : Nat} {s : List Scn} {X Y : List (List Int)} (i : Nat) (hi : i < s.length) (h : leftAll fb n (s.take i) X = some Y) (hs : scanB fb n s[i] = false ∨ leftScan s[i] Y = none) : leftAll fb n s X = none := by
  have e2 : s = s.take i ++ s[i] :: s.drop (i + 1) := by rw [List.getElem_cons_drop]; exact (List.take_append_drop i s).symm
  rw [e2, leftAll_app, h]
  show leftAll fb n (s[i] :: s.drop (i + 1)) Y = none
  rcases hs with hs | hs
  · simp only [leftAll, hs, Bool.false_eq_true, if_false]
  · simp only [leftAll, hs, ite_self]

end Go.Proofs.YtjkokbijnaodnaaGreat

namespace Go.Proofs.YtjkokbijnaodnaaGreat
open Go.RowKit

theorem append_rowR {α : Type} {P : World → Value → α → List Nat → Prop} (hP : OwOk P) {e T : TypeId} (hT : Tryz.prog.underlying T = some (.slice e)) (hI : (Tryz.prog.info? e).map (fun i => (i.zero, i.size, i.bytes)) = some (some (.slice none 0 0), 1, 24))
    {w : World} {ops : Array Oper} {rest : List Oper} {o : Oper} {a : Act} {Q : Exit → Act → World → Prop} (hgd : o.guard = none) (s x : Operand)
    (ho : o.op = .call { callee := .builtin .append, args := #[s, x], argTypes := #[T, T] })
    (v : Value) (L : List α) (F : List Nat) (hs : a.eval s = v) (hown : OwR e P w v L F) (hF : F.Nodup) (u : Value) (b : α) (Fb : List Nat) (hu : P w u b Fb) (hFb : Fb.Nodup) (hd : ∀ x ∈ Fb, x ∉ F) (hx : a.eval x = .slice (some ⟨w.heap.size, 0, none⟩) 1 1) (hb : L.length ≤ 1000000) (R : List α) (hR : L ++ [b] = R)
    (h : ∀ v' w' F', OwR e P w' v' R F' → F'.Nodup → (∀ x ∈ F', x ∈ F ∨ x ∈ Fb ∨ w.heap.size ≤ x) → Wr (blk v) w w' → wpList Tryz.prog ops Q rest (a.put o.dst v') w') :
    wpList Tryz.prog ops Q (o :: rest) a (w.alloc (.cells #[u] e)) := by
  subst hR
  obtain ⟨i0, hi, hz0, hz1, hz2⟩ := info_parts hI
  obtain ⟨us, Fs, l1, l2, o1, els, rfl⟩ := hown
  obtain ⟨uo, un, uc, rfl⟩ := hP.form _ _ _ _ hu
  have hn := List.nodup_append.1 hF
  refine wpList_append_own_at _ hgd s x T ho 0 e i0 _ 1 24 hT hi hz0 hz1 hz2 rfl (by decide) v L.length _ hs (o1.alloc _) ⟨w.heap.size, 0, none⟩ 1 1 [.slice uo un uc] hx rfl (World.news_of_block (cs := #[.slice uo un uc]) (t := e) (fr := (0, 0)) (heap_alloc_new w _)) (by intro y hy; simp at hy; subst hy; rfl) (by unfold maxLen; omega) (by omega) (Nat.zero_le _) ?_
  intro v' w' h1 h2 _ h4
  have hga : w.grownBy w' v.ownBlock := ⟨h2.os, h2.tape, h2.output, by have h := h2.size; simp at h; omega, fun k hk hr => (h2.block k (by simp; omega) hr).trans (Below.heap_alloc _ _ _ hk)⟩
  have hw : Wr (blk v) w w' := Wr.ofRow hga (fun g e => mem_blk.2 e)
  have hvb : ∀ y, y ∈ blk v' → y ∈ blk v ∨ w.heap.size ≤ y := fun y hy => by
    rcases h4 with h4 | h4
    · exact .inl (mem_blk.2 (by rw [← h4]; exact mem_blk.1 hy))
    · have e1 := mem_blk.1 hy
      rw [h4] at e1
      have e2 : (w.alloc (.cells #[.slice uo un uc] e)).heap.size = y := Option.some.inj e1
      exact .inr (by simp at e2; omega)
  have hfl : (Fs ++ [Fb]).flatten = Fs.flatten ++ Fb := by simp
  have hlt : ∀ y ∈ Fs.flatten, y < w.heap.size := fun y hy => by
    obtain ⟨l, hl, hyl⟩ := List.mem_flatten.1 hy
    obtain ⟨i, hi, rfl⟩ := List.mem_iff_getElem.1 hl
    exact hP.lt w _ _ _ (els i (by omega)) y (by simpa [hi] using hyl)
  refine h v' w' (blk v' ++ (Fs ++ [Fb]).flatten) ⟨us ++ [.slice uo un uc], Fs ++ [Fb], by simp [l1], by simp [l2], ?_, fun i hi => ?_, rfl⟩ ?_ ?_ hw
  · rw [List.length_append]; exact h1
  · by_cases hil : i < L.length
    · have e1 : (us ++ [Value.slice uo un uc]).getD i (.slice none 0 0) = us.getD i (.slice none 0 0) := by simp [List.getElem?_append_left (show i < us.length by omega)]
      have e2 : (Fs ++ [Fb]).getD i [] = Fs.getD i [] := by simp [List.getElem?_append_left (show i < Fs.length by omega)]
      rw [e1, e2, List.getElem_append_left hil]
      exact hP.wr (els i hil) hw (fun y hy hy2 => hn.2.2 y hy2 y (flat_in (by omega) y hy) rfl)
    · have hie : i = L.length := by rw [List.length_append] at hi; simp at hi; omega
      subst hie
      have e1 : (us ++ [Value.slice uo un uc]).getD L.length (.slice none 0 0) = .slice uo un uc := by rw [← l1]; simp
      have e2 : (Fs ++ [Fb]).getD L.length [] = Fb := by rw [← l2]; simp
      rw [e1, e2, List.getElem_append_right (Nat.le_refl _)]
      simp only [Nat.sub_self, List.getElem_cons_zero]
      exact hP.wr hu hw (fun y hy hy2 => hd y hy (by simp [hy2]))
  · rw [hfl]
    refine List.nodup_append.2 ⟨by unfold blk; cases v'.ownBlock <;> simp, List.nodup_append.2 ⟨hn.2.1, hFb, fun y hy z hz => ?_⟩, fun y hy z hz => ?_⟩
    · rintro rfl
      exact hd y hz (by simp [hy])
    · rintro rfl
      rcases List.mem_append.1 hz with hz | hz
      · rcases hvb y hy with h5 | h5
        · exact hn.2.2 y h5 y hz rfl
        · have := hlt y hz; omega
      · rcases hvb y hy with h5 | h5
        · exact hd y hz (by simp [h5])
        · have := hP.lt w _ _ _ hu y hz; omega
  · intro y hy
    rw [hfl] at hy
    rcases List.mem_append.1 hy with hy | hy
    · rcases hvb y hy with h5 | h5
      · exact .inl (by simp [h5])
      · exact .inr (.inr h5)
    · rcases List.mem_append.1 hy with hy | hy
      · exact .inl (by simp [hy])
      · exact .inr (.inl hy)

/-- The same, in a region that draws its order. -/
theorem step_append_rowR {α : Type} {P : World → Value → α → List Nat → Prop} (hP : OwOk P) {e T : TypeId} (hT : Tryz.prog.underlying T = some (.slice e)) (hI : (Tryz.prog.info? e).map (fun i => (i.zero, i.size, i.bytes)) = some (some (.slice none 0 0), 1, 24))
    {w : World} {ops : Array Oper} {o : Oper} {a : Act} {K : Act → World → Prop} {Q : Exit → Act → World → Prop} {E : Prop} (hgd : o.guard = none) (s x : Operand)
    (ho : o.op = .call { callee := .builtin .append, args := #[s, x], argTypes := #[T, T] })
    (v : Value) (L : List α) (F : List Nat) (hs : a.eval s = v) (hown : OwR e P w v L F) (hF : F.Nodup) (u : Value) (b : α) (Fb : List Nat) (hu : P w u b Fb) (hFb : Fb.Nodup) (hd : ∀ x ∈ Fb, x ∉ F) (hx : a.eval x = .slice (some ⟨w.heap.size, 0, none⟩) 1 1) (hb : L.length ≤ 1000000) (R : List α) (hR : L ++ [b] = R)
    (h : ∀ v' w' F', OwR e P w' v' R F' → F'.Nodup → (∀ x ∈ F', x ∈ F ∨ x ∈ Fb ∨ w.heap.size ≤ x) → Wr (blk v) w w' → K (a.put o.dst v') w') :
    if Region.wanted o (yielded ops a.tmps) = true then Oper.wp Tryz.prog o a (w.alloc (.cells #[u] e)) K Q else E := by
  subst hR
  obtain ⟨i0, hi, hz0, hz1, hz2⟩ := info_parts hI
  obtain ⟨us, Fs, l1, l2, o1, els, rfl⟩ := hown
  obtain ⟨uo, un, uc, rfl⟩ := hP.form _ _ _ _ hu
  have hn := List.nodup_append.1 hF
  refine step_append_lies _ hgd s x T ho 0 e i0 _ 1 24 hT hi hz0 hz1 hz2 rfl (by decide) v L.length _ hs (o1.alloc _) ⟨w.heap.size, 0, none⟩ 1 1 [.slice uo un uc] hx rfl (World.news_of_block (cs := #[.slice uo un uc]) (t := e) (fr := (0, 0)) (heap_alloc_new w _)) (by intro y hy; simp at hy; subst hy; rfl) (by omega) (by unfold maxLen; omega) (by omega) (Nat.zero_le _) _ rfl ?_
  intro g0 cap0 w' h1 h2 h4' _
  obtain ⟨v', hv'⟩ : ∃ v', Value.slice (some ⟨g0, 0, none⟩) (L.length + 1) cap0 = v' := ⟨_, rfl⟩
  have h4 : v'.ownBlock = v.ownBlock ∨ v'.ownBlock = some (w.alloc (.cells #[.slice uo un uc] e)).heap.size := by
    rcases h4' with h5 | h5
    · left; rw [← hv', h5]; rfl
    · right; rw [← hv', ← h5]; rfl
  rw [hv'] at h1 ⊢
  clear hv' h4'
  have hga : w.grownBy w' v.ownBlock := ⟨h2.os, h2.tape, h2.output, by have h := h2.size; simp at h; omega, fun k hk hr => (h2.block k (by simp; omega) hr).trans (Below.heap_alloc _ _ _ hk)⟩
  have hw : Wr (blk v) w w' := Wr.ofRow hga (fun g e => mem_blk.2 e)
  have hvb : ∀ y, y ∈ blk v' → y ∈ blk v ∨ w.heap.size ≤ y := fun y hy => by
    rcases h4 with h4 | h4
    · exact .inl (mem_blk.2 (by rw [← h4]; exact mem_blk.1 hy))
    · have e1 := mem_blk.1 hy
      rw [h4] at e1
      have e2 : (w.alloc (.cells #[.slice uo un uc] e)).heap.size = y := Option.some.inj e1
      exact .inr (by simp at e2; omega)
  have hfl : (Fs ++ [Fb]).flatten = Fs.flatten ++ Fb := by simp
  have hlt : ∀ y ∈ Fs.flatten, y < w.heap.size := fun y hy => by
    obtain ⟨l, hl, hyl⟩ := List.mem_flatten.1 hy
    obtain ⟨i, hi, rfl⟩ := List.mem_iff_getElem.1 hl
    exact hP.lt w _ _ _ (els i (by omega)) y (by simpa [hi] using hyl)
  refine h v' w' (blk v' ++ (Fs ++ [Fb]).flatten) ⟨us ++ [.slice uo un uc], Fs ++ [Fb], by simp [l1], by simp [l2], ?_, fun i hi => ?_, rfl⟩ ?_ ?_ hw
  · rw [List.length_append]; exact h1
  · by_cases hil : i < L.length
    · have e1 : (us ++ [Value.slice uo un uc]).getD i (.slice none 0 0) = us.getD i (.slice none 0 0) := by simp [List.getElem?_append_left (show i < us.length by omega)]
      have e2 : (Fs ++ [Fb]).getD i [] = Fs.getD i [] := by simp [List.getElem?_append_left (show i < Fs.length by omega)]
      rw [e1, e2, List.getElem_append_left hil]
      exact hP.wr (els i hil) hw (fun y hy hy2 => hn.2.2 y hy2 y (flat_in (by omega) y hy) rfl)
    · have hie : i = L.length := by rw [List.length_append] at hi; simp at hi; omega
      subst hie
      have e1 : (us ++ [Value.slice uo un uc]).getD L.length (.slice none 0 0) = .slice uo un uc := by rw [← l1]; simp
      have e2 : (Fs ++ [Fb]).getD L.length [] = Fb := by rw [← l2]; simp
      rw [e1, e2, List.getElem_append_right (Nat.le_refl _)]
      simp only [Nat.sub_self, List.getElem_cons_zero]
      exact hP.wr hu hw (fun y hy hy2 => hd y hy (by simp [hy2]))
  · rw [hfl]
    refine List.nodup_append.2 ⟨by unfold blk; cases v'.ownBlock <;> simp, List.nodup_append.2 ⟨hn.2.1, hFb, fun y hy z hz => ?_⟩, fun y hy z hz => ?_⟩
    · rintro rfl
      exact hd y hz (by simp [hy])
    · rintro rfl
      rcases List.mem_append.1 hz with hz | hz
      · rcases hvb y hy with h5 | h5
        · exact hn.2.2 y h5 y hz rfl
        · have := hlt y hz; omega
      · rcases hvb y hy with h5 | h5
        · exact hd y hz (by simp [h5])
        · have := hP.lt w _ _ _ hu y hz; omega
  · intro y hy
    rw [hfl] at hy
    rcases List.mem_append.1 hy with hy | hy
    · rcases hvb y hy with h5 | h5
      · exact .inl (by simp [h5])
      · exact .inr (.inr h5)
    · rcases List.mem_append.1 hy with hy | hy
      · exact .inl (by simp [hy])
      · exact .inr (.inl hy)

end Go.Proofs.YtjkokbijnaodnaaGreat

namespace Go.Proofs.YtjkokbijnaodnaaGreat
open Go.RowKit

theorem rowsK_append (n m k : Nat) (hk : 0 < k) (U V : Nat → Nat → Value) : rowsK n k U ++ rowsK m k V = rowsK (n + m) k (fun i j => if i < n then U i j else V (i - n) j) := by
  apply List.ext_getElem?
  intro c
  by_cases h1 : c < n * k
  · rw [List.getElem?_append_left (by rw [rowsK_len]; exact h1)]
    have hi' : c / k < n := Nat.div_lt_of_lt_mul (by rw [Nat.mul_comm]; exact h1)
    have hm : c % k < k := Nat.mod_lt _ hk
    have hd : c = (c / k) * k + c % k := by have := Nat.div_add_mod c k; rw [Nat.mul_comm] at this; omega
    rw [hd, rowsK_get n k U _ _ hi' hm, rowsK_get (n + m) k _ _ _ (by omega) hm, if_pos hi']
  · obtain ⟨d, rfl⟩ : ∃ d, c = n * k + d := ⟨c - n * k, by omega⟩
    rw [List.getElem?_append_right (by rw [rowsK_len]; omega), rowsK_len, Nat.add_sub_cancel_left]
    have hd : d = (d / k) * k + d % k := by have := Nat.div_add_mod d k; rw [Nat.mul_comm] at this; omega
    have hm : d % k < k := Nat.mod_lt _ hk
    have hc : n * k + d = (n + d / k) * k + d % k := by rw [Nat.add_mul]; omega
    by_cases h2 : d < m * k
    · have hi' : d / k < m := Nat.div_lt_of_lt_mul (by rw [Nat.mul_comm]; exact h2)
      rw [hc, rowsK_get (n + m) k _ _ _ (Nat.add_lt_add_left hi' n) hm, if_neg (Nat.not_lt.2 (Nat.le_add_right _ _)), Nat.add_sub_cancel_left]
      have e9 := rowsK_get m k V (d / k) (d % k) hi' hm
      rw [← hd] at e9
      exact e9
    · rw [List.getElem?_eq_none (by rw [rowsK_len]; omega), List.getElem?_eq_none (by rw [rowsK_len, Nat.add_mul]; omega)]

theorem append_rowsG {α : Type} {P : World → (Nat → Value) → α → List Nat → Prop} (hP : OkG P) {e T : TypeId} {sz bytes : Nat} {z : Value} (hT : Tryz.prog.underlying T = some (.slice e)) (hI : (Tryz.prog.info? e).map (fun i => (i.zero, i.size, i.bytes)) = some (some z, sz, bytes)) (hzs : z.cells.size = sz) (hsz : 0 < sz) (hbt : bytes ≤ 1000)
    {w : World} {ops : Array Oper} {rest : List Oper} {o : Oper} {a : Act} {Q : Exit → Act → World → Prop} (hgd : o.guard = none) (s x : Operand)
    (ho : o.op = .call { callee := .builtin .append, args := #[s, x], argTypes := #[T, T] })
    (v : Value) (L : List α) (F : List Nat) (hs : a.eval s = v) (hown : OwG e sz P w v L F) (hF : F.Nodup)
    (cs : Array Value) (m : Nat) (V : Nat → Nat → Value) (hcs : cs.toList = rowsK m sz V) (M : List α) (hM : M.length = m) (Gs : List (List Nat)) (hGs : Gs.length = m) (hu : ∀ i (h : i < M.length), P w (V i) M[i] (Gs.getD i [])) (hG : Gs.flatten.Nodup) (hd : ∀ x ∈ Gs.flatten, x ∉ F) (h1c : ∀ u ∈ cs.toList, u.oneCell' = true)
    (H : Nat) (hH : w.heap.size = H) (hx : a.eval x = .slice (some ⟨H, 0, none⟩) m m) (hb : L.length + m ≤ 1000000) (R : List α) (hR : L ++ M = R)
    (h : ∀ v' w' F', OwG e sz P w' v' R F' → F'.Nodup → (∀ x ∈ F', x ∈ F ∨ x ∈ Gs.flatten ∨ w.heap.size ≤ x) → Wr (blk v) w w' → wpList Tryz.prog ops Q rest (a.put o.dst v') w') :
    wpList Tryz.prog ops Q (o :: rest) a (w.alloc (.cells cs e)) := by
  subst hR
  subst hH
  obtain ⟨i0, hi, hz0, hz1, hz2⟩ := info_parts hI
  obtain ⟨U, Fs, l2, o1, els, rfl⟩ := hown
  have hn := List.nodup_append.1 hF
  have hbb : (L.length + m) * bytes ≤ 1000000 * 1000 := Nat.mul_le_mul hb hbt
  refine wpList_append_own_at _ hgd s x T ho 0 e i0 _ sz bytes hT hi hz0 hz1 hz2 hzs hsz v L.length _ hs (o1.alloc _) ⟨w.heap.size, 0, none⟩ m m cs.toList hx (by rw [hcs, rowsK_len]) (World.news_of_block (cs := cs) (t := e) (fr := (0, 0)) (heap_alloc_new w _)) h1c (by unfold maxLen; omega) (by omega) (Nat.zero_le _) ?_
  intro v' w' h1 h2 _ h4
  have hga : w.grownBy w' v.ownBlock := ⟨h2.os, h2.tape, h2.output, by have h := h2.size; simp at h; omega, fun k hk hr => (h2.block k (by simp; omega) hr).trans (Below.heap_alloc _ _ _ hk)⟩
  have hw : Wr (blk v) w w' := Wr.ofRow hga (fun g e => mem_blk.2 e)
  have hvb : ∀ y, y ∈ blk v' → y ∈ blk v ∨ w.heap.size ≤ y := fun y hy => by
    rcases h4 with h4 | h4
    · exact .inl (mem_blk.2 (by rw [← h4]; exact mem_blk.1 hy))
    · have e1 := mem_blk.1 hy
      rw [h4] at e1
      have e2 : (w.alloc (.cells cs e)).heap.size = y := Option.some.inj e1
      exact .inr (by simp at e2; omega)
  have hfl : (Fs ++ Gs).flatten = Fs.flatten ++ Gs.flatten := by simp
  have hlt : ∀ y ∈ Fs.flatten, y < w.heap.size := fun y hy => by
    obtain ⟨l, hl, hyl⟩ := List.mem_flatten.1 hy
    obtain ⟨i, hi, rfl⟩ := List.mem_iff_getElem.1 hl
    exact hP.lt w _ _ _ (els i (by omega)) y (by simpa [hi] using hyl)
  have hltG : ∀ y ∈ Gs.flatten, y < w.heap.size := fun y hy => by
    obtain ⟨l, hl, hyl⟩ := List.mem_flatten.1 hy
    obtain ⟨i, hi, rfl⟩ := List.mem_iff_getElem.1 hl
    exact hP.lt w _ _ _ (hu i (by omega)) y (by simpa [hi] using hyl)
  refine h v' w' (blk v' ++ (Fs ++ Gs).flatten) ⟨fun i j => if i < L.length then U i j else V (i - L.length) j, Fs ++ Gs, by simp [l2, hGs, hM], ?_, fun i hi => ?_, rfl⟩ ?_ ?_ hw
  · rw [List.length_append, hM, ← rowsK_append L.length m sz hsz, ← hcs]; exact h1
  · by_cases hil : i < L.length
    · have e1 : (fun j => if i < L.length then U i j else V (i - L.length) j) = U i := by funext j; rw [if_pos hil]
      have e2 : (Fs ++ Gs).getD i [] = Fs.getD i [] := by simp [List.getElem?_append_left (show i < Fs.length by omega)]
      dsimp only
      rw [e1, e2, List.getElem_append_left hil]
      exact hP.wr (els i hil) hw (fun y hy hy2 => hn.2.2 y hy2 y (flat_in (by omega) y hy) rfl)
    · have him : i - L.length < M.length := by rw [List.length_append] at hi; omega
      have e1 : (fun j => if i < L.length then U i j else V (i - L.length) j) = V (i - L.length) := by funext j; rw [if_neg hil]
      have e2 : (Fs ++ Gs).getD i [] = Gs.getD (i - L.length) [] := by simp [List.getElem?_append_right (show Fs.length ≤ i by omega), l2]
      dsimp only
      rw [e1, e2, List.getElem_append_right (by omega)]
      exact hP.wr (hu (i - L.length) him) hw (fun y hy hy2 => hd y (flat_in (by omega) y hy) (by simp [hy2]))
  · rw [hfl]
    refine List.nodup_append.2 ⟨blk_nodup v', List.nodup_append.2 ⟨hn.2.1, hG, fun y hy z hz => ?_⟩, fun y hy z hz => ?_⟩
    · rintro rfl
      exact hd y hz (by simp [hy])
    · rintro rfl
      rcases List.mem_append.1 hz with hz | hz
      · rcases hvb y hy with h5 | h5
        · exact hn.2.2 y h5 y hz rfl
        · have := hlt y hz; omega
      · rcases hvb y hy with h5 | h5
        · exact hd y hz (by simp [h5])
        · have := hltG y hz; omega
  · intro y hy
    rw [hfl] at hy
    rcases List.mem_append.1 hy with hy | hy
    · rcases hvb y hy with h5 | h5
      · exact .inl (by simp [h5])
      · exact .inr (.inr h5)
    · rcases List.mem_append.1 hy with hy | hy
      · exact .inl (by simp [hy])
      · exact .inr (.inl hy)

end Go.Proofs.YtjkokbijnaodnaaGreat

namespace Go.Proofs.YtjkokbijnaodnaaGreat
open Go.RowKit

theorem info_iS : (Tryz.prog.info? 3).map (fun i => (i.zero, i.size, i.bytes)) = some (some (.int .i64 0), 1, 8) := by kernel_rfl
theorem append_intS {w : World} {ops : Array Oper} {rest : List Oper} {o : Oper} {a : Act} {Q : Exit → Act → World → Prop} (hgd : o.guard = none) (s x : Operand)
    (ho : o.op = .call { callee := .builtin .append, args := #[s, x], argTypes := #[64, 64] })
    (base : Nat) (v : Value) (L : List Int) (hs : a.eval s = v) (hown : w.ownsRow base 3 1 v L.length (L.map (Value.int .i64))) (t : Int) (hx : a.eval x = .slice (some ⟨w.heap.size, 0, none⟩) 1 1) (hb : L.length ≤ 2000000) (hbase : base ≤ w.heap.size) (R : List Int) (hR : L ++ [t] = R)
    (hK : ∀ v' w', w'.ownsRow base 3 1 v' R.length (R.map (Value.int .i64)) → w.grownBy w' v.ownBlock → (v'.ownBlock = v.ownBlock ∨ ∀ g, v'.ownBlock = some g → w.heap.size ≤ g) → wpList Tryz.prog ops Q rest (a.put o.dst v') w') :
    wpList Tryz.prog ops Q (o :: rest) a (w.alloc (.cells #[.int .i64 t] 3)) := by
  subst hR
  obtain ⟨i0, hi, hz0, hz1, hz2⟩ := info_parts info_iS
  refine wpList_append_own_at _ hgd s x 64 ho base 3 i0 _ 1 8 Tryz.underlying64 hi hz0 hz1 hz2 rfl (by decide) v L.length _ hs (hown.alloc _) ⟨w.heap.size, 0, none⟩ 1 1 [.int .i64 t] hx rfl (World.news_of_block (cs := #[.int .i64 t]) (t := 3) (fr := (0, 0)) (heap_alloc_new w _)) (by intro u hu; simp at hu; subst hu; rfl) (by unfold maxLen; omega) (by omega) (by simp; omega) ?_
  intro v' w' h1 h2 _ h4
  refine hK v' w' ?_ ⟨h2.os, h2.tape, h2.output, by have h := h2.size; simp at h; omega, fun k hk hr => (h2.block k (by simp; omega) hr).trans (Below.heap_alloc _ _ _ hk)⟩ ?_
  · rw [List.map_append, List.length_append]; exact h1
  · rcases h4 with h4 | h4
    · exact .inl h4
    · refine .inr fun g e => ?_
      rw [h4] at e
      have e2 : (w.alloc (.cells #[.int .i64 t] 3)).heap.size = g := Option.some.inj e
      simp at e2; omega

end Go.Proofs.YtjkokbijnaodnaaGreat
