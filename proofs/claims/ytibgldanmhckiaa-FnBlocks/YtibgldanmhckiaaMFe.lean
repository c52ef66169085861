/-
  CoefOk, AppRdI, CoefAt, CoefGive, FrameRows, Cur.
-/
import Derived.Deep.RegionHeld3
import Derived.Deep.QuietTactic
import Derived.BigQuiet
import Derived.Test.YtibgldanmhckiaaRows
import Derived.Laws.AppendOwnNone
import Derived.Maps.AppendAt
import Derived.Deep.AppendLies
import Derived.Outline
import Derived.Test.YtibgldanmhckiaaMFd

namespace Go.Proofs.Ytibgldanmhckiaa
open Go.RowKit

theorem anyH_take1 {P : Program} {md : Region.Mode} {Q : Exit → Act → World → Prop} {S : World → Prop} {l : List Oper} {i f : Nat} {o : Oper} {v : Value} {listed : Array Bool} {a : Act} {w : World} (ho : l[i]? = some o) (hB : (Region.noSelect l.toArray && Region.free md l.toArray listed i && (Region.ready md l.toArray listed).contains i) = true)
    (hQ : ∀ c a d v w, Q (.panic c) (Act.put a d v) w → Q (.panic c) a w) (hS : S w) (hy : YieldsIf P l.toArray S o v a) (h : wpAnyH P md l.toArray Q S f (listed.setIfInBounds i true) (a.put o.dst v) w) : wpAnyH P md l.toArray Q S (f + 1) listed a w := by
  rw [Bool.and_eq_true, Bool.and_eq_true] at hB
  exact wpAnyH_take (by simpa using ho) hB.1.1 hB.1.2 hB.2 (fun c a w hq => hQ c a _ _ w hq) hy hS h

theorem hid_at {wd ht : Int} {n : Nat} {C : Nat → Nat → Int} {c k bw : Nat} : hiddenI wd ht n C c ((k / bw : Nat) : Int) ((k % bw : Nat) : Int) = hidB bw (nwG wd n C c) (nhG ht n C c) k := by
  unfold hiddenI hidB
  congr 1
  · apply decide_eq_decide.2; omega
  · apply decide_eq_decide.2; omega
theorem all_range {f : Nat → Bool} (k : Nat) : (List.range (k + 1)).all f = ((List.range k).all f && f k) := by rw [List.range_succ, List.all_append]; simp
theorem all_range_no {f : Nat → Bool} {k n : Nat} (hk : k < n) (h : f k = false) : (List.range n).all f = false := by
  cases hx : (List.range n).all f with
  | false => rfl
  | true => rw [List.all_eq_true.1 hx k (List.mem_range.2 hk)] at h; exact h

set_option maxRecDepth 20000 in
set_option maxHeartbeats 6400000 in
theorem specCoefsOk (p wd ht rs : Int) (ao : Option Addr) (n cap : Nat) (C : Nat → Nat → Int) (v : Value) (X : List (List (List Int))) (w : World) (hr : RdC w ao n C) (hx : Rd3 w v X) (hs : szCo X ≤ 1048576) (fb b : Bool) (HFB : Hid (frameB p wd ht rs n C = fb)) (HB : Hid (coefsOkF fb wd ht n C X = b)) :
    Calls Try.prog 14 #[.agg #[.int .i64 p, .int .i64 wd, .int .i64 ht, .int .i64 rs, .slice ao n cap], .agg #[v]] w fun e w' => e = .returned (.bool b) ∧ w.grownBy w' none := by
  obtain ⟨xo, xc, rfl, hel⟩ := id hx
  obtain ⟨W2, hW2⟩ : ∃ W2, ((w.alloc (.cells #[.int .i64 p, .int .i64 wd, .int .i64 ht, .int .i64 rs, .slice ao n cap] 26)).alloc (.cells #[.slice xo X.length xc] 29)) = W2 := ⟨_, rfl⟩
  have G0 : w.grownBy W2 none := by rw [← hW2]; exact grown_alloc (grown_alloc (World.grownBy.refl _ _) _) _
  have B0 : Hid (W2.heap[w.heap.size]? = some (.cells #[.int .i64 p, .int .i64 wd, .int .i64 ht, .int .i64 rs, .slice ao n cap] 26 (0, 0))) := by
    unfold Hid
    rw [← hW2, Below.heap_alloc _ _ _ (by simp)]
    exact heap_alloc_new w _
  have B1 : Hid (W2.heap[w.heap.size + 1]? = some (.cells #[.slice xo X.length xc] 29 (0, 0))) := by
    unfold Hid
    rw [← hW2]
    have := heap_alloc_new (w.alloc (.cells #[.int .i64 p, .int .i64 wd, .int .i64 ht, .int .i64 rs, .slice ao n cap] 26)) (.cells #[.slice xo X.length xc] 29)
    simpa using this
  have HFO := hide (specFrameOk p wd ht rs ao n cap C W2 (hr.grown G0) fb HFB)
  have HW := hide hW2
  have HG0 := hide G0
  have HR := hide hr
  have HEL := hide hel
  have HS := hide hs
  have hlen : X.length ≤ 1048576 := Nat.le_trans (szR_len _ X) hs
  have HLEN := hide hlen
  obtain ⟨m, HM⟩ : ∃ m, Hid (X.length = m) := ⟨_, rfl⟩
  rw [unhide HM] at B1 HW hlen ⊢
  clear hW2 G0 hr hx hel hs
  cases fb with
  | false =>
    have e : b = false := by rw [← unhide HB]; rfl
    subst e
    clear HB
    go_enter Try.func14, Try.ntmps14
    go_wp2_with fail
    rw [unhide HW]
    refine (unhide HFO).mono ?_
    rintro e w1 ⟨rfl, g1⟩
    have HG1 := hide (grown_trans (unhide HG0) g1)
    clear g1 HFO
    go_wp2
    go_ret
    exact ⟨rfl, unhide HG1⟩
  | true =>
    have hg := geo_of (unhide HFB)
    have hn4 := hg.n4
    have HG := hide hg
    obtain ⟨f, HF⟩ : ∃ f : Nat → Bool, Hid ((fun c => planeB (bwG wd n C c) (bhG ht n C c) (nwG wd n C c) (nhG ht n C c) (X.getD c [])) = f) := ⟨_, rfl⟩
    have HBE : Hid (b = (decide (m = n) && (List.range m).all f)) := by
      have h := unhide HB
      unfold coefsOkF coefsOkB at h
      rw [unhide HF, unhide HM] at h
      exact h.symm
    clear hg HB
    by_cases hmn : m = n
    · subst hmn
      have hne : ((m : Int) != (m : Int)) = false := by simp
      have HBE2 : Hid (b = (List.range m).all f) := by have h := unhide HBE; rw [decide_eq_true rfl] at h; exact h
      clear HBE
      go_enter Try.func14, Try.ntmps14
      go_wp2_with fail
      rw [unhide HW]
      refine (unhide HFO).mono ?_
      rintro e w1 ⟨rfl, g1⟩
      have HG1 := hide (grown_trans (unhide HG0) g1)
      have HB0 := hide (grown_atT g1 (unhide B0) (by simp))
      have HB1 := hide (grown_atT g1 (unhide B1) (by simp))
      have c4 := (frameCells' (unhide HB0)).2.2.2.2
      have d0 : w1.cell? ⟨w.heap.size + 1, 0, none⟩ = some (.slice xo m xc) := by rw [cell_of_row w1 _ 0 _ _ (0, 0) (unhide HB1)]; rfl
      clear g1 HFO B0 B1 HG0
      go_wp2
      clear c4 d0
      go_loopw [5] (fun iv wr => ∃ i : Nat, i ≤ m ∧ iv = .int .i64 i ∧ Hid ((List.range i).all f = true) ∧ Hid (w1.grownBy wr none)) (fun iv _ => m - (intOf iv).toNat)
      case atStart => exact ⟨0, Nat.zero_le _, rfl, rfl, World.grownBy.refl _ _⟩
      case round =>
        obtain ⟨i, hi, rfl, ha, hgw⟩ := hrel
        have HBF := hide (grown_atT (unhide hgw) (unhide HB0) (by simp))
        have hbx := grown_atT (unhide hgw) (unhide HB1) (by simp)
        have d0 : wr.cell? ⟨w.heap.size + 1, 0, none⟩ = some (.slice xo m xc) := by rw [cell_of_row wr _ 0 _ _ (0, 0) hbx]; rfl
        have HGW := hide (grown_trans (unhide HG1) (unhide hgw))
        clear hbx
        by_cases hlt : i < m
        · have hia : i < X.length := by rw [unhide HM]; exact hlt
          have hal := all_range (f := f) i
          have hno := all_range_no (f := f) hlt
          have hd := dims_of (unhide HG) i hlt
          have HT := hide (specBlocks p wd ht rs ao m cap C wr ((unhide HR).grown (unhide HGW)) _ _ (unhide HG) i hlt _ _ rfl rfl)
          rw [hd.bw, hd.bh] at HT
          have hbw := hd.bw1
          have hbh := hd.bh1
          obtain ⟨pb, poff, pu, rfl, pc0, pq⟩ := unhide HEL i hia
          obtain ⟨po, pcap, rfl, pel⟩ := pq
          have HPE := hide pel
          have hsz := (szR_el (szR lenI) X i hia).2
          have hpl : X[i].length ≤ 1048576 := Nat.le_trans (szR_len lenI X[i]) (Nat.le_trans hsz (unhide HS))
          have HSP : Hid (szR lenI X[i] ≤ 1048576) := Nat.le_trans hsz (unhide HS)
          have hfi : f i = planeB (bwG wd m C i) (bhG ht m C i) (nwG wd m C i) (nhG ht m C i) X[i] := by
            rw [← unhide HF]
            dsimp only
            congr 1
            simp [hia]
          have HPI : Hid (∀ k, hiddenI wd ht m C i ((k / bwG wd m C i : Nat) : Int) ((k % bwG wd m C i : Nat) : Int) = hidB (bwG wd m C i) (nwG wd m C i) (nhG ht m C i) k) := fun k => hid_at
          obtain ⟨bw, HBW⟩ : ∃ bw, Hid (bwG wd m C i = bw) := ⟨_, rfl⟩
          obtain ⟨bh, HBH⟩ : ∃ bh, Hid (bhG ht m C i = bh) := ⟨_, rfl⟩
          rw [unhide HBW] at HT hbw hfi HPI
          rw [unhide HBH] at HT hbh hfi
          generalize nwG wd m C i = nw at hfi HPI
          generalize nhG ht m C i = nh at hfi HPI
          generalize X[i] = Pl at *
          have hm : bw * bh ≤ 128 * 128 := Nat.mul_le_mul hbw.2 hbh.2
          obtain ⟨bn, hbn⟩ : ∃ bn, bw * bh = bn := ⟨_, rfl⟩
          have e3 : (bw : Int) * (bh : Int) = (bn : Int) := by rw [← hbn]; simp
          rw [hbn] at hm
          have e4 := i64_in (bn : Int) (by omega)
          obtain ⟨g, HGG⟩ : ∃ g : Nat → Bool, Hid ((fun k => blockB (hidB bw nw nh k) (Pl.getD k [])) = g) := ⟨_, rfl⟩
          obtain ⟨pl, HPL⟩ : ∃ pl, Hid (Pl.length = pl) := ⟨_, rfl⟩
          have hfi2 : f i = (decide (pl = bn) && (List.range pl).all g) := by rw [hfi]; unfold planeB; rw [unhide HGG, unhide HPL, hbn]
          have hiI : (i : Int) < (m : Int) := by omega
          rw [unhide HPL] at hpl pc0
          have HFI := hide hfi2
          have HAL := hide hal
          have HNO := hide hno
          obtain ⟨f0, f1, f2, f3, f4⟩ := frameCells' (unhide HBF)
          clear hd hsz hfi hfi2 hal hno pel hbn
          go_wp2_with fail
          refine (unhide HT).mono ?_
          rintro e w2 ⟨rfl, g2⟩
          have HG2 := hide (grown_trans (unhide hgw) g2)
          have hb0 := grown_atT g2 (unhide HBF) (by simp)
          have hb1 := grown_atT (unhide HG2) (unhide HB1) (by simp)
          have d2 : w2.cell? ⟨w.heap.size + 1, 0, none⟩ = some (.slice (some ⟨pb, poff, none⟩) m xc) := by rw [cell_of_row w2 _ 0 _ _ (0, 0) hb1]; rfl
          have p2 := (grown_trans (unhide HG1) (unhide HG2)).cell pc0 (by simp)
          have HGB := hide (grown_trans (unhide HG1) (unhide HG2))
          clear f0 f1 f2 f3 f4 HT g2 hb0 hb1 HBF d0
          by_cases hpn : pl = bn
          · subst hpn
            have hne2 : ((pl : Int) != (pl : Int)) = false := by simp
            go_wp2
            clear d2 p2
            go_loopw [8] (fun kv wr2 => ∃ k : Nat, k ≤ pl ∧ kv = .int .i64 k ∧ Hid ((List.range k).all g = true) ∧ Hid (w1.grownBy wr2 none)) (fun kv _ => pl - (intOf kv).toNat)
            case atStart => exact ⟨0, Nat.zero_le _, rfl, rfl, HG2⟩
            case round =>
              clear HG2 HGB HGW hgw
              obtain ⟨k, hk, rfl, hka, hgw⟩ := hrel
              have HBF := hide (grown_atT (unhide hgw) (unhide HB0) (by simp))
              have hbx := grown_atT (unhide hgw) (unhide HB1) (by simp)
              have d0 : wr.cell? ⟨w.heap.size + 1, 0, none⟩ = some (.slice (some ⟨pb, poff, none⟩) m xc) := by rw [cell_of_row wr _ 0 _ _ (0, 0) hbx]; rfl
              have HGW := hide (grown_trans (unhide HG1) (unhide hgw))
              have p0 := (unhide HGW).cell pc0 (by simp)
              clear hbx
              by_cases hkl : k < pl
              · have hka2 : k < Pl.length := by rw [unhide HPL]; exact hkl
                obtain ⟨kb, koff, ku, rfl, kc0, kq⟩ := unhide HPE k hka2
                obtain ⟨zo, zcap, rfl, zr⟩ := kq
                have z0 := (unhide HGW).cell kc0 (by simp)
                have hzl : Pl[k].length ≤ 1048576 := Nat.le_trans ((szR_el lenI Pl k hka2).2) (unhide HSP)
                have hgk : g k = blockB (hidB bw nw nh k) Pl[k] := by rw [← unhide HGG]; dsimp only; congr 1; simp [hka2]
                have hak := all_range (f := g) k
                have hnk := all_range_no (f := g) hkl
                generalize Pl[k] = zs at *
                have HZ := hide (zr.grown (unhide HGW))
                obtain ⟨zn, HZN⟩ : ∃ zn, Hid (zs.length = zn) := ⟨_, rfl⟩
                rw [unhide HZN] at HZ z0 hzl
                have hkI : (k : Int) < (pl : Int) := by omega
                obtain ⟨lv, HLV⟩ : ∃ lv, Hid (levB (-16383) 16383 zs = lv) := ⟨_, rfl⟩
                obtain ⟨f0, f1, f2, f3, f4⟩ := frameCells' (unhide HBF)
                obtain ⟨kr, HKR⟩ : ∃ kr, Hid (k / bw = kr) := ⟨_, rfl⟩
                obtain ⟨kc, HKC⟩ : ∃ kc, Hid (k % bw = kc) := ⟨_, rfl⟩
                have e5 : (k : Int).tdiv (bw : Int) = (kr : Int) := by rw [Int.tdiv_eq_ediv_of_nonneg (by omega), ← unhide HKR]; simp
                have e6 : (k : Int).tmod (bw : Int) = (kc : Int) := by rw [Int.tmod_eq_emod_of_nonneg (by omega), ← unhide HKC]; simp
                have hkr : kr ≤ k := by rw [← unhide HKR]; exact Nat.div_le_self _ _
                have hkc : kc ≤ k := by rw [← unhide HKC]; exact Nat.mod_le _ _
                have hkp : k ≤ 16384 := by omega
                have e7 := i64_in (kr : Int) (by omega)
                have e8 := i64_in (kc : Int) (by omega)
                have hb0 : ((bw : Int) == 0) = false := beq_false_of_ne (by omega)
                have hb1 : ((bw : Int) == -1) = false := beq_false_of_ne (by omega)
                have hbz : ¬ bw = 0 := by omega
                have HZD := hide ((unhide HZ).grown (grown_drew (World.grownBy.refl wr none)))
                have KEEP : Hid (∀ W, wr.drew.grownBy W none → W.cell? ⟨w.heap.size, 0, none⟩ = some (.int .i64 p) ∧ W.cell? ⟨w.heap.size, 1, none⟩ = some (.int .i64 wd) ∧ W.cell? ⟨w.heap.size, 2, none⟩ = some (.int .i64 ht) ∧ W.cell? ⟨w.heap.size, 3, none⟩ = some (.int .i64 rs) ∧ W.cell? ⟨w.heap.size, 4, none⟩ = some (.slice ao m cap)) := fun W gW => frameCells' (grown_atT (grown_trans (grown_drew (World.grownBy.refl wr none)) gW) (unhide HBF) (by simp))
                cases lv with
                | false =>
                  have e : b = false := by
                    rw [unhide HBE2]
                    refine unhide HNO ?_
                    rw [unhide HFI, hnk (by rw [hgk, blockB, unhide HLV, Bool.false_and])]; simp
                  subst e
                  clear hak hnk hgk
                  go_wp2
                  refine wp_region_noPanic ?_
                  refine wp_region_raw (fun w' => w'.cell? ⟨w.heap.size, 0, none⟩ = some (.int .i64 p) ∧ w'.cell? ⟨w.heap.size, 1, none⟩ = some (.int .i64 wd) ∧ w'.cell? ⟨w.heap.size, 2, none⟩ = some (.int .i64 ht) ∧ w'.cell? ⟨w.heap.size, 3, none⟩ = some (.int .i64 rs) ∧ w'.cell? ⟨w.heap.size, 4, none⟩ = some (.slice ao m cap)) [true, false, false, false, false, false, false, false, false, false, false, false, false, false, false, false, false, false, false, false] (by kernel_rfl) (fun _ _ _ _ _ h => h) rfl (by kernel_rfl) ⟨f0, f1, f2, f3, f4⟩ ?_
                  refine heldF_take (v := ?_) (Or.inl ⟨by rfl, ?_⟩) ?_
                  rotate_left 1
                  · intro w' hSw
                    go_simp
                    try with_reducible rfl
                  try simp only [Act.put, List.setIfInBounds_toArray, List.set_cons_zero, List.set_cons_succ]
                  iterate 19 refine heldF_skip ?_
                  refine heldF_nil ?_
                  refine anyH_step1 (i := 1) rfl (by kernel_rfl) (fun K hK => ?_)
                  go_simp
                  refine (specLevel zo zn zcap zs wr.drew (unhide HZD) false HLV).mono ?_
                  rintro e w5 ⟨rfl, g5⟩
                  have HS5 := hide (unhide KEEP _ g5)
                  have HG5 := hide g5
                  clear g5
                  go_simp
                  refine hK.out _ _ (unhide HS5) ?_
                  clear hK K
                  try simp only [Act.put, List.setIfInBounds_toArray, List.set_cons_zero, List.set_cons_succ]
                  refine anyH_take1 (i := 2) (v := ?_) rfl (by kernel_rfl) (fun _ _ _ _ _ h => h) (unhide HS5) (Or.inl ⟨by rfl, ?_⟩) ?_
                  rotate_left 1
                  · intro w' hSw
                    try dsimp only at hSw
                    obtain ⟨z0, z1, z2, z3, z4⟩ := hSw
                    go_simp
                    try with_reducible rfl
                  try simp only [Act.put, List.setIfInBounds_toArray, List.set_cons_zero, List.set_cons_succ]
                  refine anyH_take1 (i := 3) (v := ?_) rfl (by kernel_rfl) (fun _ _ _ _ _ h => h) (unhide HS5) (Or.inl ⟨by rfl, ?_⟩) ?_
                  rotate_left 1
                  · intro w' hSw
                    try dsimp only at hSw
                    obtain ⟨z0, z1, z2, z3, z4⟩ := hSw
                    go_simp
                    try with_reducible rfl
                  try simp only [Act.put, List.setIfInBounds_toArray, List.set_cons_zero, List.set_cons_succ]
                  refine anyH_take1 (i := 4) (v := undef) rfl (by kernel_rfl) (fun _ _ _ _ _ h => h) (unhide HS5) (Or.inr ⟨by rfl, rfl⟩) ?_
                  try simp only [Act.put, List.setIfInBounds_toArray, List.set_cons_zero, List.set_cons_succ]
                  refine anyH_take1 (i := 5) (v := undef) rfl (by kernel_rfl) (fun _ _ _ _ _ h => h) (unhide HS5) (Or.inr ⟨by rfl, rfl⟩) ?_
                  try simp only [Act.put, List.setIfInBounds_toArray, List.set_cons_zero, List.set_cons_succ]
                  refine anyH_take1 (i := 6) (v := undef) rfl (by kernel_rfl) (fun _ _ _ _ _ h => h) (unhide HS5) (Or.inr ⟨by rfl, rfl⟩) ?_
                  try simp only [Act.put, List.setIfInBounds_toArray, List.set_cons_zero, List.set_cons_succ]
                  refine anyH_take1 (i := 7) (v := undef) rfl (by kernel_rfl) (fun _ _ _ _ _ h => h) (unhide HS5) (Or.inr ⟨by rfl, rfl⟩) ?_
                  try simp only [Act.put, List.setIfInBounds_toArray, List.set_cons_zero, List.set_cons_succ]
                  refine anyH_take1 (i := 8) (v := undef) rfl (by kernel_rfl) (fun _ _ _ _ _ h => h) (unhide HS5) (Or.inr ⟨by rfl, rfl⟩) ?_
                  try simp only [Act.put, List.setIfInBounds_toArray, List.set_cons_zero, List.set_cons_succ]
                  refine anyH_take1 (i := 9) (v := undef) rfl (by kernel_rfl) (fun _ _ _ _ _ h => h) (unhide HS5) (Or.inr ⟨by rfl, rfl⟩) ?_
                  try simp only [Act.put, List.setIfInBounds_toArray, List.set_cons_zero, List.set_cons_succ]
                  refine anyH_take1 (i := 10) (v := undef) rfl (by kernel_rfl) (fun _ _ _ _ _ h => h) (unhide HS5) (Or.inr ⟨by rfl, rfl⟩) ?_
                  try simp only [Act.put, List.setIfInBounds_toArray, List.set_cons_zero, List.set_cons_succ]
                  refine anyH_take1 (i := 11) (v := undef) rfl (by kernel_rfl) (fun _ _ _ _ _ h => h) (unhide HS5) (Or.inr ⟨by rfl, rfl⟩) ?_
                  try simp only [Act.put, List.setIfInBounds_toArray, List.set_cons_zero, List.set_cons_succ]
                  refine anyH_take1 (i := 12) (v := undef) rfl (by kernel_rfl) (fun _ _ _ _ _ h => h) (unhide HS5) (Or.inr ⟨by rfl, rfl⟩) ?_
                  try simp only [Act.put, List.setIfInBounds_toArray, List.set_cons_zero, List.set_cons_succ]
                  refine anyH_take1 (i := 13) (v := undef) rfl (by kernel_rfl) (fun _ _ _ _ _ h => h) (unhide HS5) (Or.inr ⟨by rfl, rfl⟩) ?_
                  try simp only [Act.put, List.setIfInBounds_toArray, List.set_cons_zero, List.set_cons_succ]
                  refine anyH_take1 (i := 14) (v := undef) rfl (by kernel_rfl) (fun _ _ _ _ _ h => h) (unhide HS5) (Or.inr ⟨by rfl, rfl⟩) ?_
                  try simp only [Act.put, List.setIfInBounds_toArray, List.set_cons_zero, List.set_cons_succ]
                  refine anyH_take1 (i := 15) (v := undef) rfl (by kernel_rfl) (fun _ _ _ _ _ h => h) (unhide HS5) (Or.inr ⟨by rfl, rfl⟩) ?_
                  try simp only [Act.put, List.setIfInBounds_toArray, List.set_cons_zero, List.set_cons_succ]
                  refine anyH_take1 (i := 16) (v := undef) rfl (by kernel_rfl) (fun _ _ _ _ _ h => h) (unhide HS5) (Or.inr ⟨by rfl, rfl⟩) ?_
                  try simp only [Act.put, List.setIfInBounds_toArray, List.set_cons_zero, List.set_cons_succ]
                  refine anyH_take1 (i := 17) (v := undef) rfl (by kernel_rfl) (fun _ _ _ _ _ h => h) (unhide HS5) (Or.inr ⟨by rfl, rfl⟩) ?_
                  try simp only [Act.put, List.setIfInBounds_toArray, List.set_cons_zero, List.set_cons_succ]
                  refine anyH_take1 (i := 18) (v := undef) rfl (by kernel_rfl) (fun _ _ _ _ _ h => h) (unhide HS5) (Or.inr ⟨by rfl, rfl⟩) ?_
                  try simp only [Act.put, List.setIfInBounds_toArray, List.set_cons_zero, List.set_cons_succ]
                  refine anyH_take1 (i := 19) (v := ?_) rfl (by kernel_rfl) (fun _ _ _ _ _ h => h) (unhide HS5) (Or.inl ⟨by rfl, ?_⟩) ?_
                  rotate_left 1
                  · intro w' hSw
                    try dsimp only at hSw
                    obtain ⟨z0, z1, z2, z3, z4⟩ := hSw
                    go_simp
                    try with_reducible rfl
                  try simp only [Act.put, List.setIfInBounds_toArray, List.set_cons_zero, List.set_cons_succ]
                  refine wpAnyH_done (by kernel_rfl) (NoPanic.normal ?_) _
                  have HFIN := hide (grown_trans (unhide HGW) (grown_trans (grown_drew (World.grownBy.refl wr none)) (unhide HG5)))
                  clear HGW
                  go_wp2
                  go_ret
                  exact ⟨rfl, unhide HFIN⟩
                | true =>
                  have HPK := hide (unhide HPI k)
                  rw [unhide HKR, unhide HKC] at HPK
                  obtain ⟨hd, HHD⟩ : ∃ hd, Hid (hidB bw nw nh k = hd) := ⟨_, rfl⟩
                  rw [unhide HHD] at HPK hgk
                  cases hd with
                  | false =>
                    have HA3 : Hid ((List.range (k + 1)).all g = true) := by unfold Hid; rw [hak, unhide hka, hgk, blockB, unhide HLV]; rfl
                    clear hak hnk hgk
                    go_wp2
                    refine wp_region_noPanic ?_
                    refine wp_region_raw (fun w' => w'.cell? ⟨w.heap.size, 0, none⟩ = some (.int .i64 p) ∧ w'.cell? ⟨w.heap.size, 1, none⟩ = some (.int .i64 wd) ∧ w'.cell? ⟨w.heap.size, 2, none⟩ = some (.int .i64 ht) ∧ w'.cell? ⟨w.heap.size, 3, none⟩ = some (.int .i64 rs) ∧ w'.cell? ⟨w.heap.size, 4, none⟩ = some (.slice ao m cap)) [true, false, false, false, false, false, false, false, false, false, false, false, false, false, false, false, false, false, false, false] (by kernel_rfl) (fun _ _ _ _ _ h => h) rfl (by kernel_rfl) ⟨f0, f1, f2, f3, f4⟩ ?_
                    refine heldF_take (v := ?_) (Or.inl ⟨by rfl, ?_⟩) ?_
                    rotate_left 1
                    · intro w' hSw
                      go_simp
                      try with_reducible rfl
                    try simp only [Act.put, List.setIfInBounds_toArray, List.set_cons_zero, List.set_cons_succ]
                    iterate 19 refine heldF_skip ?_
                    refine heldF_nil ?_
                    refine anyH_step1 (i := 1) rfl (by kernel_rfl) (fun K hK => ?_)
                    go_simp
                    refine (specLevel zo zn zcap zs wr.drew (unhide HZD) true HLV).mono ?_
                    rintro e w5 ⟨rfl, g5⟩
                    have HS5 := hide (unhide KEEP _ g5)
                    have HG5 := hide g5
                    clear g5
                    go_simp
                    refine hK.out _ _ (unhide HS5) ?_
                    clear hK K
                    try simp only [Act.put, List.setIfInBounds_toArray, List.set_cons_zero, List.set_cons_succ]
                    refine anyH_take1 (i := 2) (v := ?_) rfl (by kernel_rfl) (fun _ _ _ _ _ h => h) (unhide HS5) (Or.inl ⟨by rfl, ?_⟩) ?_
                    rotate_left 1
                    · intro w' hSw
                      try dsimp only at hSw
                      obtain ⟨z0, z1, z2, z3, z4⟩ := hSw
                      go_simp
                      try with_reducible rfl
                    try simp only [Act.put, List.setIfInBounds_toArray, List.set_cons_zero, List.set_cons_succ]
                    refine anyH_take1 (i := 3) (v := ?_) rfl (by kernel_rfl) (fun _ _ _ _ _ h => h) (unhide HS5) (Or.inl ⟨by rfl, ?_⟩) ?_
                    rotate_left 1
                    · intro w' hSw
                      try dsimp only at hSw
                      obtain ⟨z0, z1, z2, z3, z4⟩ := hSw
                      go_simp
                      try with_reducible rfl
                    try simp only [Act.put, List.setIfInBounds_toArray, List.set_cons_zero, List.set_cons_succ]
                    refine anyH_take1 (i := 4) (v := ?_) rfl (by kernel_rfl) (fun _ _ _ _ _ h => h) (unhide HS5) (Or.inl ⟨by rfl, ?_⟩) ?_
                    rotate_left 1
                    · intro w' hSw
                      try dsimp only at hSw
                      obtain ⟨z0, z1, z2, z3, z4⟩ := hSw
                      go_simp
                      try with_reducible rfl
                    try simp only [Act.put, List.setIfInBounds_toArray, List.set_cons_zero, List.set_cons_succ]
                    refine anyH_take1 (i := 5) (v := ?_) rfl (by kernel_rfl) (fun _ _ _ _ _ h => h) (unhide HS5) (Or.inl ⟨by rfl, ?_⟩) ?_
                    rotate_left 1
                    · intro w' hSw
                      try dsimp only at hSw
                      obtain ⟨z0, z1, z2, z3, z4⟩ := hSw
                      go_simp
                      try with_reducible rfl
                    try simp only [Act.put, List.setIfInBounds_toArray, List.set_cons_zero, List.set_cons_succ]
                    refine anyH_take1 (i := 6) (v := ?_) rfl (by kernel_rfl) (fun _ _ _ _ _ h => h) (unhide HS5) (Or.inl ⟨by rfl, ?_⟩) ?_
                    rotate_left 1
                    · intro w' hSw
                      try dsimp only at hSw
                      obtain ⟨z0, z1, z2, z3, z4⟩ := hSw
                      go_simp
                      try with_reducible rfl
                    try simp only [Act.put, List.setIfInBounds_toArray, List.set_cons_zero, List.set_cons_succ]
                    refine anyH_take1 (i := 7) (v := ?_) rfl (by kernel_rfl) (fun _ _ _ _ _ h => h) (unhide HS5) (Or.inl ⟨by rfl, ?_⟩) ?_
                    rotate_left 1
                    · intro w' hSw
                      try dsimp only at hSw
                      obtain ⟨z0, z1, z2, z3, z4⟩ := hSw
                      go_simp
                      try with_reducible rfl
                    try simp only [Act.put, List.setIfInBounds_toArray, List.set_cons_zero, List.set_cons_succ]
                    refine anyH_take1 (i := 8) (v := ?_) rfl (by kernel_rfl) (fun _ _ _ _ _ h => h) (unhide HS5) (Or.inl ⟨by rfl, ?_⟩) ?_
                    rotate_left 1
                    · intro w' hSw
                      try dsimp only at hSw
                      obtain ⟨z0, z1, z2, z3, z4⟩ := hSw
                      go_simp
                      try with_reducible rfl
                    try simp only [Act.put, List.setIfInBounds_toArray, List.set_cons_zero, List.set_cons_succ]
                    refine anyH_take1 (i := 9) (v := ?_) rfl (by kernel_rfl) (fun _ _ _ _ _ h => h) (unhide HS5) (Or.inl ⟨by rfl, ?_⟩) ?_
                    rotate_left 1
                    · intro w' hSw
                      try dsimp only at hSw
                      obtain ⟨z0, z1, z2, z3, z4⟩ := hSw
                      go_simp
                      try with_reducible rfl
                    try simp only [Act.put, List.setIfInBounds_toArray, List.set_cons_zero, List.set_cons_succ]
                    refine anyH_take1 (i := 10) (v := ?_) rfl (by kernel_rfl) (fun _ _ _ _ _ h => h) (unhide HS5) (Or.inl ⟨by rfl, ?_⟩) ?_
                    rotate_left 1
                    · intro w' hSw
                      try dsimp only at hSw
                      obtain ⟨z0, z1, z2, z3, z4⟩ := hSw
                      go_simp
                      try with_reducible rfl
                    try simp only [Act.put, List.setIfInBounds_toArray, List.set_cons_zero, List.set_cons_succ]
                    refine anyH_take1 (i := 11) (v := ?_) rfl (by kernel_rfl) (fun _ _ _ _ _ h => h) (unhide HS5) (Or.inl ⟨by rfl, ?_⟩) ?_
                    rotate_left 1
                    · intro w' hSw
                      try dsimp only at hSw
                      obtain ⟨z0, z1, z2, z3, z4⟩ := hSw
                      go_simp
                      try with_reducible rfl
                    try simp only [Act.put, List.setIfInBounds_toArray, List.set_cons_zero, List.set_cons_succ]
                    refine anyH_take1 (i := 12) (v := ?_) rfl (by kernel_rfl) (fun _ _ _ _ _ h => h) (unhide HS5) (Or.inl ⟨by rfl, ?_⟩) ?_
                    rotate_left 1
                    · intro w' hSw
                      try dsimp only at hSw
                      obtain ⟨z0, z1, z2, z3, z4⟩ := hSw
                      go_simp
                      try with_reducible rfl
                    try simp only [Act.put, List.setIfInBounds_toArray, List.set_cons_zero, List.set_cons_succ]
                    refine anyH_step1 (i := 13) rfl (by kernel_rfl) (fun K hK => ?_)
                    go_simp
                    refine (specHidden p wd ht rs ao m cap C w5 ((unhide HR).grown (grown_trans (unhide HGW) (grown_trans (grown_drew (World.grownBy.refl wr none)) (unhide HG5)))) (unhide HG) i hlt (kr : Int) (kc : Int) false HPK).mono ?_
                    rintro e w6 ⟨rfl, g6⟩
                    have HS6 := hide (unhide KEEP _ (grown_trans (unhide HG5) g6))
                    have HG6 := hide (grown_trans (unhide HG5) g6)
                    clear g6
                    go_simp
                    refine hK.out _ _ (unhide HS6) ?_
                    clear hK K
                    try simp only [Act.put, List.setIfInBounds_toArray, List.set_cons_zero, List.set_cons_succ]
                    refine anyH_take1 (i := 14) (v := ?_) rfl (by kernel_rfl) (fun _ _ _ _ _ h => h) (unhide HS6) (Or.inl ⟨by rfl, ?_⟩) ?_
                    rotate_left 1
                    · intro w' hSw
                      try dsimp only at hSw
                      obtain ⟨z0, z1, z2, z3, z4⟩ := hSw
                      go_simp
                      try with_reducible rfl
                    try simp only [Act.put, List.setIfInBounds_toArray, List.set_cons_zero, List.set_cons_succ]
                    refine anyH_take1 (i := 15) (v := undef) rfl (by kernel_rfl) (fun _ _ _ _ _ h => h) (unhide HS6) (Or.inr ⟨by rfl, rfl⟩) ?_
                    try simp only [Act.put, List.setIfInBounds_toArray, List.set_cons_zero, List.set_cons_succ]
                    refine anyH_take1 (i := 16) (v := undef) rfl (by kernel_rfl) (fun _ _ _ _ _ h => h) (unhide HS6) (Or.inr ⟨by rfl, rfl⟩) ?_
                    try simp only [Act.put, List.setIfInBounds_toArray, List.set_cons_zero, List.set_cons_succ]
                    refine anyH_take1 (i := 17) (v := undef) rfl (by kernel_rfl) (fun _ _ _ _ _ h => h) (unhide HS6) (Or.inr ⟨by rfl, rfl⟩) ?_
                    try simp only [Act.put, List.setIfInBounds_toArray, List.set_cons_zero, List.set_cons_succ]
                    refine anyH_take1 (i := 18) (v := ?_) rfl (by kernel_rfl) (fun _ _ _ _ _ h => h) (unhide HS6) (Or.inl ⟨by rfl, ?_⟩) ?_
                    rotate_left 1
                    · intro w' hSw
                      try dsimp only at hSw
                      obtain ⟨z0, z1, z2, z3, z4⟩ := hSw
                      go_simp
                      try with_reducible rfl
                    try simp only [Act.put, List.setIfInBounds_toArray, List.set_cons_zero, List.set_cons_succ]
                    refine anyH_take1 (i := 19) (v := ?_) rfl (by kernel_rfl) (fun _ _ _ _ _ h => h) (unhide HS6) (Or.inl ⟨by rfl, ?_⟩) ?_
                    rotate_left 1
                    · intro w' hSw
                      try dsimp only at hSw
                      obtain ⟨z0, z1, z2, z3, z4⟩ := hSw
                      go_simp
                      try with_reducible rfl
                    try simp only [Act.put, List.setIfInBounds_toArray, List.set_cons_zero, List.set_cons_succ]
                    refine wpAnyH_done (by kernel_rfl) (NoPanic.normal ?_) _
                    have HFIN := hide (grown_trans (unhide hgw) (grown_trans (grown_drew (World.grownBy.refl wr none)) (unhide HG6)))
                    clear HGW hgw
                    go_wp2
                    go_roundw
                    case rel => exact ⟨k + 1, by omega, by go_num, HA3, HFIN⟩
                    case measure => simp [intOf]; omega
                  | true =>
                    obtain ⟨zb, HZB⟩ : ∃ zb, Hid (zeroB zs = zb) := ⟨_, rfl⟩
                    cases zb with
                    | false =>
                      have e : b = false := by
                        rw [unhide HBE2]
                        refine unhide HNO ?_
                        rw [unhide HFI, hnk (by rw [hgk, blockB, unhide HLV, unhide HZB]; rfl)]; simp
                      subst e
                      clear hak hnk hgk
                      go_wp2
                      refine wp_region_noPanic ?_
                      refine wp_region_raw (fun w' => w'.cell? ⟨w.heap.size, 0, none⟩ = some (.int .i64 p) ∧ w'.cell? ⟨w.heap.size, 1, none⟩ = some (.int .i64 wd) ∧ w'.cell? ⟨w.heap.size, 2, none⟩ = some (.int .i64 ht) ∧ w'.cell? ⟨w.heap.size, 3, none⟩ = some (.int .i64 rs) ∧ w'.cell? ⟨w.heap.size, 4, none⟩ = some (.slice ao m cap)) [true, false, false, false, false, false, false, false, false, false, false, false, false, false, false, false, false, false, false, false] (by kernel_rfl) (fun _ _ _ _ _ h => h) rfl (by kernel_rfl) ⟨f0, f1, f2, f3, f4⟩ ?_
                      refine heldF_take (v := ?_) (Or.inl ⟨by rfl, ?_⟩) ?_
                      rotate_left 1
                      · intro w' hSw
                        go_simp
                        try with_reducible rfl
                      try simp only [Act.put, List.setIfInBounds_toArray, List.set_cons_zero, List.set_cons_succ]
                      iterate 19 refine heldF_skip ?_
                      refine heldF_nil ?_
                      refine anyH_step1 (i := 1) rfl (by kernel_rfl) (fun K hK => ?_)
                      go_simp
                      refine (specLevel zo zn zcap zs wr.drew (unhide HZD) true HLV).mono ?_
                      rintro e w5 ⟨rfl, g5⟩
                      have HS5 := hide (unhide KEEP _ g5)
                      have HG5 := hide g5
                      clear g5
                      go_simp
                      refine hK.out _ _ (unhide HS5) ?_
                      clear hK K
                      try simp only [Act.put, List.setIfInBounds_toArray, List.set_cons_zero, List.set_cons_succ]
                      refine anyH_take1 (i := 2) (v := ?_) rfl (by kernel_rfl) (fun _ _ _ _ _ h => h) (unhide HS5) (Or.inl ⟨by rfl, ?_⟩) ?_
                      rotate_left 1
                      · intro w' hSw
                        try dsimp only at hSw
                        obtain ⟨z0, z1, z2, z3, z4⟩ := hSw
                        go_simp
                        try with_reducible rfl
                      try simp only [Act.put, List.setIfInBounds_toArray, List.set_cons_zero, List.set_cons_succ]
                      refine anyH_take1 (i := 3) (v := ?_) rfl (by kernel_rfl) (fun _ _ _ _ _ h => h) (unhide HS5) (Or.inl ⟨by rfl, ?_⟩) ?_
                      rotate_left 1
                      · intro w' hSw
                        try dsimp only at hSw
                        obtain ⟨z0, z1, z2, z3, z4⟩ := hSw
                        go_simp
                        try with_reducible rfl
                      try simp only [Act.put, List.setIfInBounds_toArray, List.set_cons_zero, List.set_cons_succ]
                      refine anyH_take1 (i := 4) (v := ?_) rfl (by kernel_rfl) (fun _ _ _ _ _ h => h) (unhide HS5) (Or.inl ⟨by rfl, ?_⟩) ?_
                      rotate_left 1
                      · intro w' hSw
                        try dsimp only at hSw
                        obtain ⟨z0, z1, z2, z3, z4⟩ := hSw
                        go_simp
                        try with_reducible rfl
                      try simp only [Act.put, List.setIfInBounds_toArray, List.set_cons_zero, List.set_cons_succ]
                      refine anyH_take1 (i := 5) (v := ?_) rfl (by kernel_rfl) (fun _ _ _ _ _ h => h) (unhide HS5) (Or.inl ⟨by rfl, ?_⟩) ?_
                      rotate_left 1
                      · intro w' hSw
                        try dsimp only at hSw
                        obtain ⟨z0, z1, z2, z3, z4⟩ := hSw
                        go_simp
                        try with_reducible rfl
                      try simp only [Act.put, List.setIfInBounds_toArray, List.set_cons_zero, List.set_cons_succ]
                      refine anyH_take1 (i := 6) (v := ?_) rfl (by kernel_rfl) (fun _ _ _ _ _ h => h) (unhide HS5) (Or.inl ⟨by rfl, ?_⟩) ?_
                      rotate_left 1
                      · intro w' hSw
                        try dsimp only at hSw
                        obtain ⟨z0, z1, z2, z3, z4⟩ := hSw
                        go_simp
                        try with_reducible rfl
                      try simp only [Act.put, List.setIfInBounds_toArray, List.set_cons_zero, List.set_cons_succ]
                      refine anyH_take1 (i := 7) (v := ?_) rfl (by kernel_rfl) (fun _ _ _ _ _ h => h) (unhide HS5) (Or.inl ⟨by rfl, ?_⟩) ?_
                      rotate_left 1
                      · intro w' hSw
                        try dsimp only at hSw
                        obtain ⟨z0, z1, z2, z3, z4⟩ := hSw
                        go_simp
                        try with_reducible rfl
                      try simp only [Act.put, List.setIfInBounds_toArray, List.set_cons_zero, List.set_cons_succ]
                      refine anyH_take1 (i := 8) (v := ?_) rfl (by kernel_rfl) (fun _ _ _ _ _ h => h) (unhide HS5) (Or.inl ⟨by rfl, ?_⟩) ?_
                      rotate_left 1
                      · intro w' hSw
                        try dsimp only at hSw
                        obtain ⟨z0, z1, z2, z3, z4⟩ := hSw
                        go_simp
                        try with_reducible rfl
                      try simp only [Act.put, List.setIfInBounds_toArray, List.set_cons_zero, List.set_cons_succ]
                      refine anyH_take1 (i := 9) (v := ?_) rfl (by kernel_rfl) (fun _ _ _ _ _ h => h) (unhide HS5) (Or.inl ⟨by rfl, ?_⟩) ?_
                      rotate_left 1
                      · intro w' hSw
                        try dsimp only at hSw
                        obtain ⟨z0, z1, z2, z3, z4⟩ := hSw
                        go_simp
                        try with_reducible rfl
                      try simp only [Act.put, List.setIfInBounds_toArray, List.set_cons_zero, List.set_cons_succ]
                      refine anyH_take1 (i := 10) (v := ?_) rfl (by kernel_rfl) (fun _ _ _ _ _ h => h) (unhide HS5) (Or.inl ⟨by rfl, ?_⟩) ?_
                      rotate_left 1
                      · intro w' hSw
                        try dsimp only at hSw
                        obtain ⟨z0, z1, z2, z3, z4⟩ := hSw
                        go_simp
                        try with_reducible rfl
                      try simp only [Act.put, List.setIfInBounds_toArray, List.set_cons_zero, List.set_cons_succ]
                      refine anyH_take1 (i := 11) (v := ?_) rfl (by kernel_rfl) (fun _ _ _ _ _ h => h) (unhide HS5) (Or.inl ⟨by rfl, ?_⟩) ?_
                      rotate_left 1
                      · intro w' hSw
                        try dsimp only at hSw
                        obtain ⟨z0, z1, z2, z3, z4⟩ := hSw
                        go_simp
                        try with_reducible rfl
                      try simp only [Act.put, List.setIfInBounds_toArray, List.set_cons_zero, List.set_cons_succ]
                      refine anyH_take1 (i := 12) (v := ?_) rfl (by kernel_rfl) (fun _ _ _ _ _ h => h) (unhide HS5) (Or.inl ⟨by rfl, ?_⟩) ?_
                      rotate_left 1
                      · intro w' hSw
                        try dsimp only at hSw
                        obtain ⟨z0, z1, z2, z3, z4⟩ := hSw
                        go_simp
                        try with_reducible rfl
                      try simp only [Act.put, List.setIfInBounds_toArray, List.set_cons_zero, List.set_cons_succ]
                      refine anyH_step1 (i := 13) rfl (by kernel_rfl) (fun K hK => ?_)
                      go_simp
                      refine (specHidden p wd ht rs ao m cap C w5 ((unhide HR).grown (grown_trans (unhide HGW) (grown_trans (grown_drew (World.grownBy.refl wr none)) (unhide HG5)))) (unhide HG) i hlt (kr : Int) (kc : Int) true HPK).mono ?_
                      rintro e w6 ⟨rfl, g6⟩
                      have HS6 := hide (unhide KEEP _ (grown_trans (unhide HG5) g6))
                      have HG6 := hide (grown_trans (unhide HG5) g6)
                      clear g6
                      go_simp
                      refine hK.out _ _ (unhide HS6) ?_
                      clear hK K
                      try simp only [Act.put, List.setIfInBounds_toArray, List.set_cons_zero, List.set_cons_succ]
                      refine anyH_take1 (i := 14) (v := ?_) rfl (by kernel_rfl) (fun _ _ _ _ _ h => h) (unhide HS6) (Or.inl ⟨by rfl, ?_⟩) ?_
                      rotate_left 1
                      · intro w' hSw
                        try dsimp only at hSw
                        obtain ⟨z0, z1, z2, z3, z4⟩ := hSw
                        go_simp
                        try with_reducible rfl
                      try simp only [Act.put, List.setIfInBounds_toArray, List.set_cons_zero, List.set_cons_succ]
                      refine anyH_take1 (i := 15) (v := ?_) rfl (by kernel_rfl) (fun _ _ _ _ _ h => h) (unhide HS6) (Or.inl ⟨by rfl, ?_⟩) ?_
                      rotate_left 1
                      · intro w' hSw
                        try dsimp only at hSw
                        obtain ⟨z0, z1, z2, z3, z4⟩ := hSw
                        go_simp
                        try with_reducible rfl
                      try simp only [Act.put, List.setIfInBounds_toArray, List.set_cons_zero, List.set_cons_succ]
                      refine anyH_step1 (i := 16) rfl (by kernel_rfl) (fun K hK => ?_)
                      go_simp
                      refine (specZero zo zn zcap zs w6 ((unhide HZD).grown (unhide HG6)) hzl false HZB).mono ?_
                      rintro e w7 ⟨rfl, rfl⟩
                      go_simp
                      refine hK.out _ _ (unhide HS6) ?_
                      clear hK K
                      try simp only [Act.put, List.setIfInBounds_toArray, List.set_cons_zero, List.set_cons_succ]
                      refine anyH_take1 (i := 17) (v := ?_) rfl (by kernel_rfl) (fun _ _ _ _ _ h => h) (unhide HS6) (Or.inl ⟨by rfl, ?_⟩) ?_
                      rotate_left 1
                      · intro w' hSw
                        try dsimp only at hSw
                        obtain ⟨z0, z1, z2, z3, z4⟩ := hSw
                        go_simp
                        try with_reducible rfl
                      try simp only [Act.put, List.setIfInBounds_toArray, List.set_cons_zero, List.set_cons_succ]
                      refine anyH_take1 (i := 18) (v := ?_) rfl (by kernel_rfl) (fun _ _ _ _ _ h => h) (unhide HS6) (Or.inl ⟨by rfl, ?_⟩) ?_
                      rotate_left 1
                      · intro w' hSw
                        try dsimp only at hSw
                        obtain ⟨z0, z1, z2, z3, z4⟩ := hSw
                        go_simp
                        try with_reducible rfl
                      try simp only [Act.put, List.setIfInBounds_toArray, List.set_cons_zero, List.set_cons_succ]
                      refine anyH_take1 (i := 19) (v := ?_) rfl (by kernel_rfl) (fun _ _ _ _ _ h => h) (unhide HS6) (Or.inl ⟨by rfl, ?_⟩) ?_
                      rotate_left 1
                      · intro w' hSw
                        try dsimp only at hSw
                        obtain ⟨z0, z1, z2, z3, z4⟩ := hSw
                        go_simp
                        try with_reducible rfl
                      try simp only [Act.put, List.setIfInBounds_toArray, List.set_cons_zero, List.set_cons_succ]
                      refine wpAnyH_done (by kernel_rfl) (NoPanic.normal ?_) _
                      have HFIN := hide (grown_trans (unhide HGW) (grown_trans (grown_drew (World.grownBy.refl wr none)) (unhide HG6)))
                      clear HGW
                      go_wp2
                      go_ret
                      exact ⟨rfl, unhide HFIN⟩
                    | true =>
                      have HA3 : Hid ((List.range (k + 1)).all g = true) := by unfold Hid; rw [hak, unhide hka, hgk, blockB, unhide HLV, unhide HZB]; rfl
                      clear hak hnk hgk
                      go_wp2
                      refine wp_region_noPanic ?_
                      refine wp_region_raw (fun w' => w'.cell? ⟨w.heap.size, 0, none⟩ = some (.int .i64 p) ∧ w'.cell? ⟨w.heap.size, 1, none⟩ = some (.int .i64 wd) ∧ w'.cell? ⟨w.heap.size, 2, none⟩ = some (.int .i64 ht) ∧ w'.cell? ⟨w.heap.size, 3, none⟩ = some (.int .i64 rs) ∧ w'.cell? ⟨w.heap.size, 4, none⟩ = some (.slice ao m cap)) [true, false, false, false, false, false, false, false, false, false, false, false, false, false, false, false, false, false, false, false] (by kernel_rfl) (fun _ _ _ _ _ h => h) rfl (by kernel_rfl) ⟨f0, f1, f2, f3, f4⟩ ?_
                      refine heldF_take (v := ?_) (Or.inl ⟨by rfl, ?_⟩) ?_
                      rotate_left 1
                      · intro w' hSw
                        go_simp
                        try with_reducible rfl
                      try simp only [Act.put, List.setIfInBounds_toArray, List.set_cons_zero, List.set_cons_succ]
                      iterate 19 refine heldF_skip ?_
                      refine heldF_nil ?_
                      refine anyH_step1 (i := 1) rfl (by kernel_rfl) (fun K hK => ?_)
                      go_simp
                      refine (specLevel zo zn zcap zs wr.drew (unhide HZD) true HLV).mono ?_
                      rintro e w5 ⟨rfl, g5⟩
                      have HS5 := hide (unhide KEEP _ g5)
                      have HG5 := hide g5
                      clear g5
                      go_simp
                      refine hK.out _ _ (unhide HS5) ?_
                      clear hK K
                      try simp only [Act.put, List.setIfInBounds_toArray, List.set_cons_zero, List.set_cons_succ]
                      refine anyH_take1 (i := 2) (v := ?_) rfl (by kernel_rfl) (fun _ _ _ _ _ h => h) (unhide HS5) (Or.inl ⟨by rfl, ?_⟩) ?_
                      rotate_left 1
                      · intro w' hSw
                        try dsimp only at hSw
                        obtain ⟨z0, z1, z2, z3, z4⟩ := hSw
                        go_simp
                        try with_reducible rfl
                      try simp only [Act.put, List.setIfInBounds_toArray, List.set_cons_zero, List.set_cons_succ]
                      refine anyH_take1 (i := 3) (v := ?_) rfl (by kernel_rfl) (fun _ _ _ _ _ h => h) (unhide HS5) (Or.inl ⟨by rfl, ?_⟩) ?_
                      rotate_left 1
                      · intro w' hSw
                        try dsimp only at hSw
                        obtain ⟨z0, z1, z2, z3, z4⟩ := hSw
                        go_simp
                        try with_reducible rfl
                      try simp only [Act.put, List.setIfInBounds_toArray, List.set_cons_zero, List.set_cons_succ]
                      refine anyH_take1 (i := 4) (v := ?_) rfl (by kernel_rfl) (fun _ _ _ _ _ h => h) (unhide HS5) (Or.inl ⟨by rfl, ?_⟩) ?_
                      rotate_left 1
                      · intro w' hSw
                        try dsimp only at hSw
                        obtain ⟨z0, z1, z2, z3, z4⟩ := hSw
                        go_simp
                        try with_reducible rfl
                      try simp only [Act.put, List.setIfInBounds_toArray, List.set_cons_zero, List.set_cons_succ]
                      refine anyH_take1 (i := 5) (v := ?_) rfl (by kernel_rfl) (fun _ _ _ _ _ h => h) (unhide HS5) (Or.inl ⟨by rfl, ?_⟩) ?_
                      rotate_left 1
                      · intro w' hSw
                        try dsimp only at hSw
                        obtain ⟨z0, z1, z2, z3, z4⟩ := hSw
                        go_simp
                        try with_reducible rfl
                      try simp only [Act.put, List.setIfInBounds_toArray, List.set_cons_zero, List.set_cons_succ]
                      refine anyH_take1 (i := 6) (v := ?_) rfl (by kernel_rfl) (fun _ _ _ _ _ h => h) (unhide HS5) (Or.inl ⟨by rfl, ?_⟩) ?_
                      rotate_left 1
                      · intro w' hSw
                        try dsimp only at hSw
                        obtain ⟨z0, z1, z2, z3, z4⟩ := hSw
                        go_simp
                        try with_reducible rfl
                      try simp only [Act.put, List.setIfInBounds_toArray, List.set_cons_zero, List.set_cons_succ]
                      refine anyH_take1 (i := 7) (v := ?_) rfl (by kernel_rfl) (fun _ _ _ _ _ h => h) (unhide HS5) (Or.inl ⟨by rfl, ?_⟩) ?_
                      rotate_left 1
                      · intro w' hSw
                        try dsimp only at hSw
                        obtain ⟨z0, z1, z2, z3, z4⟩ := hSw
                        go_simp
                        try with_reducible rfl
                      try simp only [Act.put, List.setIfInBounds_toArray, List.set_cons_zero, List.set_cons_succ]
                      refine anyH_take1 (i := 8) (v := ?_) rfl (by kernel_rfl) (fun _ _ _ _ _ h => h) (unhide HS5) (Or.inl ⟨by rfl, ?_⟩) ?_
                      rotate_left 1
                      · intro w' hSw
                        try dsimp only at hSw
                        obtain ⟨z0, z1, z2, z3, z4⟩ := hSw
                        go_simp
                        try with_reducible rfl
                      try simp only [Act.put, List.setIfInBounds_toArray, List.set_cons_zero, List.set_cons_succ]
                      refine anyH_take1 (i := 9) (v := ?_) rfl (by kernel_rfl) (fun _ _ _ _ _ h => h) (unhide HS5) (Or.inl ⟨by rfl, ?_⟩) ?_
                      rotate_left 1
                      · intro w' hSw
                        try dsimp only at hSw
                        obtain ⟨z0, z1, z2, z3, z4⟩ := hSw
                        go_simp
                        try with_reducible rfl
                      try simp only [Act.put, List.setIfInBounds_toArray, List.set_cons_zero, List.set_cons_succ]
                      refine anyH_take1 (i := 10) (v := ?_) rfl (by kernel_rfl) (fun _ _ _ _ _ h => h) (unhide HS5) (Or.inl ⟨by rfl, ?_⟩) ?_
                      rotate_left 1
                      · intro w' hSw
                        try dsimp only at hSw
                        obtain ⟨z0, z1, z2, z3, z4⟩ := hSw
                        go_simp
                        try with_reducible rfl
                      try simp only [Act.put, List.setIfInBounds_toArray, List.set_cons_zero, List.set_cons_succ]
                      refine anyH_take1 (i := 11) (v := ?_) rfl (by kernel_rfl) (fun _ _ _ _ _ h => h) (unhide HS5) (Or.inl ⟨by rfl, ?_⟩) ?_
                      rotate_left 1
                      · intro w' hSw
                        try dsimp only at hSw
                        obtain ⟨z0, z1, z2, z3, z4⟩ := hSw
                        go_simp
                        try with_reducible rfl
                      try simp only [Act.put, List.setIfInBounds_toArray, List.set_cons_zero, List.set_cons_succ]
                      refine anyH_take1 (i := 12) (v := ?_) rfl (by kernel_rfl) (fun _ _ _ _ _ h => h) (unhide HS5) (Or.inl ⟨by rfl, ?_⟩) ?_
                      rotate_left 1
                      · intro w' hSw
                        try dsimp only at hSw
                        obtain ⟨z0, z1, z2, z3, z4⟩ := hSw
                        go_simp
                        try with_reducible rfl
                      try simp only [Act.put, List.setIfInBounds_toArray, List.set_cons_zero, List.set_cons_succ]
                      refine anyH_step1 (i := 13) rfl (by kernel_rfl) (fun K hK => ?_)
                      go_simp
                      refine (specHidden p wd ht rs ao m cap C w5 ((unhide HR).grown (grown_trans (unhide HGW) (grown_trans (grown_drew (World.grownBy.refl wr none)) (unhide HG5)))) (unhide HG) i hlt (kr : Int) (kc : Int) true HPK).mono ?_
                      rintro e w6 ⟨rfl, g6⟩
                      have HS6 := hide (unhide KEEP _ (grown_trans (unhide HG5) g6))
                      have HG6 := hide (grown_trans (unhide HG5) g6)
                      clear g6
                      go_simp
                      refine hK.out _ _ (unhide HS6) ?_
                      clear hK K
                      try simp only [Act.put, List.setIfInBounds_toArray, List.set_cons_zero, List.set_cons_succ]
                      refine anyH_take1 (i := 14) (v := ?_) rfl (by kernel_rfl) (fun _ _ _ _ _ h => h) (unhide HS6) (Or.inl ⟨by rfl, ?_⟩) ?_
                      rotate_left 1
                      · intro w' hSw
                        try dsimp only at hSw
                        obtain ⟨z0, z1, z2, z3, z4⟩ := hSw
                        go_simp
                        try with_reducible rfl
                      try simp only [Act.put, List.setIfInBounds_toArray, List.set_cons_zero, List.set_cons_succ]
                      refine anyH_take1 (i := 15) (v := ?_) rfl (by kernel_rfl) (fun _ _ _ _ _ h => h) (unhide HS6) (Or.inl ⟨by rfl, ?_⟩) ?_
                      rotate_left 1
                      · intro w' hSw
                        try dsimp only at hSw
                        obtain ⟨z0, z1, z2, z3, z4⟩ := hSw
                        go_simp
                        try with_reducible rfl
                      try simp only [Act.put, List.setIfInBounds_toArray, List.set_cons_zero, List.set_cons_succ]
                      refine anyH_step1 (i := 16) rfl (by kernel_rfl) (fun K hK => ?_)
                      go_simp
                      refine (specZero zo zn zcap zs w6 ((unhide HZD).grown (unhide HG6)) hzl true HZB).mono ?_
                      rintro e w7 ⟨rfl, rfl⟩
                      go_simp
                      refine hK.out _ _ (unhide HS6) ?_
                      clear hK K
                      try simp only [Act.put, List.setIfInBounds_toArray, List.set_cons_zero, List.set_cons_succ]
                      refine anyH_take1 (i := 17) (v := ?_) rfl (by kernel_rfl) (fun _ _ _ _ _ h => h) (unhide HS6) (Or.inl ⟨by rfl, ?_⟩) ?_
                      rotate_left 1
                      · intro w' hSw
                        try dsimp only at hSw
                        obtain ⟨z0, z1, z2, z3, z4⟩ := hSw
                        go_simp
                        try with_reducible rfl
                      try simp only [Act.put, List.setIfInBounds_toArray, List.set_cons_zero, List.set_cons_succ]
                      refine anyH_take1 (i := 18) (v := ?_) rfl (by kernel_rfl) (fun _ _ _ _ _ h => h) (unhide HS6) (Or.inl ⟨by rfl, ?_⟩) ?_
                      rotate_left 1
                      · intro w' hSw
                        try dsimp only at hSw
                        obtain ⟨z0, z1, z2, z3, z4⟩ := hSw
                        go_simp
                        try with_reducible rfl
                      try simp only [Act.put, List.setIfInBounds_toArray, List.set_cons_zero, List.set_cons_succ]
                      refine anyH_take1 (i := 19) (v := ?_) rfl (by kernel_rfl) (fun _ _ _ _ _ h => h) (unhide HS6) (Or.inl ⟨by rfl, ?_⟩) ?_
                      rotate_left 1
                      · intro w' hSw
                        try dsimp only at hSw
                        obtain ⟨z0, z1, z2, z3, z4⟩ := hSw
                        go_simp
                        try with_reducible rfl
                      try simp only [Act.put, List.setIfInBounds_toArray, List.set_cons_zero, List.set_cons_succ]
                      refine wpAnyH_done (by kernel_rfl) (NoPanic.normal ?_) _
                      have HFIN := hide (grown_trans (unhide hgw) (grown_trans (grown_drew (World.grownBy.refl wr none)) (unhide HG6)))
                      clear HGW hgw
                      go_wp2
                      go_roundw
                      case rel => exact ⟨k + 1, by omega, by go_num, HA3, HFIN⟩
                      case measure => simp [intOf]; omega
              · obtain rfl : k = pl := by omega
                have HA2 : Hid ((List.range (i + 1)).all f = true) := by
                  unfold Hid
                  rw [unhide HAL, unhide ha, unhide HFI, unhide hka]; simp
                clear hka d0 p0
                go_wp2
                go_roundw
                case rel => exact ⟨i + 1, by omega, by go_num, HA2, hgw⟩
                case measure => simp [intOf]; omega
          · have hne2 : ((pl : Int) != (bn : Int)) = true := by simp; omega
            have e : b = false := by
              rw [unhide HBE2]
              refine unhide HNO ?_
              rw [unhide HFI, decide_eq_false hpn]; rfl
            subst e
            go_wp2
            go_ret
            exact ⟨rfl, unhide HGB⟩
        · obtain rfl : i = m := by omega
          have e : b = true := by rw [unhide HBE2]; exact unhide ha
          subst e
          go_wp2
          go_ret
          exact ⟨rfl, unhide HGW⟩
    · have hne : ((m : Int) != (n : Int)) = true := by simp; omega
      have e : b = false := by rw [unhide HBE, decide_eq_false hmn]; rfl
      subst e
      go_enter Try.func14, Try.ntmps14
      go_wp2_with fail
      rw [unhide HW]
      refine (unhide HFO).mono ?_
      rintro e w1 ⟨rfl, g1⟩
      have HG1 := hide (grown_trans (unhide HG0) g1)
      have c4 := (frameCells' (grown_atT g1 (unhide B0) (by simp))).2.2.2.2
      have d0 : w1.cell? ⟨w.heap.size + 1, 0, none⟩ = some (.slice xo m xc) := by rw [cell_of_row w1 _ 0 _ _ (0, 0) (grown_atT g1 (unhide B1) (by simp))]; rfl
      clear g1 HFO
      go_wp2
      go_ret
      exact ⟨rfl, unhide HG1⟩

end Go.Proofs.Ytibgldanmhckiaa

namespace Go.Proofs.Ytibgldanmhckiaa
open Go.RowKit

theorem info_i9 : (Try.prog.info? 3).map (fun i => (i.zero, i.size, i.bytes)) = some (some (.int .i64 0), 1, 8) := by kernel_rfl

theorem rd_newsI {w : World} {x : Addr} {m : Nat} {zs : List Int} (h : Rd .i64 w (some x) m zs) : ∀ j u, (zs.map (Value.int .i64))[j]? = some u → w.cell? (x.add j) = some u := by
  intro j u hj
  have hl := h.1
  have hjl : j < m := by
    have := (List.getElem?_eq_some_iff.1 hj).1
    simp at this; omega
  obtain ⟨b, off, e, hc⟩ := h.2 j hjl
  simp only [Option.some.injEq] at e
  subst e
  rw [Addr.add_lit, hc]
  rw [List.getElem?_map] at hj
  have hj2 : j < zs.length := by omega
  simp [hj2] at hj ⊢
  exact hj

theorem append_rdI {w : World} {ops : Array Oper} {rest : List Oper} {o : Oper} {a : Act} {Q : Exit → Act → World → Prop} (hgd : o.guard = none) (s x : Operand)
    (ho : o.op = .call { callee := .builtin .append, args := #[s, x], argTypes := #[32, 32] })
    (base : Nat) (v : Value) (xs : List Int) (hs : a.eval s = v) (hown : w.ownsRow base 3 1 v xs.length (xs.map (Value.int .i64)))
    (ad : Addr) (m c : Nat) (zs : List Int) (hx : a.eval x = .slice (some ad) m c) (hr : Rd .i64 w (some ad) m zs)
    (hb : xs.length + m ≤ 1000000) (hbase : base ≤ w.heap.size) (R : List Int) (hR : xs ++ zs = R)
    (h : ∀ v' w', w'.ownsRow base 3 1 v' R.length (R.map (Value.int .i64)) → w.grownBy w' v.ownBlock → wpList Try.prog ops Q rest (a.put o.dst v') w') :
    wpList Try.prog ops Q (o :: rest) a w := by
  subst hR
  obtain ⟨i0, hi, hz0, hz1, hz2⟩ := info_parts info_i9
  refine wpList_append_own _ hgd s x 32 ho base 3 i0 (.int .i64 0) 1 8 Try.underlying32 hi hz0 hz1 hz2 rfl (by decide) v xs.length _ hs hown ad m c (zs.map (Value.int .i64)) hx (by simp [hr.1]) (rd_newsI hr) ?_ (by unfold maxLen; omega) (by omega) hbase (fun v' w' h1 h2 _ => h v' w' (by rw [List.map_append, List.length_append, hr.1]; exact h1) h2)
  intro u hu
  obtain ⟨y, _, rfl⟩ := List.mem_map.1 hu
  rfl

end Go.Proofs.Ytibgldanmhckiaa

namespace Go.Proofs.Ytibgldanmhckiaa
open Go.RowKit

theorem ok_plane {wd ht : Int} {n : Nat} {C : Nat → Nat → Int} {X : List (List (List Int))} (h : coefsOkB wd ht n C X = true) (c : Nat) (hc : c < n) : ∃ hX : c < X.length, X[c].length = bwG wd n C c * bhG ht n C c ∧ ∀ k (hk : k < X[c].length), blockB (hidB (bwG wd n C c) (nwG wd n C c) (nhG ht n C c) k) X[c][k] = true := by
  unfold coefsOkB at h
  rw [Bool.and_eq_true] at h
  have hl : X.length = n := of_decide_eq_true h.1
  have hX : c < X.length := by omega
  have hp := List.all_eq_true.1 h.2 c (List.mem_range.2 hX)
  have e : X.getD c [] = X[c] := by simp [hX]
  rw [e] at hp
  unfold planeB at hp
  rw [Bool.and_eq_true] at hp
  refine ⟨hX, of_decide_eq_true hp.1, fun k hk => ?_⟩
  have hb := List.all_eq_true.1 hp.2 k (List.mem_range.2 hk)
  have e2 : X[c].getD k [] = X[c][k] := by simp [hk]
  rw [e2] at hb
  exact hb
theorem lev_len {lo hi : Int} {zs : List Int} (h : levB lo hi zs = true) : zs.length = 64 := by
  unfold levB at h
  rw [Bool.and_eq_true] at h
  exact of_decide_eq_true h.1
theorem block_len {hid : Bool} {zs : List Int} (h : blockB hid zs = true) : zs.length = 64 := by
  unfold blockB at h
  rw [Bool.and_eq_true] at h
  exact lev_len h.1
theorem place_in {wd ht : Int} {n : Nat} {C : Nat → Nat → Int} {co ro cl : Int} {k : Nat} (h : placeO wd ht n C co ro cl = some k) : ∃ c r l : Nat, co = (c : Int) ∧ ro = (r : Int) ∧ cl = (l : Int) ∧ c < n ∧ r < bhG ht n C c ∧ l < bwG wd n C c ∧ k = r * bwG wd n C c + l ∧ k < bwG wd n C c * bhG ht n C c := by
  unfold placeO at h
  split at h
  · rename_i h1
    obtain ⟨c, rfl⟩ := Int.eq_ofNat_of_zero_le h1.1
    rw [Int.toNat_natCast] at h
    split at h
    · rename_i h2
      obtain ⟨r, rfl⟩ := Int.eq_ofNat_of_zero_le h2.1.1
      obtain ⟨l, rfl⟩ := Int.eq_ofNat_of_zero_le h2.2.1
      rw [Int.toNat_natCast, Int.toNat_natCast] at h
      have hk : r * bwG wd n C c + l = k := Option.some.inj h
      have hr : r < bhG ht n C c := by omega
      have hl : l < bwG wd n C c := by omega
      refine ⟨c, r, l, rfl, rfl, rfl, by omega, hr, hl, hk.symm, ?_⟩
      have hm : (r + 1) * bwG wd n C c ≤ bhG ht n C c * bwG wd n C c := Nat.mul_le_mul_right _ hr
      rw [Nat.add_mul, Nat.one_mul] at hm
      rw [Nat.mul_comm (bwG wd n C c)]
      omega
    · cases h
  · cases h

set_option maxRecDepth 20000 in
set_option maxHeartbeats 3200000 in
theorem specBlockAt (p wd ht rs : Int) (ao : Option Addr) (n cap : Nat) (C : Nat → Nat → Int) (v : Value) (X : List (List (List Int))) (co ro cl : Int) (w : World) (hr : RdC w ao n C) (hx : Rd3 w v X) (hs : szCo X ≤ 1048576) (fb : Bool) (HFB : Hid (frameB p wd ht rs n C = fb)) (L : List Int) (HL : Hid (blockAtF fb wd ht n C X co ro cl = L)) :
    Calls Try.prog 29 #[.agg #[.int .i64 p, .int .i64 wd, .int .i64 ht, .int .i64 rs, .slice ao n cap], .agg #[v], .agg #[.int .i64 co, .int .i64 ro, .int .i64 cl]] w fun e w' => ∃ so sc, e = .returned (.slice so L.length sc) ∧ w'.ownsRow w.heap.size 3 1 (.slice so L.length sc) L.length (L.map (Value.int .i64)) ∧ w.grownBy w' none := by
  obtain ⟨xo, xc, rfl, hel⟩ := id hx
  obtain ⟨m, HM⟩ : ∃ m, Hid (X.length = m) := ⟨_, rfl⟩
  have HX := hide hx
  rw [unhide HM] at HX ⊢
  obtain ⟨W3, hW3⟩ : ∃ W3, (((w.alloc (.cells #[.int .i64 p, .int .i64 wd, .int .i64 ht, .int .i64 rs, .slice ao n cap] 26)).alloc (.cells #[.slice xo m xc] 29)).alloc (.cells #[.int .i64 co, .int .i64 ro, .int .i64 cl] 31)) = W3 := ⟨_, rfl⟩
  have G0 : w.grownBy W3 none := by rw [← hW3]; exact grown_alloc (grown_alloc (grown_alloc (World.grownBy.refl _ _) _) _) _
  have B0 : Hid (W3.heap[w.heap.size]? = some (.cells #[.int .i64 p, .int .i64 wd, .int .i64 ht, .int .i64 rs, .slice ao n cap] 26 (0, 0))) := by
    unfold Hid
    rw [← hW3, Below.heap_alloc _ _ _ (by simp; omega), Below.heap_alloc _ _ _ (by simp)]
    exact heap_alloc_new w _
  have B1 : Hid (W3.heap[w.heap.size + 1]? = some (.cells #[.slice xo m xc] 29 (0, 0))) := by
    unfold Hid
    rw [← hW3, Below.heap_alloc _ _ _ (by simp)]
    have := heap_alloc_new (w.alloc (.cells #[.int .i64 p, .int .i64 wd, .int .i64 ht, .int .i64 rs, .slice ao n cap] 26)) (.cells #[.slice xo m xc] 29)
    simpa using this
  have B2 : Hid (W3.heap[w.heap.size + 1 + 1]? = some (.cells #[.int .i64 co, .int .i64 ro, .int .i64 cl] 31 (0, 0))) := by
    unfold Hid
    rw [← hW3]
    have := heap_alloc_new ((w.alloc (.cells #[.int .i64 p, .int .i64 wd, .int .i64 ht, .int .i64 rs, .slice ao n cap] 26)).alloc (.cells #[.slice xo m xc] 29)) (.cells #[.int .i64 co, .int .i64 ro, .int .i64 cl] 31)
    simpa using this
  obtain ⟨ok, HOK⟩ : ∃ ok, Hid (coefsOkF fb wd ht n C X = ok) := ⟨_, rfl⟩
  have HCO := hide (specCoefsOk p wd ht rs ao n cap C _ X W3 (hr.grown G0) (st3 _ _ _ _ (unhide HX) G0) hs fb ok HFB HOK)
  have HW := hide hW3
  have HG0 := hide G0
  have HR := hide hr
  have HEL := hide hel
  have HNIL : Hid (L = [] → ∀ wz : World, w.grownBy wz none → (wz.alloc (.cells #[] 3)).ownsRow w.heap.size 3 1 (.slice (some ⟨wz.heap.size, 0, none⟩) L.length 0) L.length (L.map (Value.int .i64)) ∧ w.grownBy (wz.alloc (.cells #[] 3)) none) := fun e wz g => by
    subst e
    exact ⟨own_base (World.ownsRow_lit wz #[] 0 (Nat.le_refl _) (by unfold maxLen; omega) rfl) g.size, grown_alloc g _⟩
  clear hW3 G0 hr hx hel hs
  cases ok with
  | false =>
    have e : L = [] := by rw [← unhide HL, blockAtF, unhide HOK]; rfl
    subst e
    go_enter Try.func29, Try.ntmps29
    go_wp2_with fail
    rw [unhide HW]
    refine (unhide HCO).mono ?_
    rintro e w1 ⟨rfl, g1⟩
    have HF := hide (unhide HNIL (by trivial) w1 (grown_trans (unhide HG0) g1))
    clear g1 HCO HNIL
    go_wp2
    go_ret
    exact ⟨_, _, rfl, unhide HF⟩
  | true =>
    have hfb : fb = true := by
      cases fb with
      | true => rfl
      | false => have := unhide HOK; cases this
    subst hfb
    have hg := geo_of (unhide HFB)
    have HG := hide hg
    have hokb : coefsOkB wd ht n C X = true := unhide HOK
    have HKB := hide hokb
    clear hg hokb
    cases hpl : placeO wd ht n C co ro cl with
    | none =>
      have e : L = [] := by rw [← unhide HL, blockAtF, unhide HOK, hpl]; rfl
      subst e
      have HPL : Hid ((match placeO wd ht n C co ro cl with | some k => ((k : Int), true) | none => (0, false)) = (0, false)) := by unfold Hid; rw [hpl]
      clear hpl
      go_enter Try.func29, Try.ntmps29
      go_wp2_with fail
      rw [unhide HW]
      refine (unhide HCO).mono ?_
      rintro e w1 ⟨rfl, g1⟩
      have HG1 := hide (grown_trans (unhide HG0) g1)
      obtain ⟨c0, c1, c2, c3, c4⟩ := frameCells' (grown_atT g1 (unhide B0) (by simp))
      have hb2 := grown_atT g1 (unhide B2) (by simp)
      have d0 : w1.cell? ⟨w.heap.size + 1 + 1, 0, none⟩ = some (.int .i64 co) := by rw [cell_of_row w1 _ 0 _ _ (0, 0) hb2]; rfl
      have d1 : w1.cell? ⟨w.heap.size + 1 + 1, 1, none⟩ = some (.int .i64 ro) := by rw [cell_of_row w1 _ 1 _ _ (0, 0) hb2]; rfl
      have d2 : w1.cell? ⟨w.heap.size + 1 + 1, 2, none⟩ = some (.int .i64 cl) := by rw [cell_of_row w1 _ 2 _ _ (0, 0) hb2]; rfl
      clear g1 HCO hb2
      go_wp2_with fail
      refine (specPlace p wd ht rs ao n cap C w1 ((unhide HR).grown (unhide HG1)) (unhide HG) co ro cl 0 false HPL).mono ?_
      rintro e w2 ⟨rfl, g2⟩
      have HF := hide (unhide HNIL (by trivial) w2 (grown_trans (unhide HG1) g2))
      clear g2 c0 c1 c2 c3 c4 d0 d1 d2 HNIL
      go_wp2
      go_ret
      exact ⟨_, _, rfl, unhide HF⟩
    | some k =>
      have HPL : Hid ((match placeO wd ht n C co ro cl with | some k => ((k : Int), true) | none => (0, false)) = ((k : Int), true)) := by unfold Hid; rw [hpl]
      have hLE : L = (X.getD co.toNat []).getD k [] := by rw [← unhide HL, blockAtF, unhide HOK, hpl]; rfl
      obtain ⟨c, r, l, rfl, rfl, rfl, hcn, -, -, -, hkb⟩ := place_in hpl
      obtain ⟨hX, hXl, hXb⟩ := ok_plane (unhide HKB) c hcn
      have hkX : k < X[c].length := by omega
      have h64 := block_len (hXb k hkX)
      have hLE2 : L = X[c][k] := by rw [hLE, Int.toNat_natCast]; simp [hX, hkX]
      obtain ⟨pb, poff, pu, rfl, pc0, pq⟩ := unhide HEL c hX
      obtain ⟨po, pcap, rfl, pel⟩ := pq
      obtain ⟨kb, koff, ku, rfl, kc0, kq⟩ := pel k hkX
      obtain ⟨zo, zcap, rfl, zr⟩ := kq
      generalize X[c][k] = zs at *
      subst hLE2
      have hcm : (c : Int) < (m : Int) := by have := unhide HM; omega
      obtain ⟨pl, HPLN⟩ : ∃ pl, Hid (X[c].length = pl) := ⟨_, hide rfl⟩
      rw [unhide HPLN] at pc0 hkX
      have hkI : (k : Int) < (pl : Int) := by omega
      obtain ⟨zb, zoff, hzo, _⟩ := zr.2 0 (by omega)
      subst hzo
      have HZR := hide zr
      have H64 := hide h64
      rw [h64] at kc0
      clear hpl hLE hXl hXb pel zr h64 hkb
      go_enter Try.func29, Try.ntmps29
      go_wp2_with fail
      rw [unhide HW]
      refine (unhide HCO).mono ?_
      rintro e w1 ⟨rfl, g1⟩
      have HG1 := hide (grown_trans (unhide HG0) g1)
      have HB1 := hide (grown_atT g1 (unhide B1) (by simp))
      have HB2 := hide (grown_atT g1 (unhide B2) (by simp))
      obtain ⟨c0, c1, c2, c3, c4⟩ := frameCells' (grown_atT g1 (unhide B0) (by simp))
      have d0 : w1.cell? ⟨w.heap.size + 1 + 1, 0, none⟩ = some (.int .i64 (c : Int)) := by rw [cell_of_row w1 _ 0 _ _ (0, 0) (unhide HB2)]; rfl
      have d1 : w1.cell? ⟨w.heap.size + 1 + 1, 1, none⟩ = some (.int .i64 (r : Int)) := by rw [cell_of_row w1 _ 1 _ _ (0, 0) (unhide HB2)]; rfl
      have d2 : w1.cell? ⟨w.heap.size + 1 + 1, 2, none⟩ = some (.int .i64 (l : Int)) := by rw [cell_of_row w1 _ 2 _ _ (0, 0) (unhide HB2)]; rfl
      clear g1 HCO
      go_wp2_with fail
      refine (specPlace p wd ht rs ao n cap C w1 ((unhide HR).grown (unhide HG1)) (unhide HG) c r l k true HPL).mono ?_
      rintro e w2 ⟨rfl, g2⟩
      have HG2 := hide (grown_trans (unhide HG1) g2)
      have hb1 := grown_atT g2 (unhide HB1) (by simp)
      have hb2 := grown_atT g2 (unhide HB2) (by simp)
      clear c0 c1 c2 c3 c4 d0 d1 d2
      obtain ⟨W4, HW4⟩ : ∃ W4, Hid (w2.alloc (.cells #[] 3) = W4) := ⟨_, rfl⟩
      have g4 : w2.grownBy W4 none := by rw [← unhide HW4]; exact World.grownBy_alloc _ _ _
      have HG4 := hide (grown_trans (unhide HG2) g4)
      have HO4 : Hid (W4.ownsRow w.heap.size 3 1 (.slice (some ⟨w2.heap.size, 0, none⟩) 0 0) ([] : List Int).length (([] : List Int).map (Value.int .i64))) := by
        unfold Hid
        rw [← unhide HW4]
        exact own_base (World.ownsRow_lit w2 #[] 0 (Nat.le_refl _) (by unfold maxLen; omega) rfl) (unhide HG2).size
      have a0 : W4.cell? ⟨w.heap.size + 1, 0, none⟩ = some (.slice (some ⟨pb, poff, none⟩) m xc) := by rw [cell_of_row W4 _ 0 _ _ (0, 0) (grown_atT g4 hb1 (by simp))]; rfl
      have a1 : W4.cell? ⟨w.heap.size + 1 + 1, 0, none⟩ = some (.int .i64 (c : Int)) := by rw [cell_of_row W4 _ 0 _ _ (0, 0) (grown_atT g4 hb2 (by simp))]; rfl
      have a2 := (unhide HG4).cell pc0 (by simp)
      have a3 := (unhide HG4).cell kc0 (by simp)
      have HZ4 := hide ((unhide HZR).grown (unhide HG4))
      have e0 : (w2.alloc (.cells #[] 3)).cell? ⟨w.heap.size + 1, 0, none⟩ = some (.slice (some ⟨pb, poff, none⟩) m xc) := by rw [unhide HW4]; exact a0
      have e1 : (w2.alloc (.cells #[] 3)).cell? ⟨w.heap.size + 1 + 1, 0, none⟩ = some (.int .i64 (c : Int)) := by rw [unhide HW4]; exact a1
      have e2 := a2
      have e3 := a3
      rw [← unhide HW4] at e2 e3
      have hL64 : ([] : List Int).length + L.length ≤ 1000000 := by have := unhide H64; simp; omega
      have HL6 := hide hL64
      have HSZ4 : Hid (w.heap.size ≤ W4.heap.size) := (unhide HG4).size
      rw [unhide H64] at HZ4
      clear a0 a1 a2 a3 hL64 g2 g4 hb1 hb2 pc0 kc0 HZR
      go_wp2_with (at_builtin; rw [unhide HW4]; refine append_rdI rfl _ _ rfl w.heap.size (.slice (some ⟨w2.heap.size, 0, none⟩) 0 0) [] rfl (unhide HO4) ⟨zb, zoff, none⟩ 64 zcap L rfl (unhide HZ4) (by simp) (unhide HSZ4) L (List.nil_append L) ?_)
      intro v5 w5 o5 g5
      obtain ⟨so5, sc5, rfl⟩ := own_form o5
      have HO5 := hide o5
      have HG5 : Hid (w.grownBy w5 none) := grown_new (unhide HG4) g5 (fun g e => ((unhide HO4).lt g e).1)
      clear o5 g5 HO4 HG4 e0 e1 e2 e3
      go_wp2
      go_ret
      exact ⟨so5, sc5, rfl, unhide HO5, unhide HG5⟩

end Go.Proofs.Ytibgldanmhckiaa

namespace Go.Proofs.Ytibgldanmhckiaa
open Go.RowKit

theorem sumN_le {α : Type} (f : α → Nat) (b : Nat) : ∀ L : List α, (∀ a ∈ L, f a ≤ b) → sumN (L.map f) ≤ L.length * b
  | [], _ => by simp [sumN]
  | a :: r, h => by
    have h1 := h a (by simp)
    have h2 := sumN_le f b r (fun x hx => h x (by simp [hx]))
    simp only [List.map_cons, sumN, List.length_cons, Nat.add_mul, Nat.one_mul]
    omega
theorem szR_le {α : Type} (sz : α → Nat) (b : Nat) (L : List α) (h : ∀ a ∈ L, sz a ≤ b) : szR sz L ≤ L.length * (b + 1) := by
  have := sumN_le sz b L h
  unfold szR
  rw [Nat.mul_add, Nat.mul_one]
  omega
theorem sumN_mono {α : Type} {f g : α → Nat} (h : ∀ a, f a ≤ g a) : ∀ L : List α, sumN (L.map f) ≤ sumN (L.map g)
  | [] => Nat.le_refl _
  | a :: r => by simp only [List.map_cons, sumN]; have := h a; have := sumN_mono h r; omega
theorem cnt_sz (X : List (List (List Int))) : cntCo X ≤ szCo X := by
  have h1 : ∀ P : List (List Int), cntR lenI P ≤ szR lenI P := fun P => by unfold cntR szR; omega
  have h2 := sumN_mono h1 X
  unfold cntCo szCo
  unfold cntR at h2 ⊢
  unfold szR at h2 ⊢
  omega
/-- Few planes of few blocks of 64. -/
def Shape (X : List (List (List Int))) : Prop := X.length ≤ 4 ∧ ∀ P ∈ X, P.length ≤ 1089 ∧ ∀ B ∈ P, B.length ≤ 64
theorem shape_sz {X : List (List (List Int))} (h : Shape X) : szCo X ≤ 283144 := by
  have h1 : ∀ P ∈ X, szR lenI P ≤ 70785 := fun P hP => by
    have h2 := szR_le lenI 64 P (fun B hB => (h.2 P hP).2 B hB)
    have h3 := (h.2 P hP).1
    omega
  have h4 := szR_le (szR lenI) 70785 X h1
  have h5 := h.1
  unfold szCo
  omega
theorem up_33 {n d c : Int} (hn : 1 ≤ n ∧ n ≤ 256) (hd : 1 ≤ d ∧ d ≤ 4) (hc : 1 ≤ c ∧ c ≤ d) : upI n (8 * d) * c ≤ 33 := by
  have h0 := up_le32 hn hd
  have h1 : upI n (8 * d) * c ≤ upI n (8 * d) * d := Int.mul_le_mul_of_nonneg_left hc.2 (by omega)
  have h2 : upI n (8 * d) * d ≤ 33 := by
    unfold upI
    rw [Int.tdiv_eq_ediv_of_nonneg (by omega)]
    have : d = 1 ∨ d = 2 ∨ d = 3 ∨ d = 4 := by omega
    rcases this with rfl | rfl | rfl | rfl <;> omega
  omega
theorem dims33 {wd ht : Int} {n : Nat} {C : Nat → Nat → Int} (hg : Geo wd ht n C (mostA 1 C 1 n) (mostA 1 C 2 n)) (c : Nat) (hc : c < n) : bwG wd n C c * bhG ht n C c ≤ 1089 := by
  have h1 := up_33 hg.wd hg.hb ⟨(hg.ch c hc).1, mostA_at n c hc⟩
  have h2 := up_33 hg.ht hg.vb ⟨(hg.cv c hc).1, mostA_at n c hc⟩
  have d := dims_of hg c hc
  have e1 := d.bw
  have e2 := d.bh
  have h3 : bwG wd n C c ≤ 33 := by omega
  have h4 : bhG ht n C c ≤ 33 := by omega
  exact Nat.le_trans (Nat.mul_le_mul h3 h4) (by omega)
theorem shape_empty {p wd ht rs : Int} {n : Nat} {C : Nat → Nat → Int} {b : Bool} (hb : frameB p wd ht rs n C = b) : Shape (emptyF b wd ht n C) := by
  cases b with
  | false => exact ⟨by simp [emptyF], fun P hP => by simp [emptyF] at hP⟩
  | true =>
    have hg := geo_of hb
    have e : emptyF true wd ht n C = emptyG n (fun c => bwG wd n C c * bhG ht n C c) := rfl
    rw [e]
    refine ⟨by unfold emptyG; simp; exact hg.n4, fun P hP => ?_⟩
    unfold emptyG at hP
    obtain ⟨c, hc, rfl⟩ := List.mem_map.1 hP
    have hc' : c < n := by simpa using hc
    refine ⟨by simp; exact dims33 hg c hc', fun B hB => ?_⟩
    have := (List.mem_replicate.1 hB).2
    subst this
    unfold noughts
    simp
theorem shape_ok {p wd ht rs : Int} {n : Nat} {C : Nat → Nat → Int} {X : List (List (List Int))} (hb : frameB p wd ht rs n C = true) (h : coefsOkB wd ht n C X = true) : Shape X := by
  have hg := geo_of hb
  have h1 := h
  unfold coefsOkB at h1
  rw [Bool.and_eq_true] at h1
  have h2 : X.length = n := of_decide_eq_true h1.1
  have hn4 := hg.n4
  refine ⟨by omega, fun P hP => ?_⟩
  obtain ⟨c, hc, rfl⟩ := List.mem_iff_getElem.1 hP
  obtain ⟨_, h3, h4⟩ := ok_plane h c (by omega)
  refine ⟨by rw [h3]; exact dims33 hg c (by omega), fun B hB => ?_⟩
  obtain ⟨k, hk, rfl⟩ := List.mem_iff_getElem.1 hB
  rw [block_len (h4 k hk)]
  exact Nat.le_refl _
theorem shape_with {p wd ht rs : Int} {n : Nat} {C : Nat → Nat → Int} {b : Bool} (hb : frameB p wd ht rs n C = b) (X : List (List (List Int))) (co ro cl : Int) (bl : List Int) : Shape (withBlockF b wd ht n C X co ro cl bl) := by
  have hnil : Shape [] := ⟨by simp, fun P hP => by simp at hP⟩
  unfold withBlockF
  split
  · rename_i h
    rw [Bool.and_eq_true] at h
    obtain ⟨h1, h2⟩ := h
    unfold coefsOkF at h1
    rw [Bool.and_eq_true] at h1
    obtain ⟨hb1, h1⟩ := h1
    subst hb1
    have hs := shape_ok hb h1
    have hl := lev_len h2
    split
    · rename_i k hpl
      split
      · exact hnil
      · obtain ⟨c, r, l, rfl, rfl, rfl, hcn, -, -, -, -⟩ := place_in hpl
        obtain ⟨hX, _, _⟩ := ok_plane h1 c hcn
        have e : X.getD (c : Int).toNat [] = X[c] := by simp [hX]
        rw [e]
        refine ⟨by simpa using hs.1, fun P hP => ?_⟩
        rcases List.mem_or_eq_of_mem_set hP with hP | rfl
        · exact hs.2 P hP
        · have hc := hs.2 X[c] (List.getElem_mem hX)
          refine ⟨by simpa using hc.1, fun B hB => ?_⟩
          rcases List.mem_or_eq_of_mem_set hB with hB | rfl
          · exact hc.2 B hB
          · omega
    · exact hnil
  · exact hnil

def ImplEmpty : Prop := ∀ (p wd ht rs : Int) (ao : Option Addr) (n cap : Nat) (C : Nat → Nat → Int) (w : World), RdC w ao n C → n ≤ 4194304 → ∀ (b : Bool), Hid (frameB p wd ht rs n C = b) → ∀ (X : List (List (List Int))), Hid (emptyF b wd ht n C = X) →
    Calls Try.prog 18 #[.agg #[.int .i64 p, .int .i64 wd, .int .i64 ht, .int .i64 rs, .slice ao n cap]] w fun e w' => ∃ u F, e = .returned u ∧ OwCo w' u X F ∧ F.Nodup ∧ (∀ g ∈ F, w.heap.size ≤ g) ∧ w.grownBy w' none

def ImplCoefsOk : Prop := ∀ (p wd ht rs : Int) (ao : Option Addr) (n cap : Nat) (C : Nat → Nat → Int) (v : Value) (X : List (List (List Int))) (w : World), RdC w ao n C → n ≤ 4194304 → Rd3 w v X → szCo X ≤ 1048576 → ∀ (fb b : Bool), Hid (frameB p wd ht rs n C = fb) → Hid (coefsOkF fb wd ht n C X = b) →
    Calls Try.prog 13 #[.agg #[.int .i64 p, .int .i64 wd, .int .i64 ht, .int .i64 rs, .slice ao n cap], .agg #[v]] w fun e w' => e = .returned (.bool b) ∧ w.grownBy w' none

def ImplBlockAt : Prop := ∀ (p wd ht rs : Int) (ao : Option Addr) (n cap : Nat) (C : Nat → Nat → Int) (v : Value) (X : List (List (List Int))) (co ro cl : Int) (w : World), RdC w ao n C → n ≤ 4194304 → Rd3 w v X → szCo X ≤ 1048576 → ∀ (fb : Bool), Hid (frameB p wd ht rs n C = fb) → ∀ (L : List Int), Hid (blockAtF fb wd ht n C X co ro cl = L) →
    Calls Try.prog 16 #[.agg #[.int .i64 p, .int .i64 wd, .int .i64 ht, .int .i64 rs, .slice ao n cap], .agg #[v], .agg #[.int .i64 co, .int .i64 ro, .int .i64 cl]] w fun e w' => ∃ so sc, e = .returned (.slice so L.length sc) ∧ w'.ownsRow w.heap.size 3 1 (.slice so L.length sc) L.length (L.map (Value.int .i64)) ∧ w.grownBy w' none

def ImplWith : Prop := ∀ (p wd ht rs : Int) (ao : Option Addr) (n cap : Nat) (C : Nat → Nat → Int) (v : Value) (X : List (List (List Int))) (co ro cl : Int) (bo : Option Addr) (bn bc : Nat) (bl : List Int) (w : World), RdC w ao n C → n ≤ 4194304 → Rd3 w v X → szCo X ≤ 1048576 → Rd .i64 w bo bn bl → bn ≤ 1048576 → ∀ (fb : Bool), Hid (frameB p wd ht rs n C = fb) → ∀ (L : List (List (List Int))), Hid (withBlockF fb wd ht n C X co ro cl bl = L) →
    Calls Try.prog 10 #[.agg #[.int .i64 p, .int .i64 wd, .int .i64 ht, .int .i64 rs, .slice ao n cap], .agg #[v], .agg #[.int .i64 co, .int .i64 ro, .int .i64 cl], .slice bo bn bc] w fun e w' => ∃ u F, e = .returned u ∧ OwCo w' u L F ∧ F.Nodup ∧ (∀ g ∈ F, w.heap.size ≤ g) ∧ w.grownBy w' none

end Go.Proofs.Ytibgldanmhckiaa

namespace Go.Proofs.Ytibgldanmhckiaa
open Go.RowKit

theorem own_rdC {w : World} {base : Nat} {e : TypeId} {ao : Option Addr} {n cap : Nat} {C : Nat → Nat → Int} (h : w.ownsRow base e 4 (.slice ao n cap) n (rowsK n 4 (compCells C))) : RdC w ao n C := by
  intro i hi
  obtain ⟨g, rfl, _, _⟩ := own_at h (by omega)
  refine ⟨g, 0, rfl, fun j hj => ?_⟩
  rw [Nat.zero_add, h.cellAt _ (place_lt hi hj), rowsK_get n 4 _ i j hi hj]
  rfl

theorem Try.info70 : (Try.prog.info? 70).map (fun i => (i.zero, i.size, i.bytes)) = some (some (.agg #[.int .i64 0, .int .i64 0, .int .i64 0, .int .i64 0]), 4, 32) := by kernel_rfl

set_option maxHeartbeats 800000 in
theorem toComp (c0 c1 c2 c3 : Int) (w : World) :
    Calls Try.prog 92 #[.agg #[.int .i64 c0, .int .i64 c1, .int .i64 c2, .int .i64 c3]] w fun e w' => e = .returned (.agg #[.int .i64 c0, .int .i64 c1, .int .i64 c2, .int .i64 c3]) ∧ w.grownBy w' none := by
  go_enter Try.func92, Try.ntmps92
  go_wp2
  refine bodyPost_ret (v := .agg #[.int .i64 c0, .int .i64 c1, .int .i64 c2, .int .i64 c3]) (by simp [results, Try.results92, go_sem]) rfl ⟨rfl, ?_⟩
  exact grown_alloc (grown_alloc (grown_alloc (World.grownBy.refl _ _) _) _) _

/-- The copy's cells behind k rounds. -/
def compPart (C : Nat → Nat → Int) (k : Nat) : Nat → Nat → Value := fun i j => if i < k then .int .i64 (C i j) else .int .i64 0
theorem compPart_set (C : Nat → Nat → Int) (n k : Nat) (c0 c1 c2 c3 : Int) (h0 : C k 0 = c0) (h1 : C k 1 = c1) (h2 : C k 2 = c2) (h3 : C k 3 = c3) :
    ((((rowsK n 4 (compPart C k)).set (k * 4) (.int .i64 c0)).set (k * 4 + 1) (.int .i64 c1)).set (k * 4 + 2) (.int .i64 c2)).set (k * 4 + 3) (.int .i64 c3) = rowsK n 4 (compPart C (k + 1)) := by
  have e0 := rowsK_set n 4 (compPart C k) k 0 (.int .i64 c0) (by omega)
  rw [Nat.add_zero] at e0
  rw [e0, rowsK_set _ _ _ k 1 _ (by omega), rowsK_set _ _ _ k 2 _ (by omega), rowsK_set _ _ _ k 3 _ (by omega)]
  apply rowsK_congr
  intro i j _ hj
  have hj4 : j = 0 ∨ j = 1 ∨ j = 2 ∨ j = 3 := by omega
  by_cases e1 : i = k
  · subst e1
    rcases hj4 with rfl | rfl | rfl | rfl <;> simp [compPart, h0, h1, h2, h3]
  · by_cases e2 : i < k
    · rcases hj4 with rfl | rfl | rfl | rfl <;> simp [compPart, e1, e2, show i < k + 1 by omega]
    · rcases hj4 with rfl | rfl | rfl | rfl <;> simp [compPart, e1, e2, show ¬ i < k + 1 by omega]

set_option maxHeartbeats 1600000 in
theorem toCompS (ao : Option Addr) (n cap : Nat) (C : Nat → Nat → Int) (w : World) (hr : RdC w ao n C) (hn : n ≤ 4194304) :
    Calls Try.prog 60 #[.slice ao n cap] w fun e w' => e = .returned (.slice (some ⟨w.heap.size, 0, none⟩) n n) ∧
      w'.ownsRow w.heap.size 70 4 (.slice (some ⟨w.heap.size, 0, none⟩) n n) n (rowsK n 4 (compCells C)) ∧ w.grownBy w' none := by
  obtain ⟨i0, hi, hz0, hz1, hz2⟩ := info_parts Try.info70
  have HR := hide hr
  clear hr
  go_enter Try.func60, Try.ntmps60
  go_wp2_with (at_make; refine wpList_make_full _ rfl _ _ 24 rfl w.heap.size 70 i0 (.agg #[.int .i64 0, .int .i64 0, .int .i64 0, .int .i64 0]) 4 Try.underlying24 hi hz0 hz1 .i64 .i64 _ _ n rfl rfl rfl rfl (by rw [hz2]; omega) (by unfold maxLen; omega) (Nat.le_refl _) ?_)
  intro w1 hown hgrow
  have hown0 : w1.ownsRow w.heap.size 70 4 (.slice (some ⟨w.heap.size, 0, none⟩) n n) n (rowsK n 4 (compPart C 0)) := by
    have e := madeK #[.int .i64 0, .int .i64 0, .int .i64 0, .int .i64 0] n (by decide)
    have e2 : rowsK n 4 (compPart C 0) = (madeCells #[Value.int .i64 0, .int .i64 0, .int .i64 0, .int .i64 0] (n * 4)).toList := by
      rw [show (n * 4) = n * (#[Value.int .i64 0, .int .i64 0, .int .i64 0, .int .i64 0] : Array Value).size from rfl, e]
      apply rowsK_congr
      intro i j _ hj
      have : j = 0 ∨ j = 1 ∨ j = 2 ∨ j = 3 := by have : j < 4 := hj; omega
      rcases this with rfl | rfl | rfl | rfl <;> simp [compPart]
    rw [e2]; exact hown
  clear hown hi hz0 hz1 hz2
  go_wp2
  go_loopw [4] (fun i wr => ∃ k : Nat, k ≤ n ∧ i = .int .i64 k ∧ wr.ownsRow w.heap.size 70 4 (.slice (some ⟨w.heap.size, 0, none⟩) n n) n (rowsK n 4 (compPart C k)) ∧ w.grownBy wr none) (fun i _ => n - (intOf i).toNat)
  case atStart => exact ⟨0, Nat.zero_le _, rfl, hown0, hgrow⟩
  case round =>
    obtain ⟨k, hk, rfl, hok, hgk⟩ := hrel
    clear hown0 hgrow
    by_cases hlt : k < n
    · obtain ⟨b, off, rfl, hc⟩ := (unhide HR) k hlt
      have hc' := fun j hj => hgk.cell (hc j hj) (by simp)
      have h0 := hc' 0 (by omega)
      have h1 := hc' 1 (by omega)
      have h2 := hc' 2 (by omega)
      have h3 := hc' 3 (by omega)
      rw [Nat.add_zero] at h0
      clear hc hc'
      have HSET := hide (compPart_set C n k (C k 0) (C k 1) (C k 2) (C k 3) rfl rfl rfl rfl)
      generalize C k 0 = c0 at *
      generalize C k 1 = c1 at *
      generalize C k 2 = c2 at *
      generalize C k 3 = c3 at *
      go_wp2_with fail
      refine (toComp c0 c1 c2 c3 wr).mono ?_
      rintro e w2 ⟨rfl, g2⟩
      have hok2 := own_grown hok g2
      have hG2 := grown_trans hgk g2
      have f0 := hok2.frozenAt (k * 4)
      have f1 := hok2.frozenAt (k * 4 + 1)
      have f2 := hok2.frozenAt (k * 4 + 2)
      have f3 := hok2.frozenAt (k * 4 + 3)
      have hold : ∀ j, j < n * 4 → ∃ u, w2.cell? ⟨w.heap.size, j, none⟩ = some u := fun j hj => by rw [hok2.cellAt j hj]; exact ⟨_, List.getElem?_eq_getElem (by rw [hok2.1]; omega)⟩
      obtain ⟨v0, hv0⟩ := hold (k * 4) (by omega)
      obtain ⟨v1, hv1⟩ := hold (k * 4 + 1) (by omega)
      obtain ⟨v2, hv2⟩ := hold (k * 4 + 2) (by omega)
      obtain ⟨v3, hv3⟩ := hold (k * 4 + 3) (by omega)
      have s0 := hok2.stored (k * 4) (.int .i64 c0)
      have s1 := s0.1.stored (k * 4 + 1) (.int .i64 c1)
      have s2 := s1.1.stored (k * 4 + 2) (.int .i64 c2)
      have s3 := s2.1.stored (k * 4 + 3) (.int .i64 c3)
      have hg' := grown_new hG2 (grown_trans (grown_trans (grown_trans s0.2 s1.2) s2.2) s3.2) (by intro g e; simp at e; omega)
      have HS := hide s3.1
      rw [unhide HSET] at HS
      have HG := hide hg'
      clear s0 s1 s2 s3 hok hok2 hgk hG2 hold g2 h0 h1 h2 h3 hg' HSET
      go_wp2
      go_roundw
      case rel => exact ⟨k + 1, by omega, by go_num, unhide HS, unhide HG⟩
      case measure => simp [intOf]; omega
    · have hkn : k = n := by omega
      subst hkn
      go_wp2
      go_ret
      refine ⟨rfl, ?_, hgk⟩
      have e : rowsK k 4 (compCells C) = rowsK k 4 (compPart C k) := rowsK_congr (fun i j hi' _ => by unfold compPart compCells; rw [if_pos hi'])
      rw [e]; exact hok

theorem szCompS (ao : Option Addr) (n cap : Nat) (left r : Int) (w : World) (h0 : 0 ≤ left) (h1 : left ≤ 1048576) (hm : n ≤ 9223372036854775807) (hr : Hid ((if (n : Int) ≤ left then left - n else -1) = r)) :
    Calls Try.prog 59 #[.slice ao n cap, .int .i64 left] w fun e w' => e = .returned (.int .i64 r) ∧ w = w' := by
  by_cases h : (n : Int) ≤ left
  · have e : left - n = r := by have := unhide hr; rwa [if_pos h] at this
    subst e
    clear hr
    have hn : ¬ (left - (n : Int) < 0) := by omega
    go_enter Try.func59, Try.ntmps59
    go_wp2
    go_ret
    exact ⟨rfl, rfl⟩
  · have e : -1 = r := by have := unhide hr; rwa [if_neg h] at this
    subst e
    clear hr
    have hn : left - (n : Int) < 0 := by omega
    go_enter Try.func59, Try.ntmps59
    go_wp2
    go_ret
    exact ⟨rfl, rfl⟩

theorem szFrame (p wd ht rs : Int) (ao : Option Addr) (n cap : Nat) (left r : Int) (w : World) (h0 : 0 ≤ left) (h1 : left ≤ 1048576) (hm : n ≤ 9223372036854775807) (hr : Hid ((if (n : Int) ≤ left then left - n else -1) = r)) :
    Calls Try.prog 20 #[.agg #[.int .i64 p, .int .i64 wd, .int .i64 ht, .int .i64 rs, .slice ao n cap], .int .i64 left] w fun e w' => e = .returned (.int .i64 r) ∧ w.grownBy w' none := by
  by_cases h : (n : Int) ≤ left
  · have e : left - n = r := by have := unhide hr; rwa [if_pos h] at this
    subst e
    have hn : ¬ (left - (n : Int) < 0) := by omega
    go_enter Try.func20, Try.ntmps20
    go_wp2_with fail
    refine (szCompS ao n cap left _ _ h0 h1 hm hr).mono ?_
    rintro e w1 ⟨rfl, rfl⟩
    go_wp2
    go_ret
    exact ⟨rfl, grown_alloc (World.grownBy.refl _ _) _⟩
  · have e : -1 = r := by have := unhide hr; rwa [if_neg h] at this
    subst e
    go_enter Try.func20, Try.ntmps20
    go_wp2_with fail
    refine (szCompS ao n cap left _ _ h0 h1 hm hr).mono ?_
    rintro e w1 ⟨rfl, rfl⟩
    go_wp2
    go_ret
    exact ⟨rfl, grown_alloc (World.grownBy.refl _ _) _⟩

set_option maxHeartbeats 800000 in
theorem eqComp (c0 c1 c2 c3 : Int) (w : World) :
    Calls Try.prog 94 #[.agg #[.int .i64 c0, .int .i64 c1, .int .i64 c2, .int .i64 c3], .agg #[.int .i64 c0, .int .i64 c1, .int .i64 c2, .int .i64 c3]] w fun e w' => e = .returned (.bool true) ∧ w.grownBy w' none := by
  have h0 : (c0 != c0) = false := by simp
  have h1 : (c1 != c1) = false := by simp
  have h2 : (c2 != c2) = false := by simp
  have h3 : (c3 != c3) = false := by simp
  go_enter Try.func94, Try.ntmps94
  go_wp2
  go_ret
  exact ⟨rfl, grown_alloc (grown_alloc (World.grownBy.refl _ _) _) _⟩

set_option maxHeartbeats 1600000 in
theorem eqCompS (ao bo : Option Addr) (n cap cap' : Nat) (C : Nat → Nat → Int) (w : World) (hx : RdC w ao n C) (hy : RdC w bo n C) (hn : n ≤ 4194304) :
    Calls Try.prog 62 #[.slice ao n cap, .slice bo n cap'] w fun e w' => e = .returned (.bool true) ∧ w.grownBy w' none := by
  have HX := hide hx
  have HY := hide hy
  clear hx hy
  have hne : ((n : Int) != n) = false := by simp
  go_enter Try.func62, Try.ntmps62
  go_wp2
  go_loopw [5] (fun i wr => ∃ k : Nat, k ≤ n ∧ i = .int .i64 k ∧ w.grownBy wr none) (fun i _ => n - (intOf i).toNat)
  case atStart => exact ⟨0, Nat.zero_le _, rfl, World.grownBy.refl _ _⟩
  case round =>
    obtain ⟨k, hk, rfl, hgk⟩ := hrel
    by_cases hlt : k < n
    · obtain ⟨b, off, rfl, hc⟩ := (unhide HX) k hlt
      obtain ⟨b', off', rfl, hd⟩ := (unhide HY) k hlt
      have hc' := fun j hj => hgk.cell (hc j hj) (by simp)
      have hd' := fun j hj => hgk.cell (hd j hj) (by simp)
      have a0 := hc' 0 (by omega)
      have a1 := hc' 1 (by omega)
      have a2 := hc' 2 (by omega)
      have a3 := hc' 3 (by omega)
      have b0 := hd' 0 (by omega)
      have b1 := hd' 1 (by omega)
      have b2 := hd' 2 (by omega)
      have b3 := hd' 3 (by omega)
      rw [Nat.add_zero] at a0 b0
      clear hc hc' hd hd'
      generalize C k 0 = c0 at *
      generalize C k 1 = c1 at *
      generalize C k 2 = c2 at *
      generalize C k 3 = c3 at *
      have hik : (k : Int) < (n : Int) := by omega
      go_wp2
      go_region_with (go_at_call 94; refine (eqComp c0 c1 c2 c3 _).mono ?_; rintro e w2 ⟨rfl, g2⟩)
      all_goals
        go_wp2
        go_roundw
        case rel => exact ⟨k + 1, by omega, by go_num, grown_trans (grown_drew hgk) g2⟩
        case measure => simp [intOf]; omega
    · go_wp2
      go_ret
      exact ⟨rfl, hgk⟩

set_option maxHeartbeats 1600000 in
theorem eqFrame (p wd ht rs : Int) (ao bo : Option Addr) (n cap cap' : Nat) (C : Nat → Nat → Int) (w : World) (hx : RdC w ao n C) (hy : RdC w bo n C) (hn : n ≤ 4194304) :
    Calls Try.prog 23 #[.agg #[.int .i64 p, .int .i64 wd, .int .i64 ht, .int .i64 rs, .slice ao n cap], .agg #[.int .i64 p, .int .i64 wd, .int .i64 ht, .int .i64 rs, .slice bo n cap']] w fun e w' => e = .returned (.bool true) ∧ w.grownBy w' none := by
  have HX := hide hx
  have HY := hide hy
  clear hx hy
  have h0 : (p != p) = false := by simp
  have h1 : (wd != wd) = false := by simp
  have h2 : (ht != ht) = false := by simp
  have h3 : (rs != rs) = false := by simp
  have G : Hid (w.grownBy ((w.alloc (.cells #[.int .i64 p, .int .i64 wd, .int .i64 ht, .int .i64 rs, .slice ao n cap] 26)).alloc (.cells #[.int .i64 p, .int .i64 wd, .int .i64 ht, .int .i64 rs, .slice bo n cap'] 26)) none) := grown_alloc (grown_alloc (World.grownBy.refl _ _) _) _
  go_enter Try.func23, Try.ntmps23
  go_wp2_with fail
  refine (eqCompS ao bo n cap cap' C _ ((unhide HX).grown (unhide G)) ((unhide HY).grown (unhide G)) hn).mono ?_
  rintro e w1 ⟨rfl, g1⟩
  go_wp2
  go_ret
  exact ⟨rfl, grown_trans (unhide G) g1⟩

end Go.Proofs.Ytibgldanmhckiaa

namespace Go.Proofs.Ytibgldanmhckiaa
open Go.RowKit

/-- The cursor, as it lies in memory. -/
def Cu (w : World) (tb : Nat) (ao : Option Addr) (n cap p s : Nat) : Prop := w.heap[tb]? = some (.cells #[.slice ao n cap, .int .i64 p, .int .i64 s] 106 (0, 0))

section
variable {w : World} {tb : Nat} {ao : Option Addr} {n cap p s : Nat}
theorem Cu.c0 (h : Cu w tb ao n cap p s) : w.cell? ⟨tb, 0, none⟩ = some (.slice ao n cap) := by rw [cell_of_row w tb 0 _ _ (0, 0) h]; rfl
theorem Cu.c1 (h : Cu w tb ao n cap p s) : w.cell? ⟨tb, 1, none⟩ = some (.int .i64 p) := by rw [cell_of_row w tb 1 _ _ (0, 0) h]; rfl
theorem Cu.c2 (h : Cu w tb ao n cap p s) : w.cell? ⟨tb, 2, none⟩ = some (.int .i64 s) := by rw [cell_of_row w tb 2 _ _ (0, 0) h]; rfl
theorem Cu.fz (h : Cu w tb ao n cap p s) (j : Nat) : w.frozen? ⟨tb, j, none⟩ = false := frozen_of_row w tb j _ _ h
theorem Cu.lt (h : Cu w tb ao n cap p s) : tb < w.heap.size := by obtain ⟨h, _⟩ := Array.getElem?_eq_some_iff.1 h; exact h
theorem Cu.at (h : Cu w tb ao n cap p s) (q : Nat) : Cu (w.setCell ⟨tb, 1, none⟩ (.int .i64 q)) tb ao n cap q s := heap_setCell_same w tb 1 _ _ _ h
theorem Cu.seed (h : Cu w tb ao n cap p s) (q : Nat) : Cu (w.setCell ⟨tb, 2, none⟩ (.int .i64 q)) tb ao n cap p q := heap_setCell_same w tb 2 _ _ _ h
theorem Cu.grown {w' : World} (h : Cu w tb ao n cap p s) (hg : w.grownBy w' none) : Cu w' tb ao n cap p s := (hg.block tb h.lt (by simp)).trans h
theorem Cu.beside {w' : World} {row : Option Nat} (h : Cu w tb ao n cap p s) (hg : w.grownBy w' row) (hne : row ≠ some tb) : Cu w' tb ao n cap p s := (hg.block tb h.lt (fun e => hne e.symm)).trans h
end
/-- What a pick leaves. -/
def Picked (w : World) (tb : Nat) (ao : Option Addr) (n cap p : Nat) (k : Int) (e : Ending) (w' : World) : Prop :=
  ∃ (x : Int) (p' s' : Nat), e = .returned (.int .i64 x) ∧ 0 ≤ x ∧ x < k ∧ Cu w' tb ao n cap p' s' ∧ p' ≤ p + 2 ∧ s' < 65521 ∧ w.grownBy w' (some tb)

theorem picked_of {w w' : World} {tb : Nat} {ao : Option Addr} {n cap p p' s' : Nat} {k y : Int} {v : Value} (hv : v = .int .i64 (y % k)) (hk : 2 ≤ k) (hc : Cu w' tb ao n cap p' s') (hp : p' ≤ p + 2) (hs : s' < 65521) (hg : w.grownBy w' (some tb)) :
    Picked w tb ao n cap p k (.returned v) w' :=
  ⟨y % k, p', s', by rw [hv], Int.emod_nonneg _ (by omega), Int.emod_lt_of_pos _ (by omega), hc, hp, hs, hg⟩

set_option maxHeartbeats 1600000 in
theorem curPick_in (tb : Nat) (ao : Option Addr) (n cap p s : Nat) (k : Int) (zs : List Int) (w : World) (ht : Cu w tb ao n cap p s) (hr : Rd .u8 w ao n zs) (hne : 0 < n → ∀ b off, ao = some ⟨b, off, none⟩ → b ≠ tb)
    (hb : ∀ i, 0 ≤ zs.getD i 0 ∧ zs.getD i 0 ≤ 255) (hn : n ≤ 1048576) (hs : s < 65521) (hk : 2 ≤ k) (hk2 : k ≤ 256) (hpn : p < n) :
    Calls Try.prog 70 #[.pointer (some ⟨tb, 0, none⟩), .int .i64 k] w (Picked w tb ao n cap p k) := by
  obtain ⟨hl, hc⟩ := hr
  obtain ⟨b, off, rfl, hcb⟩ := hc p hpn
  have hbt : ¬ b = tb := hne (by omega) b off rfl
  have hbb := hb p
  have c0 := ht.c0
  have c1 := ht.c1
  have f1 := ht.fz 1
  clear hc hb hne
  generalize zs.getD p 0 = x at hcb hbb
  obtain ⟨hx0, hx1⟩ := hbb
  have hlt2 : decide (k < 2) = false := by simp; omega
  have hgt : decide (256 < k) = false := by simp; omega
  have hik : (p : Int) < (n : Int) := by omega
  go_enter Try.func70, Try.ntmps70
  go_wp2
  go_quiet (fail)
  go_wp2
  go_quiet (fail)
  go_wp2
  go_quiet (fail)
  go_wp2
  go_ret
  exact picked_of (y := x) rfl hk (Cu.at (w := w.drewN _) ht (p + 1)) (by omega) hs (grown_set' _ _ _ _ _)

set_option maxHeartbeats 1600000 in
theorem curPick_in3 (tb : Nat) (ao : Option Addr) (n cap p s : Nat) (k : Int) (zs : List Int) (w : World) (ht : Cu w tb ao n cap p s) (hr : Rd .u8 w ao n zs) (hne : 0 < n → ∀ b off, ao = some ⟨b, off, none⟩ → b ≠ tb)
    (hb : ∀ i, 0 ≤ zs.getD i 0 ∧ zs.getD i 0 ≤ 255) (hn : n ≤ 1048576) (hs : s < 65521) (hk : 2 ≤ k) (hk2 : 256 < k) (hk3 : k ≤ 2147483648) (hpn : p < n) (hp1 : n ≤ p + 1) :
    Calls Try.prog 70 #[.pointer (some ⟨tb, 0, none⟩), .int .i64 k] w (Picked w tb ao n cap p k) := by
  obtain ⟨hl, hc⟩ := hr
  obtain ⟨b, off, rfl, hcb⟩ := hc p hpn
  have hbt : ¬ b = tb := hne (by omega) b off rfl
  have hbb := hb p
  have c0 := ht.c0
  have c1 := ht.c1
  have f1 := ht.fz 1
  clear hc hb hne
  generalize zs.getD p 0 = x at hcb hbb
  obtain ⟨hx0, hx1⟩ := hbb
  have hlt2 : decide (k < 2) = false := by simp; omega
  have hgt : decide (256 < k) = true := by simp; omega
  have hge : decide ((p : Int) + 1 < (n : Int)) = false := by simp; omega
  have hik : (p : Int) < (n : Int) := by omega
  go_enter Try.func70, Try.ntmps70
  go_wp2
  go_quiet (fail)
  go_wp2
  go_quiet (fail)
  go_wp2
  go_quiet (fail)
  go_wp2
  go_ret
  exact picked_of (y := x) rfl hk (Cu.at (w := w.drewN _) ht (p + 1)) (by omega) hs (grown_set' _ _ _ _ _)

set_option maxHeartbeats 1600000 in
theorem curPick_in2 (tb : Nat) (ao : Option Addr) (n cap p s : Nat) (k : Int) (zs : List Int) (w : World) (ht : Cu w tb ao n cap p s) (hr : Rd .u8 w ao n zs) (hne : 0 < n → ∀ b off, ao = some ⟨b, off, none⟩ → b ≠ tb)
    (hb : ∀ i, 0 ≤ zs.getD i 0 ∧ zs.getD i 0 ≤ 255) (hn : n ≤ 1048576) (hs : s < 65521) (hk : 2 ≤ k) (hk2 : 256 < k) (hk3 : k ≤ 2147483648) (hp1 : p + 1 < n) :
    Calls Try.prog 70 #[.pointer (some ⟨tb, 0, none⟩), .int .i64 k] w (Picked w tb ao n cap p k) := by
  obtain ⟨hl, hc⟩ := hr
  obtain ⟨b, off, rfl, hcb⟩ := hc p (by omega)
  obtain ⟨b', off', hao, hcb'⟩ := hc (p + 1) hp1
  simp at hao
  obtain ⟨rfl, rfl⟩ := hao
  have hbb' := hb (p + 1)
  have hbt : ¬ b = tb := hne (by omega) b off rfl
  have hbb := hb p
  have c0 := ht.c0
  have c1 := ht.c1
  have f1 := ht.fz 1
  clear hc hb hne
  generalize zs.getD (p + 1) 0 = x' at hcb' hbb'
  obtain ⟨hx0', hx1'⟩ := hbb'
  generalize zs.getD p 0 = x at hcb hbb
  obtain ⟨hx0, hx1⟩ := hbb
  have hlt2 : decide (k < 2) = false := by simp; omega
  have hgt : decide (256 < k) = true := by simp; omega
  have hge : decide ((p : Int) + 1 < (n : Int)) = true := by simp; omega
  have hik1 : (p : Int) + 1 < (n : Int) := by omega
  have hik : (p : Int) < (n : Int) := by omega
  go_enter Try.func70, Try.ntmps70
  go_wp2
  go_quiet (fail)
  go_wp2
  go_quiet (fail)
  go_wp2
  go_quiet (fail)
  go_wp2
  go_quiet (fail)
  go_wp2
  go_ret
  exact picked_of (y := 256 * x + x') rfl hk (Cu.at (w := World.drewN (World.setCell (w.drewN _) _ _) _) (Cu.at (w := w.drewN _) ht (p + 1)) (p + 1 + 1)) (by omega) hs (grown_trans (grown_set' _ _ _ _ _) (grown_set' _ _ _ _ _))

set_option maxHeartbeats 1600000 in
theorem curPick_none (tb : Nat) (ao : Option Addr) (cap p s : Nat) (k : Int) (w : World) (ht : Cu w tb ao 0 cap p s) (hp : p ≤ 1000000000000) (hs : s < 65521) (hk : 2 ≤ k) (hk3 : k ≤ 2147483648) :
    Calls Try.prog 70 #[.pointer (some ⟨tb, 0, none⟩), .int .i64 k] w (Picked w tb ao 0 cap p k) := by
  have c0 := ht.c0
  have c1 := ht.c1
  have c2 := ht.c2
  have f1 := ht.fz 1
  have f2 := ht.fz 2
  have hlt2 : decide (k < 2) = false := by simp; omega
  have hpn : decide ((p : Int) < 0) = false := by simp
  go_enter Try.func70, Try.ntmps70
  go_wp2
  go_quiet (fail)
  go_wp2
  go_ret
  have e : ((s : Int) * 1103 + 12345) % 65521 = (((s * 1103 + 12345) % 65521 : Nat) : Int) := by omega
  rw [e]
  exact picked_of (y := (((s * 1103 + 12345) % 65521 : Nat) : Int) / 3) (by rw [← e]; rfl) hk (Cu.at (Cu.seed (w := w.drewN _) ht ((s * 1103 + 12345) % 65521)) (p + 1)) (by omega) (Nat.mod_lt _ (by omega)) (grown_trans (grown_set' _ _ _ _ _) (grown_set _ _ _ _))

set_option maxHeartbeats 1600000 in
theorem curPick_out (tb : Nat) (ao : Option Addr) (n cap p s : Nat) (k : Int) (zs : List Int) (w : World) (ht : Cu w tb ao n cap p s) (hr : Rd .u8 w ao n zs) (hne : 0 < n → ∀ b off, ao = some ⟨b, off, none⟩ → b ≠ tb)
    (hb : ∀ i, 0 ≤ zs.getD i 0 ∧ zs.getD i 0 ≤ 255) (hn : n ≤ 1048576) (hp : p ≤ 1000000000000) (hs : s < 65521) (hk : 2 ≤ k) (hk3 : k ≤ 2147483648) (hn0 : 0 < n) (hpn : n ≤ p) :
    Calls Try.prog 70 #[.pointer (some ⟨tb, 0, none⟩), .int .i64 k] w (Picked w tb ao n cap p k) := by
  obtain ⟨hl, hc⟩ := hr
  have hm : p % n < n := Nat.mod_lt _ hn0
  obtain ⟨b, off, rfl, hcb⟩ := hc (p % n) hm
  have hbt : ¬ b = tb := hne (by omega) b off rfl
  have hbb := hb (p % n)
  have c0 := ht.c0
  have c1 := ht.c1
  have c2 := ht.c2
  have f1 := ht.fz 1
  have f2 := ht.fz 2
  clear hc hb hne
  generalize zs.getD (p % n) 0 = x at hcb hbb
  obtain ⟨hx0, hx1⟩ := hbb
  have hlt2 : decide (k < 2) = false := by simp; omega
  have hge : decide ((p : Int) < (n : Int)) = false := by simp; omega
  have hpos : decide ((0 : Int) < (n : Int)) = true := by simp; omega
  have hmi : ((p : Int) % (n : Int)) < (n : Int) := Int.emod_lt_of_pos _ (by omega)
  have hmi0 : 0 ≤ ((p : Int) % (n : Int)) := Int.emod_nonneg _ (by omega)
  go_enter Try.func70, Try.ntmps70
  go_wp2
  go_quiet (fail)
  go_wp2
  go_quiet (fail)
  go_wp2
  go_ret
  have e : ((s : Int) * 1103 + 12345) % 65521 = (((s * 1103 + 12345) % 65521 : Nat) : Int) := by omega
  rw [e]
  exact picked_of (y := (((s * 1103 + 12345) % 65521 : Nat) : Int) / 3 + x) (by rw [← e]; rfl) hk (Cu.at (w := World.drewN (World.setCell (w.drewN _) _ _) _) (Cu.seed (w := w.drewN _) ht ((s * 1103 + 12345) % 65521)) (p + 1)) (by omega) (Nat.mod_lt _ (by omega)) (grown_trans (grown_set' _ _ _ _ _) (grown_set' _ _ _ _ _))

/-- A pick of two or more. -/
theorem curPick (tb : Nat) (ao : Option Addr) (n cap p s : Nat) (k : Int) (zs : List Int) (w : World) (ht : Cu w tb ao n cap p s) (hr : Rd .u8 w ao n zs) (hne : 0 < n → ∀ b off, ao = some ⟨b, off, none⟩ → b ≠ tb)
    (hb : ∀ i, 0 ≤ zs.getD i 0 ∧ zs.getD i 0 ≤ 255) (hn : n ≤ 1048576) (hp : p ≤ 1000000000000) (hs : s < 65521) (hk : 2 ≤ k) (hk3 : k ≤ 2147483648) :
    Calls Try.prog 70 #[.pointer (some ⟨tb, 0, none⟩), .int .i64 k] w (Picked w tb ao n cap p k) := by
  by_cases hpn : p < n
  · by_cases hk2 : k ≤ 256
    · exact curPick_in tb ao n cap p s k zs w ht hr hne hb hn hs hk hk2 hpn
    · by_cases hp1 : p + 1 < n
      · exact curPick_in2 tb ao n cap p s k zs w ht hr hne hb hn hs hk (by omega) hk3 hp1
      · exact curPick_in3 tb ao n cap p s k zs w ht hr hne hb hn hs hk (by omega) hk3 hpn (by omega)
  · by_cases hn0 : 0 < n
    · exact curPick_out tb ao n cap p s k zs w ht hr hne hb hn hp hs hk hk3 hn0 (by omega)
    · obtain rfl : n = 0 := by omega
      exact curPick_none tb ao cap p s k w ht hp hs hk hk3

/-- All that a call with a cursor wants of it, told in one. -/
structure Cur (w : World) (tb : Nat) (ao : Option Addr) (n cap : Nat) (zs : List Int) (p : Nat) : Prop where
  cu : ∃ s, Cu w tb ao n cap p s ∧ s < 65521
  rd : Rd .u8 w ao n zs
  ne : 0 < n → ∀ b off, ao = some ⟨b, off, none⟩ → b ≠ tb
  byte : ∀ i, 0 ≤ zs.getD i 0 ∧ zs.getD i 0 ≤ 255
  len : n ≤ 1048576

theorem Cur.lt {w : World} {tb : Nat} {ao : Option Addr} {n cap p : Nat} {zs : List Int} (h : Cur w tb ao n cap zs p) : tb < w.heap.size := by obtain ⟨s, h, _⟩ := h.cu; exact h.lt
theorem Cur.grown {w w' : World} {tb : Nat} {ao : Option Addr} {n cap p : Nat} {zs : List Int} (h : Cur w tb ao n cap zs p) (hg : w.grownBy w' none) : Cur w' tb ao n cap zs p :=
  ⟨by obtain ⟨s, h1, h2⟩ := h.cu; exact ⟨s, h1.grown hg, h2⟩, h.rd.grown hg, h.ne, h.byte, h.len⟩
/-- A row that is written, neither the cursor nor its code. -/
theorem Cur.beside {w w' : World} {tb : Nat} {ao : Option Addr} {n cap p : Nat} {zs : List Int} {row : Option Nat} (h : Cur w tb ao n cap zs p) (hg : w.grownBy w' row) (hrow : ∀ g, row = some g → g ≠ tb ∧ (0 < n → ∀ b off, ao = some ⟨b, off, none⟩ → b ≠ g)) : Cur w' tb ao n cap zs p := by
  cases row with
  | none => exact h.grown hg
  | some g =>
    have h1 := hrow g rfl
    exact ⟨by obtain ⟨s, h2, h3⟩ := h.cu; exact ⟨s, h2.beside hg (by simp; exact h1.1), h3⟩, h.rd.beside hg h1.2, h.ne, h.byte, h.len⟩

theorem pick_of (tb : Nat) (ao : Option Addr) (n cap p : Nat) (k : Int) (zs : List Int) (w : World) (h : Cur w tb ao n cap zs p) (hp : p ≤ 1000000000000) (hk : 2 ≤ k) (hk3 : k ≤ 2147483648) :
    Calls Try.prog 70 #[.pointer (some ⟨tb, 0, none⟩), .int .i64 k] w fun e w' => ∃ (x : Int) (p' : Nat), e = .returned (.int .i64 x) ∧ 0 ≤ x ∧ x < k ∧ Cur w' tb ao n cap zs p' ∧ p' ≤ p + 2 ∧ w.grownBy w' (some tb) := by
  obtain ⟨s, h1, h2⟩ := h.cu
  refine (curPick tb ao n cap p s k zs w h1 h.rd h.ne h.byte h.len hp h2 hk hk3).mono ?_
  rintro e w' ⟨x, p', s', he, hx0, hx1, hc, hp', hs', hg⟩
  exact ⟨x, p', he, hx0, hx1, ⟨⟨s', hc, hs'⟩, h.rd.beside hg h.ne, h.ne, h.byte, h.len⟩, hp', hg⟩

theorem pick_small (tb : Nat) (k : Int) (w : World) (hk : k < 2) :
    Calls Try.prog 70 #[.pointer (some ⟨tb, 0, none⟩), .int .i64 k] w fun e w' => e = .returned (.int .i64 0) ∧ w = w' := by
  have hlt2 : decide (k < 2) = true := by simp; omega
  go_enter Try.func70, Try.ntmps70
  go_wp2
  go_ret
  exact ⟨rfl, rfl⟩

set_option maxHeartbeats 800000 in
theorem size_of (tb : Nat) (ao : Option Addr) (n cap p : Nat) (k : Int) (zs : List Int) (w : World) (h : Cur w tb ao n cap zs p) (hp : p ≤ 1000000000000) (hk : 1 ≤ k) (hk3 : k ≤ 1073741824) :
    Calls Try.prog 72 #[.pointer (some ⟨tb, 0, none⟩), .int .i64 k] w fun e w' => ∃ (x : Int) (p' : Nat), e = .returned (.int .i64 x) ∧ 0 ≤ x ∧ x ≤ k ∧ Cur w' tb ao n cap zs p' ∧ p' ≤ p + 2 ∧ w.grownBy w' (some tb) := by
  have hn := h.len
  obtain ⟨s, h1, _⟩ := h.cu
  have c0 := h1.c0
  have H := hide h
  clear h h1
  by_cases hlt : k < 1 + (n : Int) / 10
  · go_enter Try.func72, Try.ntmps72
    go_wp2_with fail
    refine (pick_of tb ao n cap p (k + 1) zs w (unhide H) hp (by omega) (by omega)).mono ?_
    rintro e w1 ⟨x, p', rfl, hx0, hx1, hc, hp', hg⟩
    go_wp2
    go_ret
    exact ⟨x, p', rfl, hx0, by omega, hc, hp', hg⟩
  · go_enter Try.func72, Try.ntmps72
    go_wp2_with fail
    refine (pick_of tb ao n cap p (1 + (n : Int) / 10 + 1) zs w (unhide H) hp (by omega) (by omega)).mono ?_
    rintro e w1 ⟨x, p', rfl, hx0, hx1, hc, hp', hg⟩
    go_wp2
    go_ret
    exact ⟨x, p', rfl, hx0, by omega, hc, hp', hg⟩

theorem open_of (ao : Option Addr) (n cap : Nat) (zs : List Int) (w : World) (hr : Rd .u8 w ao n zs) (hb : ∀ i, 0 ≤ zs.getD i 0 ∧ zs.getD i 0 ≤ 255) (hn : n ≤ 1048576) :
    Calls Try.prog 35 #[.slice ao n cap] w fun e w' => e = .returned (.pointer (some ⟨w.heap.size, 0, none⟩)) ∧ Cur w' w.heap.size ao n cap zs 0 ∧ w.grownBy w' none := by
  have hlt := hr.lt
  have HR := hide hr
  have HB := hide hb
  clear hr hb
  go_enter Try.func35, Try.ntmps35
  go_wp2
  go_ret
  have e : 13 + (n : Int) % 1000 = ((13 + n % 1000 : Nat) : Int) := by omega
  rw [e]
  exact ⟨rfl, ⟨⟨13 + n % 1000, heap_alloc_new w _, by omega⟩, (unhide HR).grown (World.grownBy_alloc _ _ _), fun h b off e => by have := hlt h b off e; omega, unhide HB, hn⟩, World.grownBy_alloc _ _ _⟩

end Go.Proofs.Ytibgldanmhckiaa
