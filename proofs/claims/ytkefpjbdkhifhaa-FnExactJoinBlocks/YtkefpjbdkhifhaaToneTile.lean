/-
  Blocks of samples in the program (written by gen_tile.py).
-/
import Derived.Test.YtkefpjbdkhifhaaToneMake
import Derived.Test.YtkefpjbdkhifhaaToneCopy
import Derived.Test.YtkefpjbdkhifhaaCutBSpec
namespace Go.Proofs.Ytkefpjbdkhifhaa
open Go.RowKit

/-- The cells of a block of samples. -/
def tq (zs : List Int) : Array Value := (zs.map (Value.int .u16)).toArray
theorem tq_size (zs : List Int) : (tq zs).size = zs.length := by simp [tq]
theorem tq_one (zs : List Int) : (tq zs).all (·.oneCell') = true := by simp [tq, Value.oneCell']
theorem tq_z : tq (List.replicate 64 0) = #[.int .u16 0, .int .u16 0, .int .u16 0, .int .u16 0, .int .u16 0, .int .u16 0, .int .u16 0, .int .u16 0, .int .u16 0, .int .u16 0, .int .u16 0, .int .u16 0, .int .u16 0, .int .u16 0, .int .u16 0, .int .u16 0, .int .u16 0, .int .u16 0, .int .u16 0, .int .u16 0, .int .u16 0, .int .u16 0, .int .u16 0, .int .u16 0, .int .u16 0, .int .u16 0, .int .u16 0, .int .u16 0, .int .u16 0, .int .u16 0, .int .u16 0, .int .u16 0, .int .u16 0, .int .u16 0, .int .u16 0, .int .u16 0, .int .u16 0, .int .u16 0, .int .u16 0, .int .u16 0, .int .u16 0, .int .u16 0, .int .u16 0, .int .u16 0, .int .u16 0, .int .u16 0, .int .u16 0, .int .u16 0, .int .u16 0, .int .u16 0, .int .u16 0, .int .u16 0, .int .u16 0, .int .u16 0, .int .u16 0, .int .u16 0, .int .u16 0, .int .u16 0, .int .u16 0, .int .u16 0, .int .u16 0, .int .u16 0, .int .u16 0, .int .u16 0] := by rfl

theorem tileRow (wd ht g n r c l lo : Nat) (hw : wd ≤ 1024) (hh : ht ≤ 1024) (hr : 8 * r + l < ht) (hc : 8 * c + 8 ≤ wd) (HN : Hid (wd * ht = n)) (HLO : Hid ((8 * r + l) * wd + 8 * c = lo)) (W : World) :
    Calls Try.prog 83 #[.agg #[.int .i64 (wd : Int), .int .i64 (ht : Int), .slice (some ⟨g, 0, none⟩) n n], .int .i64 (r : Int), .int .i64 (c : Int), .int .i64 (l : Int)] W fun e W' => e = .returned (.slice (some ⟨g, lo, none⟩) 8 (n - lo)) ∧ W.grownBy W' none := by
  have hx := row_end (w := wd) hr
  rw [Nat.mul_comm ht wd, unhide HN] at hx
  have hll : lo + 8 ≤ n := by have := unhide HLO; omega
  have hnb : n ≤ 1048576 := by rw [← unhide HN]; exact Nat.mul_le_mul hw hh
  have k1 : IntKind.i64.wrap ((r : Int) * 8) = ((8 * r : Nat) : Int) := by rw [i64_in _ (by omega)]; omega
  obtain ⟨r8, HR8⟩ : ∃ k : Nat, Hid (8 * r = k) := ⟨_, rfl⟩
  obtain ⟨c8, HC8⟩ : ∃ k : Nat, Hid (8 * c = k) := ⟨_, rfl⟩
  rw [unhide HR8] at k1
  have k2 : IntKind.i64.wrap ((c : Int) * 8) = (c8 : Int) := by have := unhide HC8; rw [i64_in _ (by omega)]; omega
  obtain ⟨rl, HRL⟩ : ∃ k : Nat, Hid (r8 + l = k) := ⟨_, rfl⟩
  have k3 : IntKind.i64.wrap ((r8 : Int) + (l : Int)) = (rl : Int) := by have := unhide HRL; have := unhide HR8; rw [i64_in _ (by omega)]; omega
  have HIX : Hid (rl * wd + c8 = lo) := by unfold Hid; rw [← unhide HRL, ← unhide HR8, ← unhide HC8]; exact unhide HLO
  have hrl : rl ≤ 1024 := by have := unhide HRL; have := unhide HR8; omega
  have hc8 : c8 ≤ 1024 := by have := unhide HC8; omega
  have k4 := i64_in ((lo : Int) + 8) (by omega)
  obtain ⟨hi, HHI⟩ : ∃ k : Nat, Hid (lo + 8 = k) := ⟨_, rfl⟩
  have k5 : IntKind.i64.wrap ((lo : Int) + 8) = (hi : Int) := by have := unhide HHI; rw [k4]; omega
  clear k4
  have s1 : (0 : Int) ≤ (lo : Int) := by omega
  have s2 : (lo : Int) ≤ (hi : Int) := by have := unhide HHI; omega
  have s3 : (hi : Int) ≤ (n : Int) := by have := unhide HHI; omega
  have s4 : ¬ n = lo := by omega
  have b0 := heap_alloc_new W (.cells #[.int .i64 (wd : Int), .int .i64 (ht : Int), .slice (some ⟨g, 0, none⟩) n n] 57)
  have c0 : (W.alloc (.cells #[.int .i64 (wd : Int), .int .i64 (ht : Int), .slice (some ⟨g, 0, none⟩) n n] 57)).cell? ⟨W.heap.size, 0, none⟩ = some (.int .i64 (wd : Int)) := by rw [cell_of_row _ _ 0 _ _ (0, 0) b0]; rfl
  have HG0 := hide (World.grownBy_alloc W (.cells #[.int .i64 (wd : Int), .int .i64 (ht : Int), .slice (some ⟨g, 0, none⟩) n n] 57) none)
  have HB0 := hide b0
  clear b0 c0 hx hr hc
  go_enter Try.func83, Try.ntmps83
  go_wp2_with fail
  refine (toneIndex wd rl c8 _ _ (by omega) (by omega) (by omega) lo HIX _).mono ?_
  rintro e w1 ⟨rfl, g1⟩
  have b1 := grown_atG g1 (unhide HB0) (by simp)
  have c2 : w1.cell? ⟨W.heap.size, 2, none⟩ = some (.slice (some ⟨g, 0, none⟩) n n) := by rw [cell_of_row w1 _ 2 _ _ (0, 0) b1]; rfl
  have HG1 := hide (grown_trans (unhide HG0) g1)
  clear b1 g1
  go_wp2
  go_ret
  refine ⟨?_, unhide HG1⟩
  have := unhide HHI
  simp
  omega

set_option maxRecDepth 20000 in
set_option maxHeartbeats 6400000 in
theorem tileAt (wd ht g n r c : Nat) (L : List Int) (hw : wd ≤ 1024) (hh : ht ≤ 1024) (hr : 8 * r + 8 ≤ ht) (hc : 8 * c + 8 ≤ wd) (HN : Hid (wd * ht = n)) (W : World) (hB : Blk .u16 73 W g L) (hL : L.length = n) (T : List Int) (HT : Hid (T.length = 64)) (HTA : Hid (∀ i, i < 64 → T.getD i 0 = L.getD ((8 * r + i / 8) * wd + 8 * c + i % 8) 0)) :
    Calls Try.prog 59 #[.agg #[.int .i64 (wd : Int), .int .i64 (ht : Int), .slice (some ⟨g, 0, none⟩) n n], .int .i64 (r : Int), .int .i64 (c : Int)] W fun e W' => e = .returned (.agg (tq T)) ∧ W.grownBy W' none := by
  have HL := hide hL
  have HGL : Hid (g < W.heap.size) := hB.lt
  have HTS : Hid ((tq T).size = 64) := by unfold Hid; rw [tq_size]; exact unhide HT
  obtain ⟨Z, HZ⟩ : ∃ Z, Hid (tq (List.replicate 64 0) = Z) := ⟨_, rfl⟩
  have HZS : Hid (Z.size = 64) := by unfold Hid; rw [← unhide HZ, tq_size]; rfl
  have HZO : Hid (Z.all (·.oneCell') = true) := by rw [← unhide HZ]; exact tq_one _
  have hz : (#[.int .u16 0, .int .u16 0, .int .u16 0, .int .u16 0, .int .u16 0, .int .u16 0, .int .u16 0, .int .u16 0, .int .u16 0, .int .u16 0, .int .u16 0, .int .u16 0, .int .u16 0, .int .u16 0, .int .u16 0, .int .u16 0, .int .u16 0, .int .u16 0, .int .u16 0, .int .u16 0, .int .u16 0, .int .u16 0, .int .u16 0, .int .u16 0, .int .u16 0, .int .u16 0, .int .u16 0, .int .u16 0, .int .u16 0, .int .u16 0, .int .u16 0, .int .u16 0, .int .u16 0, .int .u16 0, .int .u16 0, .int .u16 0, .int .u16 0, .int .u16 0, .int .u16 0, .int .u16 0, .int .u16 0, .int .u16 0, .int .u16 0, .int .u16 0, .int .u16 0, .int .u16 0, .int .u16 0, .int .u16 0, .int .u16 0, .int .u16 0, .int .u16 0, .int .u16 0, .int .u16 0, .int .u16 0, .int .u16 0, .int .u16 0, .int .u16 0, .int .u16 0, .int .u16 0, .int .u16 0, .int .u16 0, .int .u16 0, .int .u16 0, .int .u16 0] : Array Value) = Z := by rw [← unhide HZ]; exact tq_z.symm
  obtain ⟨W0, hW0⟩ : ∃ W0, ((W.alloc (.cells #[.int .i64 (wd : Int), .int .i64 (ht : Int), .slice (some ⟨g, 0, none⟩) n n] 57)).alloc (.cells Z 75)).alloc (.cells Z 75) = W0 := ⟨_, rfl⟩
  have HG0 : Hid (W.grownBy W0 none) := by rw [← hW0]; exact grown_alloc (grown_alloc (World.grownBy_alloc _ _ _) _) _
  have b0 : Hid (W0.heap[W.heap.size]? = some (.cells #[.int .i64 (wd : Int), .int .i64 (ht : Int), .slice (some ⟨g, 0, none⟩) n n] 57 (0, 0))) := by rw [← hW0, Below.heap_alloc _ _ _ (by simp <;> omega), Below.heap_alloc _ _ _ (by simp)]; exact heap_alloc_new W _
  have b1 : Hid (W0.heap[W.heap.size + 1]? = some (.cells Z 75 (0, 0))) := by
    rw [← hW0, Below.heap_alloc _ _ _ (by simp)]
    have := heap_alloc_new (W.alloc (.cells #[.int .i64 (wd : Int), .int .i64 (ht : Int), .slice (some ⟨g, 0, none⟩) n n] 57)) (.cells Z 75)
    unfold Hid
    simpa using this
  have b2 : Hid (W0.heap[W.heap.size + 1 + 1]? = some (.cells Z 75 (0, 0))) := by
    rw [← hW0]
    have := heap_alloc_new ((W.alloc (.cells #[.int .i64 (wd : Int), .int .i64 (ht : Int), .slice (some ⟨g, 0, none⟩) n n] 57)).alloc (.cells Z 75)) (.cells Z 75)
    unfold Hid
    simpa using this
  have HB0 := hide (hB.grown (unhide HG0))
  have HS0 : Hid (W0.heap.size = W.heap.size + 3) := by rw [← hW0]; simp [Hid]
  have HW := hide hW0
  have bq : Hid ((((W.alloc (.cells #[.int .i64 (wd : Int), .int .i64 (ht : Int), .slice (some ⟨g, 0, none⟩) n n] 57)).alloc (.cells Z 75)).alloc (.cells Z 75)).heap[W.heap.size + 1 + 1]? = some (.cells Z 75 (0, 0))) := by rw [unhide HW]; exact b2
  clear hW0 hB hL
  go_enter Try.func59, Try.ntmps59
  go_wp2_with ((refine store_row rfl 75 _ _ rfl (W.heap.size + 1 + 1) rfl Z rfl Z 75 (unhide bq) rfl (by rw [unhide HZS]; kernel_rfl) (unhide HZO) ?_; intro w2 hB2 g2))
  rw [unhide HW] at g2
  have p0 := hide (grown_atG g2 (unhide b0) (by simp <;> omega))
  have p1 := hide (grown_atG g2 (unhide b1) (by simp))
  have HB2 := hide ((unhide HB0).beside g2 (by have := unhide HGL; simp; omega))
  have HQ2 : Hid (Blk .u16 75 w2 (W.heap.size + 1 + 1) (laidTo T 0)) := by
    unfold Hid Blk
    rw [hB2, laidTo_zero, unhide HT, ← unhide HZ]
    rfl
  have HG2 : Hid (W.grownBy w2 none) := grown_new (unhide HG0) g2 (fun k e => by simp at e; omega)
  clear g2 hB2 bq HW b0 b1 b2 HB0 hz
  generalize hs : W.heap.size = s at *
  have HS := hide hs
  clear hs
  generalize hqq : s + 1 + 1 = q at *
  have HQS : Hid (q = s + 2) := by unfold Hid; omega
  clear hqq
  go_wp2
  go_loopw [10] (fun lv wr => ∃ l : Nat, l ≤ 8 ∧ lv = .int .i64 l ∧ Hid (Blk .u16 75 wr q (laidTo T (8 * l))) ∧ Hid (w2.grownBy wr (some q))) (fun lv _ => 8 - (intOf lv).toNat)
  case atStart => exact ⟨0, by omega, by go_num, HQ2, World.grownBy.refl _ _⟩
  case round =>
    clear HQ2
    obtain ⟨l, hl, rfl, HQR, HGR⟩ := hrel
    by_cases hlt : l < 8
    · have hlI : (l : Int) < 8 := by omega
      have e1 := i64_in ((l : Int) + 1) (by omega)
      obtain ⟨l8, HL8⟩ : ∃ k : Nat, Hid (8 * l = k) := ⟨_, rfl⟩
      have hl8 : l8 + 8 ≤ 64 := by have := unhide HL8; omega
      have k1 : IntKind.i64.wrap ((l : Int) * 8) = (l8 : Int) := by have := unhide HL8; rw [i64_in _ (by omega)]; omega
      have s1 : (0 : Int) ≤ (l8 : Int) := by omega
      have s2 : (l8 : Int) ≤ 64 := by omega
      have s3 : ¬ 64 = l8 := by omega
      obtain ⟨lo, HLO⟩ : ∃ k : Nat, Hid ((8 * r + l) * wd + 8 * c = k) := ⟨_, rfl⟩
      have hro : 8 * r + l < ht := by omega
      have hlx := row_end (w := wd) hro
      rw [Nat.mul_comm ht wd, unhide HN] at hlx
      have hlo8 : lo + 8 ≤ n := by have := unhide HLO; omega
      rw [unhide HL8] at HQR
      have x0 := hide (grown_atG (unhide HGR) (unhide p0) (by have := unhide HQS; simp; omega))
      have HBR := hide ((unhide HB2).beside (unhide HGR) (by have := unhide HGL; have := unhide HQS; simp; omega))
      have HSP : Hid (spliceL (laidTo T l8) ((L.drop lo).take 8) l8 = laidTo T (l8 + 8)) := by
        have hsl : ((L.drop lo).take 8).length = 8 := by have := unhide HL; simp; omega
        have h1 := laidTo_splice T ((L.drop lo).take 8) l8 (by rw [hsl, unhide HT]; exact hl8) (by
          rw [hsl]
          refine List.ext_getElem (by rw [hsl]; simp; have := unhide HT; omega) (fun i h1 h2 => ?_)
          have hi : i < 8 := by rw [hsl] at h1; exact h1
          have h3 : lo + i < L.length := by have := unhide HL; omega
          have h4 : l8 + i < T.length := by have := unhide HT; omega
          have h5 := unhide HTA (l8 + i) (by omega)
          have h6 : (l8 + i) / 8 = l := by have := unhide HL8; omega
          have h7 : (l8 + i) % 8 = i := by have := unhide HL8; omega
          rw [h6, h7, unhide HLO] at h5
          simp [h3, h4] at h5 ⊢
          exact h5.symm)
        rw [hsl] at h1
        exact h1
      clear hlx hro
      go_wp2
      refine wp_region_noPanic ?_
      refine wp_region_tailL 20 (fun W => W.heap[s]? = some (.cells #[.int .i64 (wd : Int), .int .i64 (ht : Int), .slice (some ⟨g, 0, none⟩) n n] 57 (0, 0))) [true, true, true, true, true, true, true, false, false] (by kernel_rfl) (fun _ _ _ _ _ h => h) rfl (by decide) (by kernel_rfl) (show wr.drew.heap[s]? = _ from unhide x0) ?_
      have HQR : Hid (Blk .u16 75 wr.drew q (laidTo T l8)) := unhide HQR
      have HBR : Hid (Blk .u16 73 wr.drew g L) := unhide HBR
      have HD : Hid (wr.grownBy wr.drew none) := grown_drew (World.grownBy.refl _ _)
      have x0 : Hid (wr.drew.heap[s]? = _) := unhide x0
      generalize wr.drew = w4 at *
      refine heldF_take (v := ?_) (Or.inl ⟨by rfl, ?_⟩) ?_
      rotate_left 1
      · intro w' hSw
        go_simp
        try with_reducible rfl
      try simp only [Act.put, List.setIfInBounds_toArray, List.set_cons_zero, List.set_cons_succ]
      refine heldF_take (v := ?_) (Or.inl ⟨by rfl, ?_⟩) ?_
      rotate_left 1
      · intro w' hSw
        go_simp
        try with_reducible rfl
      try simp only [Act.put, List.setIfInBounds_toArray, List.set_cons_zero, List.set_cons_succ]
      refine heldF_take (v := ?_) (Or.inl ⟨by rfl, ?_⟩) ?_
      rotate_left 1
      · intro w' hSw
        go_simp
        try with_reducible rfl
      try simp only [Act.put, List.setIfInBounds_toArray, List.set_cons_zero, List.set_cons_succ]
      refine heldF_take (v := .agg #[.int .i64 (wd : Int), .int .i64 (ht : Int), .slice (some ⟨g, 0, none⟩) n n]) (Or.inl ⟨by rfl, ?_⟩) ?_
      · intro w' hSw
        exact exec_row 57 _ rfl s rfl _ _ hSw _ Try.underlying57 rfl (by kernel_rfl)
      try simp only [Act.put, List.setIfInBounds_toArray, List.set_cons_zero, List.set_cons_succ]
      refine heldF_take (v := ?_) (Or.inl ⟨by rfl, ?_⟩) ?_
      rotate_left 1
      · intro w' hSw
        go_simp
        try with_reducible rfl
      try simp only [Act.put, List.setIfInBounds_toArray, List.set_cons_zero, List.set_cons_succ]
      refine heldF_take (v := ?_) (Or.inl ⟨by rfl, ?_⟩) ?_
      rotate_left 1
      · intro w' hSw
        go_simp
        try with_reducible rfl
      try simp only [Act.put, List.setIfInBounds_toArray, List.set_cons_zero, List.set_cons_succ]
      refine heldF_take (v := ?_) (Or.inl ⟨by rfl, ?_⟩) ?_
      rotate_left 1
      · intro w' hSw
        go_simp
        try with_reducible rfl
      try simp only [Act.put, List.setIfInBounds_toArray, List.set_cons_zero, List.set_cons_succ]
      refine heldF_skip ?_
      refine heldF_skip ?_
      refine heldF_nil ?_
      refine tailL_skip ?_
      refine tailL_skip ?_
      refine tailL_skip ?_
      refine tailL_skip ?_
      refine tailL_skip ?_
      refine tailL_skip ?_
      refine tailL_skip ?_
      refine tailL_step (fun K hK => ?_)
      go_simp
      refine (tileRow wd ht g n r c l lo hw hh (by omega) hc HN HLO w4).mono ?_
      rintro e w5 ⟨rfl, g5⟩
      refine hK.out _ _ (.inr (grown_atG g5 (unhide x0) (by simp))) ?_
      clear hK K
      try simp only [Act.put, List.setIfInBounds_toArray, List.set_cons_zero, List.set_cons_succ]
      refine tailL_step (fun K hK => ?_)
      refine step_copyB rfl _ _ _ _ rfl 73 Try.underlying53 (by kernel_rfl) q l8 (64 - l8) _ g lo 8 _ rfl rfl .u16 75 (laidTo T l8) ((unhide HQR).grown g5) ((L.drop lo).take 8) 8 (by simp [Nat.min_def]; omega) (((unhide HBR).grown g5).rd lo 8 (by have := unhide HL; omega)) (by rw [laidTo_len T l8 (by have := unhide HT; omega), unhide HT]; exact hl8) _ (unhide HSP) ?_
      intro w7 hQ7 g7
      refine hK.out _ _ (.inl rfl) ?_
      clear hK K
      refine tailL_nil (NoPanic.normal ?_)
      try simp only [Act.put]
      have HQ7 : Hid (Blk .u16 75 w7 q (laidTo T (8 * (l + 1)))) := by rw [show 8 * (l + 1) = l8 + 8 by have := unhide HL8; omega]; exact hQ7
      have HG7 : Hid (w2.grownBy w7 (some q)) := grown_trans (unhide HGR) (grown_trans (grown_any (grown_trans (unhide HD) g5)) g7)
      clear hQ7 g7 g5 HQR HGR HBR HSP
      go_wp2
      go_roundw
      case rel => exact ⟨l + 1, by omega, by go_num, HQ7, HG7⟩
      case measure => simp [intOf]; omega
    · obtain rfl : l = 8 := by omega
      have hld : decide ((8 : Int) < 8) = false := by decide
      have eT : laidTo T (8 * 8) = T := by rw [show 8 * 8 = T.length from (unhide HT).symm]; exact laidTo_all T
      rw [eT] at HQR
      have HQH : Hid (wr.heap[q]? = some (.cells (tq T) 75 (0, 0))) := unhide HQR
      have HO1 := hide (grown_atG (unhide HGR) (unhide p1) (by have := unhide HQS; simp; omega))
      clear eT
      go_wp2_with (first | (refine load_row rfl 75 _ rfl q rfl (tq T) 75 (unhide HQH) _ Try.underlying75 rfl (by rw [unhide HTS]; kernel_rfl) ?_) | (refine store_row rfl 75 _ _ rfl (s + 1) rfl (tq T) rfl _ 75 (unhide HO1) (by rw [unhide HZS, unhide HTS]) (by rw [unhide HTS]; kernel_rfl) (tq_one _) ?_; intro w9 hB9 g9))
      refine bodyPost_ret (v := .agg (tq T)) ?_ rfl ⟨rfl, ?_⟩
      · rw [results_c1 rfl]
        exact run_loadVar_row w9 _ 75 75 _ (0, 0) _ hB9 Try.underlying75 rfl (by rw [unhide HTS]; kernel_rfl)
      · exact grown_new (grown_new (unhide HG2) (unhide HGR) (fun k e => by simp at e; have := unhide HS; have := unhide HQS; omega)) g9 (fun k e => by simp at e; have := unhide HS; omega)

end Go.Proofs.Ytkefpjbdkhifhaa
