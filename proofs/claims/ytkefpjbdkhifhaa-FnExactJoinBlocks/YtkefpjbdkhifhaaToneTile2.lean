/-
  Blocks of samples in the program: put into a plane, and fixed (written by gen_tile.py).
-/
import Derived.Test.YtkefpjbdkhifhaaToneTile
import Derived.Test.YtkefpjbdkhifhaaLevSpec
namespace Go.Proofs.Ytkefpjbdkhifhaa
open Go.RowKit

theorem in_piece {wd y x rr cc : Nat} (hx : x < wd) (hc : cc + 8 ≤ wd) : (rr * wd + cc ≤ y * wd + x ∧ y * wd + x < rr * wd + cc + 8) ↔ (y = rr ∧ cc ≤ x ∧ x < cc + 8) := by
  constructor
  · rintro ⟨h1, h2⟩
    rcases Nat.lt_trichotomy y rr with h | h | h
    · have : (y + 1) * wd ≤ rr * wd := Nat.mul_le_mul_right wd h
      rw [Nat.add_mul, Nat.one_mul] at this
      omega
    · subst h
      omega
    · have : (rr + 1) * wd ≤ y * wd := Nat.mul_le_mul_right wd h
      rw [Nat.add_mul, Nat.one_mul] at this
      omega
  · rintro ⟨rfl, h1, h2⟩
    omega
/-- A plane with the first l lines of a block in their place. -/
def Tiled (M M' T : List Int) (wd ht r c l : Nat) : Prop := M'.length = M.length ∧ ∀ y x, y < ht → x < wd → M'.getD (y * wd + x) 0 = if y / 8 = r ∧ x / 8 = c ∧ y % 8 < l then T.getD (y % 8 * 8 + x % 8) 0 else M.getD (y * wd + x) 0
theorem Tiled.none (M T : List Int) (wd ht r c : Nat) : Tiled M M T wd ht r c 0 := ⟨rfl, fun y x _ _ => by simp⟩
theorem Tiled.next {M M' T : List Int} {wd ht r c l : Nat} (h : Tiled M M' T wd ht r c l) (hl : l < 8) (hM : M.length = wd * ht) (hT : T.length = 64) (hr : 8 * r + l < ht) (hc : 8 * c + 8 ≤ wd) : Tiled M (spliceL M' ((T.drop (8 * l)).take 8) ((8 * r + l) * wd + 8 * c)) T wd ht r c (l + 1) := by
  have hsl : ((T.drop (8 * l)).take 8).length = 8 := by simp; omega
  have hre := row_end (w := wd) hr
  have hfit : (8 * r + l) * wd + 8 * c + ((T.drop (8 * l)).take 8).length ≤ M'.length := by rw [hsl, h.1, hM, Nat.mul_comm wd ht]; omega
  refine ⟨by rw [spliceL_len _ _ _ hfit]; exact h.1, fun y x hy hx => ?_⟩
  rw [spliceL_at _ _ _ _ hfit, hsl, h.2 y x hy hx]
  by_cases hin : (8 * r + l) * wd + 8 * c ≤ y * wd + x ∧ y * wd + x < (8 * r + l) * wd + 8 * c + 8
  · have h2 := (in_piece hx hc).1 hin
    have e1 : y / 8 = r := by omega
    have e2 : x / 8 = c := by omega
    have e3 : y % 8 = l := by omega
    have e4 : y * wd + x - ((8 * r + l) * wd + 8 * c) = x % 8 := by rw [h2.1]; omega
    rw [if_pos hin, if_pos ⟨e1, e2, by omega⟩, e4, e3]
    have h8 : x % 8 < 8 := Nat.mod_lt _ (by decide)
    have e5 : 8 * l + x % 8 = l * 8 + x % 8 := by omega
    simp [List.getElem?_take_of_lt h8, e5]
  · have h2 : ¬ (y = 8 * r + l ∧ 8 * c ≤ x ∧ x < 8 * c + 8) := fun e => hin ((in_piece hx hc).2 e)
    rw [if_neg hin]
    by_cases hq : y / 8 = r ∧ x / 8 = c ∧ y % 8 < l
    · rw [if_pos hq, if_pos ⟨hq.1, hq.2.1, by omega⟩]
    · rw [if_neg hq, if_neg (fun e => hq ⟨e.1, e.2.1, by
        have : y % 8 ≠ l := fun e9 => h2 ⟨by omega, by omega, by omega⟩
        omega⟩)]

set_option maxRecDepth 20000 in
set_option maxHeartbeats 3200000 in
theorem putTile (wd ht g n r c : Nat) (M T : List Int) (hw : wd ≤ 1024) (hh : ht ≤ 1024) (hr : 8 * r + 8 ≤ ht) (hc : 8 * c + 8 ≤ wd) (HN : Hid (wd * ht = n)) (W : World) (hB : Blk .u16 73 W g M) (hM : M.length = n) (hT : T.length = 64) :
    Calls Try.prog 64 #[.agg #[.int .i64 (wd : Int), .int .i64 (ht : Int), .slice (some ⟨g, 0, none⟩) n n], .int .i64 (r : Int), .int .i64 (c : Int), .agg (tq T)] W fun e W' => (∃ v, e = .returned v) ∧ (∃ M', Blk .u16 73 W' g M' ∧ Tiled M M' T wd ht r c 8) ∧ W.grownBy W' (some g) := by
  have HM := hide hM
  have HT := hide hT
  have HGL : Hid (g < W.heap.size) := hB.lt
  have HTS : Hid ((tq T).size = 64) := by unfold Hid; rw [tq_size]; exact hT
  obtain ⟨W0, hW0⟩ : ∃ W0, (W.alloc (.cells #[.int .i64 (wd : Int), .int .i64 (ht : Int), .slice (some ⟨g, 0, none⟩) n n] 57)).alloc (.cells (tq T) 75) = W0 := ⟨_, rfl⟩
  have HG0 : Hid (W.grownBy W0 none) := by rw [← hW0]; exact grown_alloc (World.grownBy_alloc _ _ _) _
  have b0 : Hid (W0.heap[W.heap.size]? = some (.cells #[.int .i64 (wd : Int), .int .i64 (ht : Int), .slice (some ⟨g, 0, none⟩) n n] 57 (0, 0))) := by rw [← hW0, Below.heap_alloc _ _ _ (by simp)]; exact heap_alloc_new W _
  have b1 : Hid (Blk .u16 75 W0 (W.heap.size + 1) T) := by
    rw [← hW0]
    have := heap_alloc_new (W.alloc (.cells #[.int .i64 (wd : Int), .int .i64 (ht : Int), .slice (some ⟨g, 0, none⟩) n n] 57)) (.cells (tq T) 75)
    unfold Hid Blk
    simpa [tq] using this
  have HB0 := hide (hB.grown (unhide HG0))
  have HW := hide hW0
  clear hW0 hB hM hT
  go_enter Try.func64, Try.ntmps64
  go_wp2
  rw [unhide HW]
  clear HW
  generalize hs : W.heap.size = s at *
  have HS := hide hs
  clear hs
  go_loopw [9] (fun lv wr => ∃ (l : Nat) (M' : List Int), l ≤ 8 ∧ lv = .int .i64 l ∧ Hid (Blk .u16 73 wr g M') ∧ Hid (Tiled M M' T wd ht r c l) ∧ Hid (W0.grownBy wr (some g))) (fun lv _ => 8 - (intOf lv).toNat)
  case atStart => exact ⟨0, M, by omega, by go_num, HB0, Tiled.none _ _ _ _ _ _, World.grownBy.refl _ _⟩
  case round =>
    clear HB0
    obtain ⟨l, M', hl, rfl, HQR, HTD, HGR⟩ := hrel
    by_cases hlt : l < 8
    · have hlI : (l : Int) < 8 := by omega
      have e1 := i64_in ((l : Int) + 1) (by omega)
      obtain ⟨l8, HL8⟩ : ∃ k : Nat, Hid (8 * l = k) := ⟨_, rfl⟩
      have hl8 : l8 + 8 ≤ 64 := by have := unhide HL8; omega
      have k1 : IntKind.i64.wrap ((l : Int) * 8) = (l8 : Int) := by have := unhide HL8; rw [i64_in _ (by omega)]; omega
      have s1 : (0 : Int) ≤ (l8 : Int) := by omega
      have s2 : (l8 : Int) ≤ 64 := by omega
      have s3 : ¬ 64 = l8 := by omega
      obtain ⟨lo, HLO⟩ : ∃ k : Nat, Hid ((8 * r + l) * wd + 8 * c = k) := ⟨_, rfl⟩
      have hro : 8 * r + l < ht := by omega
      have hlx := row_end (w := wd) hro
      rw [Nat.mul_comm ht wd, unhide HN] at hlx
      have hlo8 : lo + 8 ≤ n := by have := unhide HLO; omega
      have x0 := hide (grown_atG (unhide HGR) (unhide b0) (by have := unhide HGL; simp; omega))
      have HTR := hide ((unhide b1).beside (unhide HGR) (by have := unhide HGL; simp; omega))
      have HTN : Hid (Tiled M (spliceL M' ((T.drop l8).take 8) lo) T wd ht r c (l + 1)) := by
        rw [← unhide HL8, ← unhide HLO]
        exact (unhide HTD).next hlt (by rw [unhide HM, unhide HN]) (unhide HT) hro hc
      have HML : Hid (M'.length = n) := by unfold Hid; rw [(unhide HTD).1, unhide HM]
      clear hlx hro
      go_wp2
      refine wp_region_noPanic ?_
      refine wp_region_tailL 20 (fun W => W.heap[s]? = some (.cells #[.int .i64 (wd : Int), .int .i64 (ht : Int), .slice (some ⟨g, 0, none⟩) n n] 57 (0, 0))) [true, true, true, true, false, true, true, true, false] (by kernel_rfl) (fun _ _ _ _ _ h => h) rfl (by decide) (by kernel_rfl) (show wr.drew.heap[s]? = _ from unhide x0) ?_
      have HQR : Hid (Blk .u16 73 wr.drew g M') := unhide HQR
      have HTR : Hid (Blk .u16 75 wr.drew (s + 1) T) := unhide HTR
      have HD : Hid (wr.grownBy wr.drew none) := grown_drew (World.grownBy.refl _ _)
      have x0 : Hid (wr.drew.heap[s]? = _) := unhide x0
      generalize wr.drew = w4 at *
      refine heldF_take (v := .agg #[.int .i64 (wd : Int), .int .i64 (ht : Int), .slice (some ⟨g, 0, none⟩) n n]) (Or.inl ⟨by rfl, ?_⟩) ?_
      · intro w' hSw
        exact exec_row 57 _ rfl s rfl _ _ hSw _ Try.underlying57 rfl (by kernel_rfl)
      try simp only [Act.put, List.setIfInBounds_toArray, List.set_cons_zero, List.set_cons_succ]
      refine heldF_take (v := ?_) (Or.inl ⟨by rfl, ?_⟩) ?_
      rotate_left 1
      · intro w' hSw
        go_simp
        try with_reducible rfl
      try simp only [Act.put, List.setIfInBounds_toArray, List.set_cons_zero, List.set_cons_succ]
      refine heldF_take (v := ?_) (Or.inl ⟨by rfl, ?_⟩) ?_
      rotate_left 1
      · intro w' hSw
        go_simp
        try with_reducible rfl
      try simp only [Act.put, List.setIfInBounds_toArray, List.set_cons_zero, List.set_cons_succ]
      refine heldF_take (v := ?_) (Or.inl ⟨by rfl, ?_⟩) ?_
      rotate_left 1
      · intro w' hSw
        go_simp
        try with_reducible rfl
      try simp only [Act.put, List.setIfInBounds_toArray, List.set_cons_zero, List.set_cons_succ]
      refine heldF_skip ?_
      refine heldF_take (v := ?_) (Or.inl ⟨by rfl, ?_⟩) ?_
      rotate_left 1
      · intro w' hSw
        go_simp
        try with_reducible rfl
      try simp only [Act.put, List.setIfInBounds_toArray, List.set_cons_zero, List.set_cons_succ]
      refine heldF_take (v := ?_) (Or.inl ⟨by rfl, ?_⟩) ?_
      rotate_left 1
      · intro w' hSw
        go_simp
        try with_reducible rfl
      try simp only [Act.put, List.setIfInBounds_toArray, List.set_cons_zero, List.set_cons_succ]
      refine heldF_take (v := ?_) (Or.inl ⟨by rfl, ?_⟩) ?_
      rotate_left 1
      · intro w' hSw
        go_simp
        try with_reducible rfl
      try simp only [Act.put, List.setIfInBounds_toArray, List.set_cons_zero, List.set_cons_succ]
      refine heldF_skip ?_
      refine heldF_nil ?_
      refine tailL_skip ?_
      refine tailL_skip ?_
      refine tailL_skip ?_
      refine tailL_skip ?_
      refine tailL_step (fun K hK => ?_)
      go_simp
      refine (tileRow wd ht g n r c l lo hw hh (by omega) hc HN HLO w4).mono ?_
      rintro e w5 ⟨rfl, g5⟩
      refine hK.out _ _ (.inr (grown_atG g5 (unhide x0) (by simp))) ?_
      clear hK K
      try simp only [Act.put, List.setIfInBounds_toArray, List.set_cons_zero, List.set_cons_succ]
      refine tailL_skip ?_
      refine tailL_skip ?_
      refine tailL_skip ?_
      refine tailL_step (fun K hK => ?_)
      refine step_copyB rfl _ _ _ _ rfl 73 Try.underlying53 (by kernel_rfl) g lo 8 _ (s + 1) l8 (64 - l8) _ rfl rfl .u16 73 M' ((unhide HQR).grown g5) ((T.drop l8).take 8) 8 (by simp [Nat.min_def]; omega) (((unhide HTR).grown g5).rd l8 8 (by have := unhide HT; omega)) (by rw [unhide HML]; exact hlo8) _ rfl ?_
      intro w7 hQ7 g7
      refine hK.out _ _ (.inl rfl) ?_
      clear hK K
      refine tailL_nil (NoPanic.normal ?_)
      try simp only [Act.put]
      have HG7 : Hid (W0.grownBy w7 (some g)) := grown_trans (unhide HGR) (grown_trans (grown_any (grown_trans (unhide HD) g5)) g7)
      have HQ7 := hide hQ7
      clear hQ7 g7 g5 HQR HGR HTR
      go_wp2
      go_roundw
      case rel => exact ⟨l + 1, _, by omega, by go_num, HQ7, HTN, HG7⟩
      case measure => simp [intOf]; omega
    · obtain rfl : l = 8 := by omega
      have hld : decide ((8 : Int) < 8) = false := by decide
      go_wp2
      go_end0
      exact ⟨⟨_, rfl⟩, ⟨M', unhide HQR, unhide HTD⟩, grown_trans (grown_any (unhide HG0)) (unhide HGR)⟩

/-- What fixTile answers. -/
def FixT (zs : List Int) (b : Bool) (e : Ending) : Prop := ∃ T, e = .returned (.tuple #[.agg (tq T), .bool b]) ∧ T.length = 64 ∧ (b = true → T = zs)

set_option maxRecDepth 20000 in
set_option maxHeartbeats 3200000 in
theorem fixTile (ao : Option Addr) (m cap : Nat) (zs : List Int) (W : World) (hr : Rd .i64 W ao m zs) (b : Bool) (HB : Hid (levB 0 4095 zs = b)) :
    Calls Try.prog 63 #[.slice ao m cap] W fun e W' => FixT zs b e ∧ W.grownBy W' none := by
  have HR := hide hr
  have HZL := hide hr.1
  obtain ⟨Z, HZ⟩ : ∃ Z, Hid (tq (List.replicate 64 0) = Z) := ⟨_, rfl⟩
  have HZS : Hid (Z.size = 64) := by unfold Hid; rw [← unhide HZ, tq_size]; rfl
  have HZO : Hid (Z.all (·.oneCell') = true) := by rw [← unhide HZ]; exact tq_one _
  have hz : (#[.int .u16 0, .int .u16 0, .int .u16 0, .int .u16 0, .int .u16 0, .int .u16 0, .int .u16 0, .int .u16 0, .int .u16 0, .int .u16 0, .int .u16 0, .int .u16 0, .int .u16 0, .int .u16 0, .int .u16 0, .int .u16 0, .int .u16 0, .int .u16 0, .int .u16 0, .int .u16 0, .int .u16 0, .int .u16 0, .int .u16 0, .int .u16 0, .int .u16 0, .int .u16 0, .int .u16 0, .int .u16 0, .int .u16 0, .int .u16 0, .int .u16 0, .int .u16 0, .int .u16 0, .int .u16 0, .int .u16 0, .int .u16 0, .int .u16 0, .int .u16 0, .int .u16 0, .int .u16 0, .int .u16 0, .int .u16 0, .int .u16 0, .int .u16 0, .int .u16 0, .int .u16 0, .int .u16 0, .int .u16 0, .int .u16 0, .int .u16 0, .int .u16 0, .int .u16 0, .int .u16 0, .int .u16 0, .int .u16 0, .int .u16 0, .int .u16 0, .int .u16 0, .int .u16 0, .int .u16 0, .int .u16 0, .int .u16 0, .int .u16 0, .int .u16 0] : Array Value) = Z := by rw [← unhide HZ]; exact tq_z.symm
  obtain ⟨W0, hW0⟩ : ∃ W0, (W.alloc (.cells Z 75)).alloc (.cells Z 75) = W0 := ⟨_, rfl⟩
  have HG0 : Hid (W.grownBy W0 none) := by rw [← hW0]; exact grown_alloc (World.grownBy_alloc _ _ _) _
  have b0 : Hid (W0.heap[W.heap.size]? = some (.cells Z 75 (0, 0))) := by rw [← hW0, Below.heap_alloc _ _ _ (by simp)]; exact heap_alloc_new W _
  have b1 : Hid (W0.heap[W.heap.size + 1]? = some (.cells Z 75 (0, 0))) := by
    rw [← hW0]
    have := heap_alloc_new (W.alloc (.cells Z 75)) (.cells Z 75)
    unfold Hid
    simpa using this
  have HW := hide hW0
  have bq : Hid (((W.alloc (.cells Z 75)).alloc (.cells Z 75)).heap[W.heap.size + 1]? = some (.cells Z 75 (0, 0))) := by rw [unhide HW]; exact b1
  clear hW0 hr
  go_enter Try.func63, Try.ntmps63
  by_cases hm : ¬ m = 64
  · obtain rfl : b = false := by rw [← unhide HB, levB, unhide HZL, decide_eq_false hm]; rfl
    have d1 : ((m : Int) == 64) = false := by simp; omega
    have d2 : decide ((m : Int) = 64) = false := by simp; omega
    go_wp2_with (first | (refine load_row rfl 75 _ rfl (W.heap.size + 1) rfl Z 75 (unhide HB2) _ Try.underlying75 rfl (by rw [unhide HZS]; kernel_rfl) ?_) | (refine store_row rfl 75 _ _ rfl (W.heap.size + 1) rfl Z rfl Z 75 (unhide bq) rfl (by rw [unhide HZS]; kernel_rfl) (unhide HZO) ?_; intro w2 hB2 g2; rw [unhide HW] at g2; have p0 := hide (grown_atG g2 (unhide b0) (by simp)); have HB2 := hide hB2; have HG2 : Hid (W.grownBy w2 none) := (grown_new (unhide HG0) g2 (fun k e => by simp at e; omega)); clear g2 hB2) | (refine store_row rfl 75 _ _ rfl W.heap.size rfl Z rfl _ 75 (unhide p0) rfl (by rw [unhide HZS]; kernel_rfl) (unhide HZO) ?_; intro w9 hB9 g9))
    refine bodyPost_ret (v := .tuple #[.agg Z, .bool false]) ?_ rfl ⟨⟨List.replicate 64 0, by rw [unhide HZ], rfl, fun e => by cases e⟩, ?_⟩
    · exact results_c2 (p := 2) (q := 3) (ty := 75) rfl _ _ _ W.heap.size rfl _ (run_loadVar_row w9 _ 75 75 _ (0, 0) _ hB9 Try.underlying75 rfl (by rw [unhide HZS]; kernel_rfl))
    · exact grown_new (unhide HG2) g9 (fun k e => by simp at e; omega)
  obtain rfl : m = 64 := by omega
  have HBZ : Hid ((zs.all fun x => decide (0 ≤ x ∧ x ≤ 4095)) = b) := by
    unfold Hid
    rw [← unhide HB, levB, unhide HZL]
    simp
  go_wp2_with ((refine store_row rfl 75 _ _ rfl (W.heap.size + 1) rfl Z rfl Z 75 (unhide bq) rfl (by rw [unhide HZS]; kernel_rfl) (unhide HZO) ?_; intro w2 hB2 g2))
  rw [unhide HW] at g2
  have p0 := hide (grown_atG g2 (unhide b0) (by simp))
  have HQ2 : Hid (Blk .u16 75 w2 (W.heap.size + 1) (List.replicate 64 0)) := by
    unfold Hid Blk
    rw [hB2, ← unhide HZ]
    rfl
  have HG2 : Hid (W.grownBy w2 none) := grown_new (unhide HG0) g2 (fun k e => by simp at e; omega)
  clear g2 hB2 bq b0 b1 hm hz
  go_wp2_with fail
  refine (putTones 75 (W.heap.size + 1) 64 cap ao zs w2 ((unhide HR).grown (unhide HG2)) (unhide HQ2) (fun h0 b' off e => by have := (unhide HR).lt h0 b' off e; omega) (by omega) b HBZ).mono ?_
  rintro e w3 ⟨rfl, ⟨T, hT, hBT, hTz⟩, g3⟩
  have HTL := hide hT
  have HTS : Hid ((tq T).size = 64) := by unfold Hid; rw [tq_size]; exact hT
  have HB3 : Hid (w3.heap[W.heap.size + 1]? = some (.cells (tq T) 75 (0, 0))) := hBT
  have q0 := hide (grown_atG g3 (unhide p0) (by simp))
  have HTZ := hide hTz
  have HG3 : Hid (W.grownBy w3 none) := grown_new (unhide HG2) g3 (fun k e => by simp at e; omega)
  clear hT hBT hTz g3
  have FIN : Hid (b = b) := rfl
  cases b with
  | true =>
    go_wp2_with (first | (refine load_row rfl 75 _ rfl (W.heap.size + 1) rfl (tq T) 75 (unhide HB3) _ Try.underlying75 rfl (by rw [unhide HTS]; kernel_rfl) ?_) | (refine store_row rfl 75 _ _ rfl W.heap.size rfl (tq T) rfl _ 75 (unhide q0) (by rw [unhide HZS, unhide HTS]) (by rw [unhide HTS]; kernel_rfl) (tq_one _) ?_; intro w9 hB9 g9))
    refine bodyPost_ret (v := .tuple #[.agg (tq T), .bool true]) ?_ rfl ⟨⟨T, rfl, unhide HTL, fun _ => unhide HTZ (by simp)⟩, ?_⟩
    · exact results_c2 (p := 2) (q := 3) (ty := 75) rfl _ _ _ W.heap.size rfl _ (run_loadVar_row w9 _ 75 75 _ (0, 0) _ hB9 Try.underlying75 rfl (by rw [unhide HTS]; kernel_rfl))
    · exact grown_new (unhide HG3) g9 (fun k e => by simp at e; omega)
  | false =>
    go_wp2_with (first | (refine load_row rfl 75 _ rfl (W.heap.size + 1) rfl (tq T) 75 (unhide HB3) _ Try.underlying75 rfl (by rw [unhide HTS]; kernel_rfl) ?_) | (refine store_row rfl 75 _ _ rfl W.heap.size rfl (tq T) rfl _ 75 (unhide q0) (by rw [unhide HZS, unhide HTS]) (by rw [unhide HTS]; kernel_rfl) (tq_one _) ?_; intro w9 hB9 g9))
    refine bodyPost_ret (v := .tuple #[.agg (tq T), .bool false]) ?_ rfl ⟨⟨T, rfl, unhide HTL, fun e => by cases e⟩, ?_⟩
    · exact results_c2 (p := 2) (q := 3) (ty := 75) rfl _ _ _ W.heap.size rfl _ (run_loadVar_row w9 _ 75 75 _ (0, 0) _ hB9 Try.underlying75 rfl (by rw [unhide HTS]; kernel_rfl))
    · exact grown_new (unhide HG3) g9 (fun k e => by simp at e; omega)

end Go.Proofs.Ytkefpjbdkhifhaa
