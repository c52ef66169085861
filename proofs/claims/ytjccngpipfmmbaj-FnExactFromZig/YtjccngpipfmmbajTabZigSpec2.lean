/-
  Blocks as rows of waves, and back: the program and the specification.
-/
import Derived.Test.YtjccngpipfmmbajTabZig2
import Derived.Test.YtjccngpipfmmbajTabZigSpec
import Derived.Test.YtjccngpipfmmbajTabSpec
import Derived.Test.YtjccngpipfmmbajHeldTail
namespace Go.Proofs.Ytjccngpipfmmbaj
open Go.RowKit

set_option maxRecDepth 20000 in
set_option maxHeartbeats 800000 in
theorem implToZig (ao : Option Addr) (n cap : Nat) (zs : List Int) (w : World) (hr : Rd .i64 w ao n zs) (b : Bool) (hb : Hid (numsB (-32767) 32767 zs = b)) (L : List Int) (HL : Hid ((if b then zigged zs else []) = L)) :
    Calls Try.prog 19 #[.slice ao n cap] w fun e w' => ∃ so sc, e = .returned (.slice so L.length sc) ∧ w'.ownsRow w.heap.size 3 1 (.slice so L.length sc) L.length (L.map (Value.int .i64)) ∧ w.grownBy w' none := by
  have HR := hide hr
  clear hr
  go_enter Try.func19, Try.ntmps19
  go_wp2_with fail
  refine (fixBlock ao n cap zs _ (unhide HR) b hb).mono ?_
  rintro e w1 ⟨⟨ys, rfl, hy, hyz⟩, g1⟩
  have HY := hide hy
  have HYZ := hide hyz
  have HG1 := hide g1
  clear hy hyz g1
  cases b with
  | false =>
    have e : L = [] := (unhide HL).symm
    subst e
    go_wp2_with (refine store_row rfl 31 _ _ rfl w1.heap.size rfl (sq ys) rfl #[.int .i64 0, .int .i64 0, .int .i64 0, .int .i64 0, .int .i64 0, .int .i64 0, .int .i64 0, .int .i64 0, .int .i64 0, .int .i64 0, .int .i64 0, .int .i64 0, .int .i64 0, .int .i64 0, .int .i64 0, .int .i64 0, .int .i64 0, .int .i64 0, .int .i64 0, .int .i64 0, .int .i64 0, .int .i64 0, .int .i64 0, .int .i64 0, .int .i64 0, .int .i64 0, .int .i64 0, .int .i64 0, .int .i64 0, .int .i64 0, .int .i64 0, .int .i64 0, .int .i64 0, .int .i64 0, .int .i64 0, .int .i64 0, .int .i64 0, .int .i64 0, .int .i64 0, .int .i64 0, .int .i64 0, .int .i64 0, .int .i64 0, .int .i64 0, .int .i64 0, .int .i64 0, .int .i64 0, .int .i64 0, .int .i64 0, .int .i64 0, .int .i64 0, .int .i64 0, .int .i64 0, .int .i64 0, .int .i64 0, .int .i64 0, .int .i64 0, .int .i64 0, .int .i64 0, .int .i64 0, .int .i64 0, .int .i64 0, .int .i64 0, .int .i64 0] 31 (heap_alloc_new _ _) (by rw [sq_size, unhide HY]; rfl) (by rw [sq_size, unhide HY]; kernel_rfl) (sq_one _) ?_; intro w3 hB3 g3)
    go_ret
    exact ⟨none, 0, rfl, World.ownsRow_nil _ _ _ _, grown_new (grown_alloc (unhide HG1) _) g3 (fun g' e => by simp at e; have := (unhide HG1).size; omega)⟩
  | true =>
    have hz := (nums_at (unhide hb)).1
    have hn : n = 64 := by rw [← (unhide HR).1]; exact hz
    have e : ys = zs := unhide HYZ hn
    subst e
    have e : L = zigged ys := (unhide HL).symm
    subst e
    have hL64 : (zigged ys).length = 64 := made_len _
    have HL64 := hide hL64
    clear hL64
    go_wp2_with (first | (refine store_row rfl 31 _ _ rfl w1.heap.size rfl (sq ys) rfl #[.int .i64 0, .int .i64 0, .int .i64 0, .int .i64 0, .int .i64 0, .int .i64 0, .int .i64 0, .int .i64 0, .int .i64 0, .int .i64 0, .int .i64 0, .int .i64 0, .int .i64 0, .int .i64 0, .int .i64 0, .int .i64 0, .int .i64 0, .int .i64 0, .int .i64 0, .int .i64 0, .int .i64 0, .int .i64 0, .int .i64 0, .int .i64 0, .int .i64 0, .int .i64 0, .int .i64 0, .int .i64 0, .int .i64 0, .int .i64 0, .int .i64 0, .int .i64 0, .int .i64 0, .int .i64 0, .int .i64 0, .int .i64 0, .int .i64 0, .int .i64 0, .int .i64 0, .int .i64 0, .int .i64 0, .int .i64 0, .int .i64 0, .int .i64 0, .int .i64 0, .int .i64 0, .int .i64 0, .int .i64 0, .int .i64 0, .int .i64 0, .int .i64 0, .int .i64 0, .int .i64 0, .int .i64 0, .int .i64 0, .int .i64 0, .int .i64 0, .int .i64 0, .int .i64 0, .int .i64 0, .int .i64 0, .int .i64 0, .int .i64 0, .int .i64 0] 31 (heap_alloc_new _ _) (by rw [sq_size, unhide HY]; rfl) (by rw [sq_size, unhide HY]; kernel_rfl) (sq_one _) ?_; intro w3 hB3 g3; have HB3 := hide hB3; clear hB3) | (refine load_row rfl 31 _ rfl w1.heap.size rfl (sq ys) 31 (unhide HB3) _ Try.underlying31 rfl (by rw [sq_size, unhide HY]; kernel_rfl) ?_))
    have HG3 : Hid (w.grownBy w3 none) := grown_new (grown_alloc (unhide HG1) _) g3 (fun g' e => by simp at e; have := (unhide HG1).size; omega)
    refine (toZig ys (unhide HY) w3).mono ?_
    rintro e w4 ⟨rfl, g4⟩
    go_wp2_with fail
    refine (list (zigged ys) (unhide HL64) w4).mono ?_
    rintro e w5 ⟨v, rfl, ho, g5⟩
    go_wp2
    go_ret
    have G4 := grown_trans (unhide HG3) g4
    rw [← unhide HL64] at ho
    obtain ⟨so, sc, rfl⟩ := own_form ho
    exact ⟨_, _, rfl, own_base ho G4.size, grown_trans G4 g5⟩

set_option maxRecDepth 20000 in
set_option maxHeartbeats 800000 in
theorem implFromZig (ao : Option Addr) (n cap : Nat) (zs : List Int) (w : World) (hr : Rd .i64 w ao n zs) (b : Bool) (hb : Hid (numsB (-32767) 32767 zs = b)) (L : List Int) (HL : Hid ((if b then unzigged zs else []) = L)) :
    Calls Try.prog 21 #[.slice ao n cap] w fun e w' => ∃ so sc, e = .returned (.slice so L.length sc) ∧ w'.ownsRow w.heap.size 3 1 (.slice so L.length sc) L.length (L.map (Value.int .i64)) ∧ w.grownBy w' none := by
  have HR := hide hr
  clear hr
  go_enter Try.func21, Try.ntmps21
  go_wp2_with fail
  refine (fixBlock ao n cap zs _ (unhide HR) b hb).mono ?_
  rintro e w1 ⟨⟨ys, rfl, hy, hyz⟩, g1⟩
  have HY := hide hy
  have HYZ := hide hyz
  have HG1 := hide g1
  clear hy hyz g1
  cases b with
  | false =>
    have e : L = [] := (unhide HL).symm
    subst e
    go_wp2_with (refine store_row rfl 31 _ _ rfl w1.heap.size rfl (sq ys) rfl #[.int .i64 0, .int .i64 0, .int .i64 0, .int .i64 0, .int .i64 0, .int .i64 0, .int .i64 0, .int .i64 0, .int .i64 0, .int .i64 0, .int .i64 0, .int .i64 0, .int .i64 0, .int .i64 0, .int .i64 0, .int .i64 0, .int .i64 0, .int .i64 0, .int .i64 0, .int .i64 0, .int .i64 0, .int .i64 0, .int .i64 0, .int .i64 0, .int .i64 0, .int .i64 0, .int .i64 0, .int .i64 0, .int .i64 0, .int .i64 0, .int .i64 0, .int .i64 0, .int .i64 0, .int .i64 0, .int .i64 0, .int .i64 0, .int .i64 0, .int .i64 0, .int .i64 0, .int .i64 0, .int .i64 0, .int .i64 0, .int .i64 0, .int .i64 0, .int .i64 0, .int .i64 0, .int .i64 0, .int .i64 0, .int .i64 0, .int .i64 0, .int .i64 0, .int .i64 0, .int .i64 0, .int .i64 0, .int .i64 0, .int .i64 0, .int .i64 0, .int .i64 0, .int .i64 0, .int .i64 0, .int .i64 0, .int .i64 0, .int .i64 0, .int .i64 0] 31 (heap_alloc_new _ _) (by rw [sq_size, unhide HY]; rfl) (by rw [sq_size, unhide HY]; kernel_rfl) (sq_one _) ?_; intro w3 hB3 g3)
    go_ret
    exact ⟨none, 0, rfl, World.ownsRow_nil _ _ _ _, grown_new (grown_alloc (unhide HG1) _) g3 (fun g' e => by simp at e; have := (unhide HG1).size; omega)⟩
  | true =>
    have hz := (nums_at (unhide hb)).1
    have hn : n = 64 := by rw [← (unhide HR).1]; exact hz
    have e : ys = zs := unhide HYZ hn
    subst e
    have e : L = unzigged ys := (unhide HL).symm
    subst e
    have hL64 : (unzigged ys).length = 64 := made_len _
    have HL64 := hide hL64
    clear hL64
    go_wp2_with (first | (refine store_row rfl 31 _ _ rfl w1.heap.size rfl (sq ys) rfl #[.int .i64 0, .int .i64 0, .int .i64 0, .int .i64 0, .int .i64 0, .int .i64 0, .int .i64 0, .int .i64 0, .int .i64 0, .int .i64 0, .int .i64 0, .int .i64 0, .int .i64 0, .int .i64 0, .int .i64 0, .int .i64 0, .int .i64 0, .int .i64 0, .int .i64 0, .int .i64 0, .int .i64 0, .int .i64 0, .int .i64 0, .int .i64 0, .int .i64 0, .int .i64 0, .int .i64 0, .int .i64 0, .int .i64 0, .int .i64 0, .int .i64 0, .int .i64 0, .int .i64 0, .int .i64 0, .int .i64 0, .int .i64 0, .int .i64 0, .int .i64 0, .int .i64 0, .int .i64 0, .int .i64 0, .int .i64 0, .int .i64 0, .int .i64 0, .int .i64 0, .int .i64 0, .int .i64 0, .int .i64 0, .int .i64 0, .int .i64 0, .int .i64 0, .int .i64 0, .int .i64 0, .int .i64 0, .int .i64 0, .int .i64 0, .int .i64 0, .int .i64 0, .int .i64 0, .int .i64 0, .int .i64 0, .int .i64 0, .int .i64 0, .int .i64 0] 31 (heap_alloc_new _ _) (by rw [sq_size, unhide HY]; rfl) (by rw [sq_size, unhide HY]; kernel_rfl) (sq_one _) ?_; intro w3 hB3 g3; have HB3 := hide hB3; clear hB3) | (refine load_row rfl 31 _ rfl w1.heap.size rfl (sq ys) 31 (unhide HB3) _ Try.underlying31 rfl (by rw [sq_size, unhide HY]; kernel_rfl) ?_))
    have HG3 : Hid (w.grownBy w3 none) := grown_new (grown_alloc (unhide HG1) _) g3 (fun g' e => by simp at e; have := (unhide HG1).size; omega)
    refine (fromZig ys (unhide HY) w3).mono ?_
    rintro e w4 ⟨rfl, g4⟩
    go_wp2_with fail
    refine (list (unzigged ys) (unhide HL64) w4).mono ?_
    rintro e w5 ⟨v, rfl, ho, g5⟩
    go_wp2
    go_ret
    have G4 := grown_trans (unhide HG3) g4
    rw [← unhide HL64] at ho
    obtain ⟨so, sc, rfl⟩ := own_form ho
    exact ⟨_, _, rfl, own_base ho G4.size, grown_trans G4 g5⟩

theorem unz_setL (zs : List Int) (k : Nat) (h : k < 64) : ((unzTo zs k).map (Value.int .i64)).set (zz k) (.int .i64 (zs.getD k 0)) = (unzTo zs (k + 1)).map (Value.int .i64) := by
  have e := congrArg Array.toList (unz_set zs k h)
  simpa [sq] using e
theorem made_take (f : Nat → Int) (k : Nat) (h : k < 64) (z : Int) (hz : z = f k) : (made f).take k ++ [z] = (made f).take (k + 1) := by
  subst hz
  rw [List.take_add_one]
  have : (made f)[k]? = some (f k) := by simp [made, h]
  rw [this]
  rfl
theorem made_take_all (f : Nat → Int) : (made f).take 64 = made f := List.take_of_length_le (by rw [made_len]; exact Nat.le_refl _)

set_option maxRecDepth 20000 in
set_option maxHeartbeats 1600000 in
theorem specToZig (ao : Option Addr) (n cap : Nat) (zs : List Int) (w : World) (hr : Rd .i64 w ao n zs) (b : Bool) (hb : Hid (numsB (-32767) 32767 zs = b)) (L : List Int) (HL : Hid ((if b then zigged zs else []) = L)) :
    Calls Try.prog 18 #[.slice ao n cap] w fun e w' => ∃ so sc, e = .returned (.slice so L.length sc) ∧ w'.ownsRow w.heap.size 3 1 (.slice so L.length sc) L.length (L.map (Value.int .i64)) ∧ w.grownBy w' none := by
  have HO : Hid ((w.alloc (.cells #[] 3)).ownsRow w.heap.size 3 1 (.slice (some ⟨w.heap.size, 0, none⟩) 0 0) 0 []) := World.ownsRow_lit w #[] 0 (Nat.le_refl _) (by unfold maxLen; omega) rfl
  have HR := hide (hr.grown (World.grownBy_alloc w (.cells #[] 3) none))
  have HN := hide hr.1
  have HLW := hide hr.lt
  clear hr
  go_enter Try.func18, Try.ntmps18
  go_wp2_with fail
  refine (specBlockOk ao n cap zs _ (unhide HR) b hb).mono ?_
  rintro e w1 ⟨rfl, g1⟩
  have HG1 : Hid (w.grownBy w1 none) := grown_trans (World.grownBy_alloc _ _ _) g1
  have HO1 := hide (own_grown (unhide HO) g1)
  have HR1 := hide ((unhide HR).grown g1)
  clear g1 HO HR
  cases b with
  | false =>
    have e : L = [] := (unhide HL).symm
    subst e
    go_wp2
    go_ret
    exact ⟨_, _, rfl, unhide HO1, unhide HG1⟩
  | true =>
    have hz := (nums_at (unhide hb)).1
    have hn : n = 64 := by rw [← unhide HN]; exact hz
    subst hn
    have e : L = zigged zs := (unhide HL).symm
    subst e
    clear HL hb
    have HZ := hide hz
    clear hz
    go_wp2_with fail
    refine (specZigZag w1).mono ?_
    rintro e w2 ⟨zo, zc, rfl, oz, g2⟩
    have hs1 : w.heap.size < w1.heap.size := by have := (unhide HO1).lt w.heap.size rfl; omega
    have HZL : Hid (∀ b off, zo = some ⟨b, off, none⟩ → b ≠ w.heap.size) := by
      intro b off e
      subst e
      have h := (oz.lt b (by simp [Value.ownBlock])).1
      omega
    have HRL : Hid (∀ b off, ao = some ⟨b, off, none⟩ → b ≠ w.heap.size) := by
      intro b off e
      exact Nat.ne_of_lt (unhide HLW (by omega) b off e)
    have HZZ := hide (own_rd oz)
    have HO2 : Hid (OutI w w2 w.heap.size w2 (.slice (some ⟨w.heap.size, 0, none⟩) 0 0) 0 []) := ⟨own_grown (unhide HO1) g2, grown_trans (unhide HG1) g2, World.grownBy.refl _ _, fun g e => by simp [Value.ownBlock] at e; left; exact e.symm⟩
    have HR2 := hide ((unhide HR1).grown g2)
    clear oz g2 HO1 HR1 HG1 hs1
    go_wp2
    go_loopw [3, 5] (fun o i wr => ∃ k : Nat, k ≤ 64 ∧ i = .int .i64 k ∧ Hid (OutI w w2 w.heap.size wr o k ((zigged zs).take k))) (fun _ i _ => 64 - (intOf i).toNat)
    case atStart => exact ⟨0, Nat.zero_le _, rfl, HO2⟩
    case round =>
      obtain ⟨k, hk, rfl, hM⟩ := hrel
      obtain ⟨so2, sc2, rfl⟩ := own_form (unhide hM).own
      by_cases hlt : k < 64
      · obtain ⟨p, hp⟩ : ∃ p, zz k = p := ⟨_, rfl⟩
        have hp64 : p < 64 := by rw [← hp]; exact zz_lt k hlt
        obtain ⟨zb, zoff, rfl, hzc⟩ := (unhide HZZ).2 k (by rw [zz_len]; exact hlt)
        have ez : zzL.getD k 0 = (p : Int) := by rw [← hp]; exact zzF_eq k
        rw [ez] at hzc
        have hzc2 := (unhide hM).kept.cell hzc (fun e => unhide HZL zb zoff rfl (by simpa using e))
        obtain ⟨ab, aoff, rfl, hac⟩ := (unhide HR2).2 p hp64
        have hac2 := (unhide hM).kept.cell hac (fun e => unhide HRL ab aoff rfl (by simpa using e))
        have HV : Hid (zs.getD p 0 = (fun k => zs.getD (zz k) 0) k) := by unfold Hid; rw [← hp]
        have hzl : (zzL.length : Int) = 64 := by rw [zz_len]; rfl
        generalize zs.getD p 0 = z at hac2 HV
        clear hac hzc ez hp
        go_wp2_with (at_builtin; refine append_out rfl _ _ rfl w w2 w.heap.size _ k ((zigged zs).take k) rfl (unhide hM) _ rfl (by omega) ?_; intro v' w' ho)
        go_roundw
        case rel =>
          refine ⟨k + 1, by omega, by go_num, ?_⟩
          unfold zigged at ho
          rw [made_take _ k hlt _ (unhide HV)] at ho
          exact ho
        case measure => simp [intOf]; omega
      · obtain rfl : k = 64 := by omega
        have hM := unhide hM
        have e64 : (zigged zs).length = 64 := made_len _
        unfold zigged at hM
        rw [made_take_all] at hM
        have HM : Hid (OutI w w2 w.heap.size wr (.slice so2 64 sc2) 64 (zigged zs)) := hM
        have HE := hide e64
        clear hM e64
        go_wp2
        go_ret
        exact ⟨so2, sc2, by rw [unhide HE]; rfl, by rw [unhide HE]; exact (unhide HM).own, (unhide HM).base⟩

set_option maxRecDepth 20000 in
set_option maxHeartbeats 1600000 in
theorem specFromZig (ao : Option Addr) (n cap : Nat) (zs : List Int) (w : World) (hr : Rd .i64 w ao n zs) (b : Bool) (hb : Hid (numsB (-32767) 32767 zs = b)) (L : List Int) (HL : Hid ((if b then unzigged zs else []) = L)) :
    Calls Try.prog 20 #[.slice ao n cap] w fun e w' => ∃ so sc, e = .returned (.slice so L.length sc) ∧ w'.ownsRow w.heap.size 3 1 (.slice so L.length sc) L.length (L.map (Value.int .i64)) ∧ w.grownBy w' none := by
  obtain ⟨i0, hi, hz0, hz1, hz2⟩ := info_parts Try.info3
  have HR := hide hr
  have HN := hide hr.1
  have HLW := hide hr.lt
  clear hr
  go_enter Try.func20, Try.ntmps20
  go_wp2_with fail
  refine (specBlockOk ao n cap zs _ (unhide HR) b hb).mono ?_
  rintro e w1 ⟨rfl, g1⟩
  have HG1 := hide g1
  have HR1 := hide ((unhide HR).grown g1)
  clear g1 HR
  cases b with
  | false =>
    have e : L = [] := (unhide HL).symm
    subst e
    go_wp2
    go_ret
    exact ⟨_, _, rfl, own_base (World.ownsRow_lit w1 #[] 0 (Nat.le_refl _) (by unfold maxLen; omega) rfl) (unhide HG1).size, grown_alloc (unhide HG1) _⟩
  | true =>
    have hz := (nums_at (unhide hb)).1
    have hn : n = 64 := by rw [← unhide HN]; exact hz
    subst hn
    have e : L = unzigged zs := (unhide HL).symm
    subst e
    clear HL hb
    have HZ := hide hz
    clear hz
    go_wp2_with (at_make; refine wpList_make_full _ rfl _ _ 22 rfl w1.heap.size 3 i0 (.int .i64 0) 1 Try.underlying22 hi hz0 hz1 .i64 .i64 _ _ 64 rfl rfl rfl rfl (by rw [hz2]; omega) (by unfold maxLen; omega) (Nat.le_refl _) ?_)
    intro w2 hown hgrow
    have hown0 : w2.ownsRow w1.heap.size 3 1 (.slice (some ⟨w1.heap.size, 0, none⟩) 64 64) 64 ((unzTo zs 0).map (Value.int .i64)) := by
      rw [unz_zero]
      have e : (madeCells #[Value.int .i64 0] 64).toList = zs64.map (Value.int .i64) := by rw [toList_madeCells_one]; simp [zs64]
      rw [← e]; exact hown
    have HO2 := hide hown0
    have HG2 := hide (grown_trans (unhide HG1) hgrow)
    have HR2 := hide ((unhide HR1).grown hgrow)
    clear hown hown0 hgrow HR1 hi hz0 hz1 hz2
    go_wp2_with fail
    refine (specZigZag w2).mono ?_
    rintro e w3 ⟨zo, zc, rfl, oz, g3⟩
    have HZZ := hide (own_rd oz)
    have HZL : Hid (∀ b off, zo = some ⟨b, off, none⟩ → b ≠ w1.heap.size) := by
      intro b off e
      subst e
      have h := (oz.lt b (by simp [Value.ownBlock])).1
      have h2 := ((unhide HO2).lt w1.heap.size rfl).2
      omega
    have HRL : Hid (∀ b off, ao = some ⟨b, off, none⟩ → b ≠ w1.heap.size) := by
      intro b off e
      have h := unhide HLW (by omega) b off e
      have := (unhide HG1).size
      omega
    have HO3 := hide (own_grown (unhide HO2) g3)
    have HR3 := hide ((unhide HR2).grown g3)
    have HG3 := hide (grown_trans (unhide HG2) g3)
    clear oz g3 HO2 HR2 HG2
    go_wp2
    go_loopw [5] (fun i wr => ∃ k : Nat, k ≤ 64 ∧ i = .int .i64 k ∧ Hid (wr.ownsRow w1.heap.size 3 1 (.slice (some ⟨w1.heap.size, 0, none⟩) 64 64) 64 ((unzTo zs k).map (Value.int .i64))) ∧ Hid (w3.grownBy wr (some w1.heap.size))) (fun i _ => 64 - (intOf i).toNat)
    case atStart => exact ⟨0, Nat.zero_le _, rfl, HO3, World.grownBy.refl _ _⟩
    case round =>
      obtain ⟨k, hk, rfl, hM, hgk⟩ := hrel
      by_cases hlt : k < 64
      · obtain ⟨p, hp⟩ : ∃ p, zz k = p := ⟨_, rfl⟩
        have hp64 : p < 64 := by rw [← hp]; exact zz_lt k hlt
        obtain ⟨zb, zoff, rfl, hzc⟩ := (unhide HZZ).2 k (by rw [zz_len]; exact hlt)
        have ez : zzL.getD k 0 = (p : Int) := by rw [← hp]; exact zzF_eq k
        rw [ez] at hzc
        have hzc2 := (unhide hgk).cell hzc (fun e => unhide HZL zb zoff rfl (by simpa using e))
        obtain ⟨ab, aoff, rfl, hac⟩ := (unhide HR3).2 k hlt
        have hac2 := (unhide hgk).cell hac (fun e => unhide HRL ab aoff rfl (by simpa using e))
        have hzl : (zzL.length : Int) = 64 := by rw [zz_len]; rfl
        have hold : ∃ u, wr.cell? ⟨w1.heap.size, p, none⟩ = some u := by rw [(unhide hM).cellAt p (by omega)]; exact ⟨_, List.getElem?_eq_getElem (by rw [(unhide hM).1]; omega)⟩
        obtain ⟨u, hu⟩ := hold
        have hfr := (unhide hM).frozenAt p
        have HST : Hid ((wr.setCell ⟨w1.heap.size, p, none⟩ (.int .i64 (zs.getD k 0))).drew.ownsRow w1.heap.size 3 1 (.slice (some ⟨w1.heap.size, 0, none⟩) 64 64) 64 ((unzTo zs (k + 1)).map (Value.int .i64)) ∧ w3.grownBy (wr.setCell ⟨w1.heap.size, p, none⟩ (.int .i64 (zs.getD k 0))).drew (some w1.heap.size)) := by
          have st := (unhide hM).stored p (.int .i64 (zs.getD k 0))
          rw [← hp, unz_setL zs k hlt] at st
          rw [← hp]
          exact ⟨st.1, grown_drew (grown_trans (unhide hgk) st.2)⟩
        generalize zs.getD k 0 = z at hac2 HST
        clear ez hp hac hzc
        have hpI : (p : Int) < 64 := by omega
        have HZN : Hid (zb ≠ w1.heap.size) := unhide HZL zb zoff rfl
        have HAN : Hid (ab ≠ w1.heap.size) := unhide HRL ab aoff rfl
        go_wp2
        refine wp_region_noPanic ?_
        refine wp_region_tail (fun w' => w'.cell? ⟨zb, zoff + k, none⟩ = some (.int .i64 (p : Int)) ∧ w'.cell? ⟨ab, aoff + k, none⟩ = some (.int .i64 z)) [true, true, true, true, true, true, true, true, true, false, false] (by kernel_rfl) (fun _ _ _ _ _ h => h) rfl (by kernel_rfl) ⟨hzc2, hac2⟩ ?_
        iterate 9
          refine heldF_take (v := ?_) (Or.inl ⟨by rfl, ?_⟩) ?_
          rotate_left 1
          · intro w' hSw
            try dsimp only at hSw
            go_simp
            try with_reducible rfl
          simp only [Act.put, List.setIfInBounds_toArray, List.set_cons_zero, List.set_cons_succ]
        refine heldF_skip (heldF_skip (heldF_nil ?_))
        iterate 9 refine tailF_skip ?_
        refine tailF_step (fun K hK => ?_)
        go_simp
        refine hK.out _ _ ⟨hzc2, hac2⟩ ?_
        clear hK K
        refine tailF_step (fun K hK => ?_)
        go_simp
        refine hK.out _ _ ⟨(World.cell?_setCell_far _ _ _ _ (fun e => unhide HZN e.symm)).trans hzc2, (World.cell?_setCell_far _ _ _ _ (fun e => unhide HAN e.symm)).trans hac2⟩ ?_
        clear hK K
        refine tailF_nil (NoPanic.normal ?_)
        go_wp2
        go_roundw
        case rel => exact ⟨k + 1, by omega, by go_num, (unhide HST).1, (unhide HST).2⟩
        case measure => simp [intOf]; omega
      · obtain rfl : k = 64 := by omega
        have hM := unhide hM
        rw [unz_all] at hM
        have HM := hide hM
        have HE : Hid ((unzigged zs).length = 64) := made_len _
        clear hM
        go_wp2
        go_ret
        exact ⟨_, _, by rw [unhide HE]; rfl, by rw [unhide HE]; exact own_base (unhide HM) (unhide HG1).size, grown_new (unhide HG3) (unhide hgk) (fun g e => by simp at e; have := (unhide HG1).size; omega)⟩

end Go.Proofs.Ytjccngpipfmmbaj
