/-
  Blocks as rows of waves, and back: the program and the specification.
-/
import Derived.Test.YtjccngpipfmmbabTabZig2
import Derived.Test.YtjccngpipfmmbabTabZigSpec
import Derived.Test.YtjccngpipfmmbabTabSpec
import Derived.Test.YtjccngpipfmmbabHeldTail
namespace Go.Proofs.Ytjccngpipfmmbab
open Go.RowKit

set_option maxRecDepth 20000 in
set_option maxHeartbeats 800000 in
theorem implToZig (ao : Option Addr) (n cap : Nat) (zs : List Int) (w : World) (hr : Rd .i64 w ao n zs) (b : Bool) (hb : Hid (numsB (-32767) 32767 zs = b)) (L : List Int) (HL : Hid ((if b then zigged zs else []) = L)) :
    Calls Try.prog 8 #[.slice ao n cap] w fun e w' => ∃ so sc, e = .returned (.slice so L.length sc) ∧ w'.ownsRow w.heap.size 3 1 (.slice so L.length sc) L.length (L.map (Value.int .i64)) ∧ w.grownBy w' none := by
  have HR := hide hr
  clear hr
  go_enter Try.func8, Try.ntmps8
  go_wp2_with fail
  refine (fixBlock ao n cap zs _ (unhide HR) b hb).mono ?_
  rintro e w1 ⟨⟨ys, rfl, hy, hyz⟩, g1⟩
  have HY := hide hy
  have HYZ := hide hyz
  have HG1 := hide g1
  clear hy hyz g1
  cases b with
  | false =>
    have e : L = [] := (unhide HL).symm
    subst e
    go_wp2_with (refine store_row rfl 39 _ _ rfl w1.heap.size rfl (sq ys) rfl #[.int .i64 0, .int .i64 0, .int .i64 0, .int .i64 0, .int .i64 0, .int .i64 0, .int .i64 0, .int .i64 0, .int .i64 0, .int .i64 0, .int .i64 0, .int .i64 0, .int .i64 0, .int .i64 0, .int .i64 0, .int .i64 0, .int .i64 0, .int .i64 0, .int .i64 0, .int .i64 0, .int .i64 0, .int .i64 0, .int .i64 0, .int .i64 0, .int .i64 0, .int .i64 0, .int .i64 0, .int .i64 0, .int .i64 0, .int .i64 0, .int .i64 0, .int .i64 0, .int .i64 0, .int .i64 0, .int .i64 0, .int .i64 0, .int .i64 0, .int .i64 0, .int .i64 0, .int .i64 0, .int .i64 0, .int .i64 0, .int .i64 0, .int .i64 0, .int .i64 0, .int .i64 0, .int .i64 0, .int .i64 0, .int .i64 0, .int .i64 0, .int .i64 0, .int .i64 0, .int .i64 0, .int .i64 0, .int .i64 0, .int .i64 0, .int .i64 0, .int .i64 0, .int .i64 0, .int .i64 0, .int .i64 0, .int .i64 0, .int .i64 0, .int .i64 0] 39 (heap_alloc_new _ _) (by rw [sq_size, unhide HY]; rfl) (by rw [sq_size, unhide HY]; kernel_rfl) (sq_one _) ?_; intro w3 hB3 g3)
    go_ret
    exact ⟨none, 0, rfl, World.ownsRow_nil _ _ _ _, grown_new (grown_alloc (unhide HG1) _) g3 (fun g' e => by simp at e; have := (unhide HG1).size; omega)⟩
  | true =>
    have hz := (nums_at (unhide hb)).1
    have hn : n = 64 := by rw [← (unhide HR).1]; exact hz
    have e : ys = zs := unhide HYZ hn
    subst e
    have e : L = zigged ys := (unhide HL).symm
    subst e
    have hL64 : (zigged ys).length = 64 := made_len _
    have HL64 := hide hL64
    clear hL64
    go_wp2_with (first | (refine store_row rfl 39 _ _ rfl w1.heap.size rfl (sq ys) rfl #[.int .i64 0, .int .i64 0, .int .i64 0, .int .i64 0, .int .i64 0, .int .i64 0, .int .i64 0, .int .i64 0, .int .i64 0, .int .i64 0, .int .i64 0, .int .i64 0, .int .i64 0, .int .i64 0, .int .i64 0, .int .i64 0, .int .i64 0, .int .i64 0, .int .i64 0, .int .i64 0, .int .i64 0, .int .i64 0, .int .i64 0, .int .i64 0, .int .i64 0, .int .i64 0, .int .i64 0, .int .i64 0, .int .i64 0, .int .i64 0, .int .i64 0, .int .i64 0, .int .i64 0, .int .i64 0, .int .i64 0, .int .i64 0, .int .i64 0, .int .i64 0, .int .i64 0, .int .i64 0, .int .i64 0, .int .i64 0, .int .i64 0, .int .i64 0, .int .i64 0, .int .i64 0, .int .i64 0, .int .i64 0, .int .i64 0, .int .i64 0, .int .i64 0, .int .i64 0, .int .i64 0, .int .i64 0, .int .i64 0, .int .i64 0, .int .i64 0, .int .i64 0, .int .i64 0, .int .i64 0, .int .i64 0, .int .i64 0, .int .i64 0, .int .i64 0] 39 (heap_alloc_new _ _) (by rw [sq_size, unhide HY]; rfl) (by rw [sq_size, unhide HY]; kernel_rfl) (sq_one _) ?_; intro w3 hB3 g3; have HB3 := hide hB3; clear hB3) | (refine load_row rfl 39 _ rfl w1.heap.size rfl (sq ys) 39 (unhide HB3) _ Try.underlying39 rfl (by rw [sq_size, unhide HY]; kernel_rfl) ?_))
    have HG3 : Hid (w.grownBy w3 none) := grown_new (grown_alloc (unhide HG1) _) g3 (fun g' e => by simp at e; have := (unhide HG1).size; omega)
    refine (toZig ys (unhide HY) w3).mono ?_
    rintro e w4 ⟨rfl, g4⟩
    go_wp2_with fail
    refine (list (zigged ys) (unhide HL64) w4).mono ?_
    rintro e w5 ⟨v, rfl, ho, g5⟩
    go_wp2
    go_ret
    have G4 := grown_trans (unhide HG3) g4
    rw [← unhide HL64] at ho
    obtain ⟨so, sc, rfl⟩ := own_form ho
    exact ⟨_, _, rfl, own_base ho G4.size, grown_trans G4 g5⟩

set_option maxRecDepth 20000 in
set_option maxHeartbeats 800000 in
theorem implFromZig (ao : Option Addr) (n cap : Nat) (zs : List Int) (w : World) (hr : Rd .i64 w ao n zs) (b : Bool) (hb : Hid (numsB (-32767) 32767 zs = b)) (L : List Int) (HL : Hid ((if b then unzigged zs else []) = L)) :
    Calls Try.prog 14 #[.slice ao n cap] w fun e w' => ∃ so sc, e = .returned (.slice so L.length sc) ∧ w'.ownsRow w.heap.size 3 1 (.slice so L.length sc) L.length (L.map (Value.int .i64)) ∧ w.grownBy w' none := by
  have HR := hide hr
  clear hr
  go_enter Try.func14, Try.ntmps14
  go_wp2_with fail
  refine (fixBlock ao n cap zs _ (unhide HR) b hb).mono ?_
  rintro e w1 ⟨⟨ys, rfl, hy, hyz⟩, g1⟩
  have HY := hide hy
  have HYZ := hide hyz
  have HG1 := hide g1
  clear hy hyz g1
  cases b with
  | false =>
    have e : L = [] := (unhide HL).symm
    subst e
    go_wp2_with (refine store_row rfl 39 _ _ rfl w1.heap.size rfl (sq ys) rfl #[.int .i64 0, .int .i64 0, .int .i64 0, .int .i64 0, .int .i64 0, .int .i64 0, .int .i64 0, .int .i64 0, .int .i64 0, .int .i64 0, .int .i64 0, .int .i64 0, .int .i64 0, .int .i64 0, .int .i64 0, .int .i64 0, .int .i64 0, .int .i64 0, .int .i64 0, .int .i64 0, .int .i64 0, .int .i64 0, .int .i64 0, .int .i64 0, .int .i64 0, .int .i64 0, .int .i64 0, .int .i64 0, .int .i64 0, .int .i64 0, .int .i64 0, .int .i64 0, .int .i64 0, .int .i64 0, .int .i64 0, .int .i64 0, .int .i64 0, .int .i64 0, .int .i64 0, .int .i64 0, .int .i64 0, .int .i64 0, .int .i64 0, .int .i64 0, .int .i64 0, .int .i64 0, .int .i64 0, .int .i64 0, .int .i64 0, .int .i64 0, .int .i64 0, .int .i64 0, .int .i64 0, .int .i64 0, .int .i64 0, .int .i64 0, .int .i64 0, .int .i64 0, .int .i64 0, .int .i64 0, .int .i64 0, .int .i64 0, .int .i64 0, .int .i64 0] 39 (heap_alloc_new _ _) (by rw [sq_size, unhide HY]; rfl) (by rw [sq_size, unhide HY]; kernel_rfl) (sq_one _) ?_; intro w3 hB3 g3)
    go_ret
    exact ⟨none, 0, rfl, World.ownsRow_nil _ _ _ _, grown_new (grown_alloc (unhide HG1) _) g3 (fun g' e => by simp at e; have := (unhide HG1).size; omega)⟩
  | true =>
    have hz := (nums_at (unhide hb)).1
    have hn : n = 64 := by rw [← (unhide HR).1]; exact hz
    have e : ys = zs := unhide HYZ hn
    subst e
    have e : L = unzigged ys := (unhide HL).symm
    subst e
    have hL64 : (unzigged ys).length = 64 := made_len _
    have HL64 := hide hL64
    clear hL64
    go_wp2_with (first | (refine store_row rfl 39 _ _ rfl w1.heap.size rfl (sq ys) rfl #[.int .i64 0, .int .i64 0, .int .i64 0, .int .i64 0, .int .i64 0, .int .i64 0, .int .i64 0, .int .i64 0, .int .i64 0, .int .i64 0, .int .i64 0, .int .i64 0, .int .i64 0, .int .i64 0, .int .i64 0, .int .i64 0, .int .i64 0, .int .i64 0, .int .i64 0, .int .i64 0, .int .i64 0, .int .i64 0, .int .i64 0, .int .i64 0, .int .i64 0, .int .i64 0, .int .i64 0, .int .i64 0, .int .i64 0, .int .i64 0, .int .i64 0, .int .i64 0, .int .i64 0, .int .i64 0, .int .i64 0, .int .i64 0, .int .i64 0, .int .i64 0, .int .i64 0, .int .i64 0, .int .i64 0, .int .i64 0, .int .i64 0, .int .i64 0, .int .i64 0, .int .i64 0, .int .i64 0, .int .i64 0, .int .i64 0, .int .i64 0, .int .i64 0, .int .i64 0, .int .i64 0, .int .i64 0, .int .i64 0, .int .i64 0, .int .i64 0, .int .i64 0, .int .i64 0, .int .i64 0, .int .i64 0, .int .i64 0, .int .i64 0, .int .i64 0] 39 (heap_alloc_new _ _) (by rw [sq_size, unhide HY]; rfl) (by rw [sq_size, unhide HY]; kernel_rfl) (sq_one _) ?_; intro w3 hB3 g3; have HB3 := hide hB3; clear hB3) | (refine load_row rfl 39 _ rfl w1.heap.size rfl (sq ys) 39 (unhide HB3) _ Try.underlying39 rfl (by rw [sq_size, unhide HY]; kernel_rfl) ?_))
    have HG3 : Hid (w.grownBy w3 none) := grown_new (grown_alloc (unhide HG1) _) g3 (fun g' e => by simp at e; have := (unhide HG1).size; omega)
    refine (fromZig ys (unhide HY) w3).mono ?_
    rintro e w4 ⟨rfl, g4⟩
    go_wp2_with fail
    refine (list (unzigged ys) (unhide HL64) w4).mono ?_
    rintro e w5 ⟨v, rfl, ho, g5⟩
    go_wp2
    go_ret
    have G4 := grown_trans (unhide HG3) g4
    rw [← unhide HL64] at ho
    obtain ⟨so, sc, rfl⟩ := own_form ho
    exact ⟨_, _, rfl, own_base ho G4.size, grown_trans G4 g5⟩

theorem unz_setL (zs : List Int) (k : Nat) (h : k < 64) : ((unzTo zs k).map (Value.int .i64)).set (zz k) (.int .i64 (zs.getD k 0)) = (unzTo zs (k + 1)).map (Value.int .i64) := by
  have e := congrArg Array.toList (unz_set zs k h)
  simpa [sq] using e

set_option maxRecDepth 20000 in
set_option maxHeartbeats 1600000 in
theorem specToZig (ao : Option Addr) (n cap : Nat) (zs : List Int) (w : World) (hr : Rd .i64 w ao n zs) (b : Bool) (hb : Hid (numsB (-32767) 32767 zs = b)) (L : List Int) (HL : Hid ((if b then zigged zs else []) = L)) :
    Calls Try.prog 11 #[.slice ao n cap] w fun e w' => ∃ so sc, e = .returned (.slice so L.length sc) ∧ w'.ownsRow w.heap.size 3 1 (.slice so L.length sc) L.length (L.map (Value.int .i64)) ∧ w.grownBy w' none := by
  have HO : Hid ((w.alloc (.cells #[] 3)).ownsRow w.heap.size 3 1 (.slice (some ⟨w.heap.size, 0, none⟩) 0 0) 0 []) := World.ownsRow_lit w #[] 0 (Nat.le_refl _) (by unfold maxLen; omega) rfl
  have HR := hide (hr.grown (World.grownBy_alloc w (.cells #[] 3) none))
  have HN := hide hr.1
  have HLW := hide hr.lt
  clear hr
  go_enter Try.func11, Try.ntmps11
  go_wp2_with fail
  refine (specBlockOk ao n cap zs _ (unhide HR) b hb).mono ?_
  rintro e w1 ⟨rfl, g1⟩
  have HG1 : Hid (w.grownBy w1 none) := grown_trans (World.grownBy_alloc _ _ _) g1
  have HO1 := hide (own_grown (unhide HO) g1)
  have HR1 := hide ((unhide HR).grown g1)
  clear g1 HO HR
  cases b with
  | false =>
    have e : L = [] := (unhide HL).symm
    subst e
    go_wp2
    go_ret
    exact ⟨_, _, rfl, unhide HO1, unhide HG1⟩
  | true =>
    have hz := (nums_at (unhide hb)).1
    have hn : n = 64 := by rw [← unhide HN]; exact hz
    subst hn
    have e : L = zigged zs := (unhide HL).symm
    subst e
    clear HL hb
    have HZ := hide hz
    clear hz
    go_wp2_with fail
    refine (specZigZag w1).mono ?_
    rintro e w2 ⟨zo, zc, rfl, oz, g2⟩
    have hs1 : w.heap.size < w1.heap.size := by have := (unhide HO1).lt w.heap.size rfl; omega
    have HZL : Hid (∀ b off, zo = some ⟨b, off, none⟩ → b ≠ w.heap.size) := by
      intro b off e
      subst e
      have h := (oz.lt b (by simp [Value.ownBlock])).1
      omega
    have HRL : Hid (∀ b off, ao = some ⟨b, off, none⟩ → b ≠ w.heap.size) := by
      intro b off e
      exact Nat.ne_of_lt (unhide HLW (by omega) b off e)
    have HZZ := hide (own_rd oz)
    have HO2 : Hid (OutI w w2 w.heap.size w2 (.slice (some ⟨w.heap.size, 0, none⟩) 0 0) 0 []) := ⟨own_grown (unhide HO1) g2, grown_trans (unhide HG1) g2, World.grownBy.refl _ _, fun g e => by simp [Value.ownBlock] at e; left; exact e.symm⟩
    have HR2 := hide ((unhide HR1).grown g2)
    clear oz g2 HO1 HR1 HG1 hs1
    go_wp2
    go_loopw [3, 5] (fun o i wr => ∃ k : Nat, k ≤ 64 ∧ i = .int .i64 k ∧ Hid (OutI w w2 w.heap.size wr o k ((zigged zs).take k))) (fun _ i _ => 64 - (intOf i).toNat)
    case atStart => exact ⟨0, Nat.zero_le _, rfl, HO2⟩
    case round =>
      obtain ⟨k, hk, rfl, hM⟩ := hrel
      obtain ⟨so2, sc2, rfl⟩ := own_form (unhide hM).own
      by_cases hlt : k < 64
      · obtain ⟨p, hp⟩ : ∃ p, zz k = p := ⟨_, rfl⟩
        have hp64 : p < 64 := by rw [← hp]; exact zz_lt k hlt
        obtain ⟨zb, zoff, rfl, hzc⟩ := (unhide HZZ).2 k (by rw [zz_len]; exact hlt)
        have ez : zzL.getD k 0 = (p : Int) := by rw [← hp]; exact zzF_eq k
        rw [ez] at hzc
        have hzc2 := (unhide hM).kept.cell hzc (fun e => unhide HZL zb zoff rfl (by simpa using e))
        obtain ⟨ab, aoff, rfl, hac⟩ := (unhide HR2).2 p hp64
        have hac2 := (unhide hM).kept.cell hac (fun e => unhide HRL ab aoff rfl (by simpa using e))
        have HV : Hid (zs.getD p 0 = (fun k => zs.getD (zz k) 0) k) := by unfold Hid; rw [← hp]
        have hzl : (zzL.length : Int) = 64 := by rw [zz_len]; rfl
        generalize zs.getD p 0 = z at hac2 HV
        clear hac hzc ez hp
        go_wp2_with (at_builtin; refine append_out rfl _ _ rfl w w2 w.heap.size _ k ((zigged zs).take k) rfl (unhide hM) _ rfl (by omega) ?_; intro v' w' ho)
        go_roundw
        case rel =>
          refine ⟨k + 1, by omega, by go_num, ?_⟩
          unfold zigged at ho
          rw [made_take _ k hlt _ (unhide HV)] at ho
          exact ho
        case measure => simp [intOf]; omega
      · obtain rfl : k = 64 := by omega
        have hM := unhide hM
        have e64 : (zigged zs).length = 64 := made_len _
        unfold zigged at hM
        rw [made_take_all] at hM
        have HM : Hid (OutI w w2 w.heap.size wr (.slice so2 64 sc2) 64 (zigged zs)) := hM
        have HE := hide e64
        clear hM e64
        go_wp2
        go_ret
        exact ⟨so2, sc2, by rw [unhide HE]; rfl, by rw [unhide HE]; exact (unhide HM).own, (unhide HM).base⟩

end Go.Proofs.Ytjccngpipfmmbab
