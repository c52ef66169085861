/-
  The law that bits that are always the same are cheap, whatever EncodeBins of the program does, if it answers as the specification.
-/
import Derived.Test.YtemfonnkaddmfaaBinRows
import Derived.Test.YtemfonnkaddmfaaSame
import Derived.Test.YtemfonnkaddmfaaLawAid
namespace Go.Proofs.Ytemfonnkaddmfaa
open Go.RowKit

set_option maxRecDepth 20000 in
set_option maxHeartbeats 800000 in
theorem lawCheap_in (HI : ImplEnc) (ao : Option Addr) (n cap : Nat) (zs : List Int) (w : World) (hr : Rd .u8 w ao n zs) (hb : ∀ i, 0 ≤ zs.getD i 0 ∧ zs.getD i 0 ≤ 255) (hn : n ≤ 1048576) :
    Calls Try.prog 4 #[.slice ao n cap] w fun e w' => e = .returned (.bool true) ∧ Below w.heap.size w w' := by
  have HR := hide hr
  have HB := hide hb
  have HII := hide HI
  clear hr hb HI
  go_enter Try.func4, Try.ntmps4
  go_wp2_with fail
  refine (lawBig ao n cap false w (by unfold Hid; simp; omega)).mono ?_
  rintro e w0 ⟨rfl, rfl⟩
  go_wp2_with fail
  refine (lawPick ao n cap 0 3001 zs w (unhide HR) (unhide HB) hn (by omega) (by omega) (by omega)).mono ?_
  rintro e w1 ⟨⟨x, rfl, hx0, hx1⟩, rfl⟩
  obtain ⟨M, rfl⟩ := Int.eq_ofNat_of_zero_le hx0
  have G1 : w.grownBy (w.alloc (.cells #[] 30)) none := World.grownBy_alloc _ _ _
  have O1 : (w.alloc (.cells #[] 30)).ownsRow w.heap.size 30 2 (.slice (some ⟨w.heap.size, 0, none⟩) 0 0) 0 (flat []) := World.ownsRow_lit w #[] 0 (Nat.le_refl _) (by unfold maxLen; omega) rfl
  have HR1 := hide ((unhide HR).grown G1)
  have HG1 := hide G1
  have HO1 := hide O1
  clear G1 O1
  obtain ⟨w1, HW1⟩ : ∃ w1, Hid (w.alloc (.cells #[] 30) = w1) := ⟨_, rfl⟩
  go_wp2_with fail
  rw [unhide HW1] at HR1 HG1 HO1 ⊢
  refine (lawPick ao n cap 1 400 zs w1 (unhide HR1) (unhide HB) hn (by omega) (by omega) (by omega)).mono ?_
  rintro e w2 ⟨⟨y, rfl, hy0, hy1⟩, rfl⟩
  obtain ⟨c, rfl⟩ := Int.eq_ofNat_of_zero_le hy0
  go_wp2_with fail
  refine (lawPick ao n cap 2 2 zs w1 (unhide HR1) (unhide HB) hn (by omega) (by omega) (by omega)).mono ?_
  rintro e w2 ⟨⟨z, rfl, hz0, hz1⟩, rfl⟩
  obtain ⟨b, rfl⟩ := Int.eq_ofNat_of_zero_le hz0
  go_wp2
  go_loopw [4, 7] (fun v i wr => ∃ j : Nat, j ≤ M ∧ i = .int .i64 j ∧ Hid (wr.ownsRow w.heap.size 30 2 v (List.replicate j ((c : Int), (b : Int))).length (flat (List.replicate j ((c : Int), (b : Int))))) ∧ Hid (w.grownBy wr none)) (fun _ i _ => M - (intOf i).toNat)
  case atStart => exact ⟨0, Nat.zero_le _, rfl, HO1, HG1⟩
  case round =>
    clear HO1 HG1 HR1
    obtain ⟨j, hj, rfl, ho, hg⟩ := hrel
    obtain ⟨so, sc, rfl⟩ := own_form (unhide ho)
    obtain ⟨L, HL⟩ : ∃ L, Hid (List.replicate j ((c : Int), (b : Int)) = L) := ⟨_, rfl⟩
    have HLL : Hid (L.length = j) := by unfold Hid; rw [← unhide HL]; simp
    rw [unhide HL] at ho ⊢
    by_cases hlt : j < M
    · have hd : decide ((j : Int) < (M : Int)) = true := decide_eq_true (by omega)
      have hgs := (unhide hg).size
      have HLB : Hid (L.length ≤ 1000000) := by have := unhide HLL; unfold Hid; omega
      obtain ⟨R, HRR⟩ : ∃ R, Hid (L ++ [((c : Int), (b : Int))] = R) := ⟨_, rfl⟩
      have HRE : Hid (R = List.replicate (j + 1) ((c : Int), (b : Int))) := by unfold Hid; rw [← unhide HRR, ← unhide HL, List.replicate_succ']
      go_wp2_with (at_builtin; refine append_bin rfl _ _ rfl w.heap.size (.slice so L.length sc) L rfl (unhide ho) (c : Int) (b : Int) _ rfl rfl (unhide HLB) hgs R (unhide HRR) ?_)
      intro v7 w7 o7 g7
      obtain ⟨so7, sc7, rfl⟩ := own_form o7
      have HG7 := hide (grown_new (unhide hg) g7 (fun k e => ((unhide ho).lt k e).1))
      have HO7 : Hid (w7.ownsRow w.heap.size 30 2 (.slice so7 R.length sc7) (List.replicate (j + 1) ((c : Int), (b : Int))).length (flat (List.replicate (j + 1) ((c : Int), (b : Int))))) := by unfold Hid; rw [← unhide HRE]; exact o7
      clear o7 g7 ho hg hgs
      go_wp2
      go_roundw
      case rel => exact ⟨j + 1, by omega, by go_num, HO7, HG7⟩
      case measure => simp [intOf]; omega
    · obtain rfl : j = M := by omega
      have hch := cheap_len j c b (by omega) (by omega)
      rw [unhide HL] at hch
      have HRL : Hid (RdF wr so L.length L) := own_rdF (unhide ho)
      have hel := enc_len L
      obtain ⟨E, HE⟩ : ∃ E, Hid (encG L = E) := ⟨_, rfl⟩
      rw [unhide HE] at hch hel
      have HEL := hide hel
      have HCH := hide hch
      clear ho hel hch
      go_wp2_with fail
      refine (unhide HII so L.length sc L wr (unhide HRL) (by have := unhide HLL; omega)).mono ?_
      rw [unhide HE]
      rintro e w3 ⟨bo, bc, rfl, o3, g3⟩
      have HB3 : Hid (Rd .u8 w3 bo E.length E) := own_rd o3
      have HR3 := hide ((unhide HRL).grown g3)
      have HG3 := hide (grown_trans (unhide hg) g3)
      clear o3 g3 HRL hg
      go_wp2_with fail
      refine (specEncode so L.length sc L w3 (unhide HR3)).mono ?_
      rw [unhide HE]
      rintro e w4 ⟨co, cc, rfl, o4, g4⟩
      have HC4 : Hid (Rd .u8 w4 co E.length E) := own_rd o4
      have HB4 := hide ((unhide HB3).grown g4)
      have HG4 := hide (grown_trans (unhide HG3) g4)
      clear o4 g4 HB3 HG3 HR3
      go_wp2_with fail
      refine (sameBytes bo co E.length bc cc E w4 (unhide HB4) (unhide HC4) (by have := unhide HLL; have := unhide HEL; omega)).mono ?_
      rintro e w5 ⟨rfl, g5⟩
      have HF := hide (grown_below (grown_trans (unhide HG4) g5))
      have hch := unhide HCH
      have e1 : (j : Int).tdiv 64 = ((j / 64 : Nat) : Int) := tdivN j 64
      obtain ⟨q, hq⟩ : ∃ q, j / 64 = q := ⟨_, rfl⟩
      rw [hq] at e1 hch
      have e2 := i64_in ((q : Nat) : Int) (by omega)
      have e3 := i64_in (24 + (q : Int)) (by omega)
      have hd5 : decide ((E.length : Int) ≤ 24 + (q : Int)) = true := decide_eq_true (by omega)
      clear g5 HG4 HC4 HB4
      go_wp2
      go_ret
      exact ⟨rfl, unhide HF⟩

set_option maxRecDepth 20000 in
theorem lawCheap (HI : ImplEnc) (ao : Option Addr) (n cap : Nat) (zs : List Int) (w : World) (hr : Rd .u8 w ao n zs) (hb : ∀ i, 0 ≤ zs.getD i 0 ∧ zs.getD i 0 ≤ 255) :
    Calls Try.prog 4 #[.slice ao n cap] w fun e w' => e = .returned (.bool true) ∧ Below w.heap.size w w' := by
  by_cases hn : n ≤ 1048576
  · exact lawCheap_in HI ao n cap zs w hr hb hn
  · clear hr hb
    go_enter Try.func4, Try.ntmps4
    go_wp2_with fail
    refine (lawBig ao n cap true w (by unfold Hid; simp; omega)).mono ?_
    rintro e w0 ⟨rfl, rfl⟩
    go_wp2
    go_ret
    exact ⟨rfl, grown_below (World.grownBy.refl _ _)⟩

end Go.Proofs.Ytemfonnkaddmfaa
