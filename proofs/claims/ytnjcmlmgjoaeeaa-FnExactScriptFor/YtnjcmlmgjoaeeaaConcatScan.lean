/-
  slices.Concat of rows of scans, in the program.
-/
import Derived.Test.YtnjcmlmgjoaeeaaScanTo
import Derived.Test.YtnjcmlmgjoaeeaaTreeGA
import Derived.Lib.AppendZerosOnto
import Derived.Lib.Walk
namespace Go.Proofs.Ytnjcmlmgjoaeeaa
open Go.RowKit

set_option maxHeartbeats 1600000 in
theorem growScan (k : Nat) (hk : 0 < k) (hk2 : k ≤ 100000) (w : World) :
    Calls Try.prog 81 #[.slice none 0 0, .int .i64 k] w fun e w' => ∃ so sc, e = .returned (.slice so 0 sc) ∧ w'.ownsRow w.heap.size 38 5 (.slice so 0 sc) 0 [] ∧ w.grownBy w' none := by
  obtain ⟨i0, hi, hz0, hz1, hz2⟩ := info_parts info_scan
  have hold : (Builtin.firstCells i0.size 0 (.slice none 0 0)).run Try.prog w.drew = .ok ([] : List Value).toArray w.drew := run_firstCells_none w.drew i0.size 0 0 0
  obtain ⟨z, hz⟩ : ∃ z : Value, z = .agg #[.slice none 0 0, .int .i64 0, .int .i64 0, .int .i64 0, .int .i64 0] := ⟨_, rfl⟩
  rw [← hz] at hz0
  have hzc : z.cells.size = 5 := by rw [hz]; rfl
  have hrz : ∀ ty, (Builtin.append_ #[27, 3] ty #[.slice none 0 0, .int .i64 (k : Int)]).run Try.prog w =
      .ok (.slice (some ⟨w.heap.size, 0, none⟩) k (grownCap w k 0 38)) (w.drew.alloc (.cells (([] : List Value).toArray ++ Builtin.zeroCells z.cells k ++ Builtin.zeroCells z.cells (grownCap w k 0 38 - k)) 38)) := fun ty => by
    have h := Lib.run_append_grow_zeros w 27 3 ty 38 i0 z .i64 .i64 Try.underlying27 Try.underlying3 hi hz0 none 0 0 [] hold k hk (by rw [hz1]; omega) (by omega) (by omega) (by rw [hz2]; omega) (by rw [hz2]; exact growslice_fits (by omega) (by omega))
    simpa using h
  have hge := grownCap_ge w k 0 38
  have hle := grownCap_le_maxLen w k 0 38 (by unfold maxLen; omega)
  obtain ⟨G, hG⟩ : ∃ G, G = grownCap w k 0 38 := ⟨_, rfl⟩
  rw [← hG] at hrz hge hle
  unfold maxLen at hle
  obtain ⟨cs, hcs⟩ : ∃ cs, ([] : List Value).toArray ++ Builtin.zeroCells z.cells k ++ Builtin.zeroCells z.cells (G - k) = cs := ⟨_, rfl⟩
  have hsz : cs.size = G * 5 := by rw [← hcs]; simp [size_zeroCells, hzc]; omega
  rw [hcs] at hrz
  have HF : Hid ((w.drew.alloc (.cells cs 38)).ownsRow w.heap.size 38 5 (.slice (some ⟨w.heap.size, 0, none⟩) 0 G) 0 [] ∧ w.grownBy (w.drew.alloc (.cells cs 38)) none) := by
    refine ⟨⟨by simp, .inr ⟨w.heap.size, G, cs, rfl, Nat.le_refl _, heap_alloc_new w.drew _, by omega, by unfold maxLen; omega, hsz, by simp⟩⟩, grown_alloc (grown_drew (World.grownBy.refl _ _)) _⟩
  have hG0 : ¬ G = 0 := by omega
  have h1 : ¬ ((k : Int) < 0) := by omega
  have h4 : (0 : Int) < (k : Int) := by omega
  have e1 := i64_in ((k : Int)) (by omega)
  clear hold hG hcs hsz hi hz0 hz1 hz2 hz hzc
  go_enter Try.func81, Try.ntmps81
  go_wp2_with (at_builtin; refine Lib.wpList_append_run _ rfl _ _ _ _ rfl _ _ rfl rfl _ _ (hrz _) ?_)
  go_ret
  exact ⟨_, _, rfl, (unhide HF).1, (unhide HF).2⟩

/-- A row that is copied: how many scans, and their cells. -/
structure Src (w : World) (v : Value) (p : Nat × List Value) : Prop where
  at' : ∃ b cap, v = .slice (some ⟨b, 0, none⟩) p.1 cap ∧ ∀ j u, p.2[j]? = some u → w.cell? ⟨b, j, none⟩ = some u
  len : p.2.length = p.1 * 5
  one : ∀ u ∈ p.2, u.oneCell' = true
theorem Src.grown {w w' : World} {v : Value} {p : Nat × List Value} (h : Src w v p) (g : w.grownBy w' none) : Src w' v p := by
  obtain ⟨b, cap, e, hc⟩ := h.at'
  exact ⟨⟨b, cap, e, fun j u hu => g.cell (hc j u hu) (by simp)⟩, h.len, h.one⟩
def sumC (ps : List (Nat × List Value)) : Nat → Nat
  | 0 => 0
  | i + 1 => sumC ps i + (ps.getD i (0, [])).1
def rowC (ps : List (Nat × List Value)) : Nat → List Value
  | 0 => []
  | i + 1 => rowC ps i ++ (ps.getD i (0, [])).2
theorem sumC_le (ps : List (Nat × List Value)) (m N : Nat) (h : ∀ i, i < N → (ps.getD i (0, [])).1 ≤ m) : ∀ i, i ≤ N → sumC ps i ≤ i * m
  | 0, _ => by simp [sumC]
  | i + 1, hi => by
    have h1 := sumC_le ps m N h i (by omega)
    have h2 := h i (by omega)
    simp only [sumC, Nat.add_mul, Nat.one_mul]
    omega
theorem sumC_mono (ps : List (Nat × List Value)) : ∀ i j, i ≤ j → sumC ps i ≤ sumC ps j := by
  intro i j h
  induction j with
  | zero => obtain rfl : i = 0 := by omega
            exact Nat.le_refl _
  | succ j ih =>
    by_cases e : i = j + 1
    · rw [e]; exact Nat.le_refl _
    · have := ih (by omega)
      simp only [sumC]
      omega

set_option maxRecDepth 20000 in
set_option maxHeartbeats 3200000 in
theorem concatScan (g N : Nat) (vs : List Value) (ps : List (Nat × List Value)) (hp : 0 < sumC ps N) (hps : N ≤ 100) (hm : ∀ i, i < N → (ps.getD i (0, [])).1 ≤ 100) (w : World) (hc : ∀ i, i < N → w.cell? ⟨g, i, none⟩ = some (vs.getD i undef)) (hS : ∀ i, i < N → Src w (vs.getD i undef) (ps.getD i (0, []))) :
    Calls Try.prog 71 #[.slice (some ⟨g, 0, none⟩) N N] w fun e w' => ∃ u, e = .returned u ∧ w'.ownsRow w.heap.size 38 5 u (sumC ps N) (rowC ps N) ∧ w.grownBy w' none := by
  have HC := hide hc
  have HSS := hide hS
  have HM := hide (sumC_le ps 100 N hm)
  have hmx : N * 100 ≤ 100 * 100 := Nat.mul_le_mul hps (Nat.le_refl _)
  clear hc hS hm
  go_enter Try.func71, Try.ntmps71
  go_wp2
  go_loopw [3, 11] (fun s iv wr => ∃ i : Nat, i ≤ N ∧ iv = .int .i64 i ∧ s = .int .i64 (sumC ps i : Nat) ∧ wr = w) (fun _ iv _ => N - (intOf iv).toNat)
  case atStart => exact ⟨0, Nat.zero_le _, rfl, rfl, rfl⟩
  case round =>
    obtain ⟨i, hi, rfl, rfl, rfl⟩ := hrel
    by_cases hlt : i < N
    · have hd : decide ((i : Int) < (N : Int)) = true := decide_eq_true (by omega)
      have hd3 : (i : Int) < (N : Int) := by omega
      have i0 : (0 : Int) ≤ (i : Int) := by omega
      obtain ⟨b, cap, ev, _⟩ := (unhide HSS i hlt).at'
      have ci := unhide HC i hlt
      rw [ev] at ci
      have hmi := unhide HM (i + 1) (by omega)
      have hmi2 : (i + 1) * 100 ≤ 100 * 100 := Nat.mul_le_mul (by omega) (Nat.le_refl _)
      have es : sumC ps (i + 1) = sumC ps i + (ps.getD i (0, [])).1 := rfl
      obtain ⟨c, hcn⟩ : ∃ c, (ps.getD i (0, [])).1 = c := ⟨_, rfl⟩
      obtain ⟨s, hsn⟩ : ∃ s, sumC ps i = s := ⟨_, rfl⟩
      rw [hcn, hsn] at es
      rw [es] at hmi
      rw [hcn] at ci
      have ESS := hide es
      have e1 := i64_in (((s : Nat) : Int) + ((c : Nat) : Int)) (by omega)
      have h1 : decide (((s : Nat) : Int) + ((c : Nat) : Int) < 0) = false := decide_eq_false (by omega)
      rw [hsn]
      clear es ev hmi hmi2 hcn hsn
      go_wp2
      go_roundw
      case rel => exact ⟨i + 1, by omega, by go_num, by rw [unhide ESS]; go_num, trivial⟩
      case measure => simp [intOf]; omega
    · obtain rfl : i = N := by omega
      have hd : decide ((i : Int) < (i : Int)) = false := decide_eq_false (by omega)
      have hmi := unhide HM i (Nat.le_refl _)
      obtain ⟨T, HTT⟩ : ∃ T, Hid (sumC ps i = T) := ⟨_, rfl⟩
      rw [unhide HTT] at hp hmi ⊢
      have HG := hide (growScan T hp (by omega) wr)
      have HRC : Hid (∀ j, j ≤ i → (rowC ps j).length = sumC ps j * 5) := fun j hj => by
        induction j with
        | zero => rfl
        | succ j ih =>
          have h := (unhide HSS j (by omega)).len
          simp only [rowC, sumC, List.length_append, Nat.add_mul]
          rw [ih (by omega), h]
      have HMN : Hid (∀ j, j ≤ i → sumC ps j ≤ T) := fun j hj => by rw [← unhide HTT]; exact sumC_mono ps j i hj
      obtain ⟨i0, hi0, hz0, hz1, hz2⟩ := info_parts info_scan
      have HI0 := hide hi0
      have HZ0 := hide hz0
      have HZ1 := hide hz1
      have HZ2 := hide hz2
      clear hi0 hz0 hz1 hz2
      go_wp2_with fail
      refine (unhide HG).mono ?_
      rintro e w1 ⟨so, sc, rfl, o1, g1⟩
      have HO1 := hide o1
      have HG1 := hide g1
      clear o1 g1 HG hd
      go_wp2
      obtain ⟨wo, rfl⟩ : ∃ wo, wo = wr := ⟨wr, rfl⟩
      go_loopw [6, 27] (fun v jv wq => ∃ j : Nat, j ≤ i ∧ jv = .int .i64 j ∧ Hid (wq.ownsRow wo.heap.size 38 5 v (sumC ps j) (rowC ps j)) ∧ Hid (wo.grownBy wq none)) (fun _ jv _ => i - (intOf jv).toNat)
      case atStart => exact ⟨0, Nat.zero_le _, rfl, HO1, HG1⟩
      case round =>
        clear HO1 HG1
        obtain ⟨j, hj, rfl, ho, hg⟩ := hrel
        obtain ⟨uo, uc, rfl⟩ := own_form (unhide ho)
        by_cases hlt : j < i
        · have hd : decide ((j : Int) < (i : Int)) = true := decide_eq_true (by omega)
          have hd3 : (j : Int) < (i : Int) := by omega
          have j0 : (0 : Int) ≤ (j : Int) := by omega
          have hsr := (unhide HSS j hlt).grown (unhide hg)
          obtain ⟨b, cap, ev, hnews⟩ := hsr.at'
          have cj := (unhide hg).cell (unhide HC j hlt) (by simp)
          rw [ev] at cj
          have HLE := hide hsr.len
          have HON := hide hsr.one
          have HNW : Hid (∀ q u, (ps.getD j (0, [])).2[q]? = some u → wr.cell? ((⟨b, 0, none⟩ : Addr).add q) = some u) := fun q u hu => by
            have h := hnews q u hu
            by_cases e : q = 0
            · subst e; simpa [Addr.add] using h
            · simpa [Addr.add, e] using h
          have hmj := unhide HMN (j + 1) (by omega)
          have es : sumC ps (j + 1) = sumC ps j + (ps.getD j (0, [])).1 := rfl
          have er : rowC ps (j + 1) = rowC ps j ++ (ps.getD j (0, [])).2 := rfl
          obtain ⟨c, hcn⟩ : ∃ c, (ps.getD j (0, [])).1 = c := ⟨_, rfl⟩
          obtain ⟨rw', hrw⟩ : ∃ r, (ps.getD j (0, [])).2 = r := ⟨_, rfl⟩
          obtain ⟨s, hsn⟩ : ∃ s, sumC ps j = s := ⟨_, rfl⟩
          rw [hcn, hsn] at es
          rw [hrw] at er
          rw [es] at hmj
          rw [hcn] at cj HLE
          rw [hrw] at HNW HLE HON
          rw [hsn] at ho ⊢
          have ESS := hide es
          have ERR := hide er
          have hgs := (unhide hg).size
          clear es er ev hnews hcn hrw hsr
          go_wp2_with (at_builtin; refine wpList_append_own_at _ rfl _ _ 27 rfl wo.heap.size 38 i0 _ 5 56 Try.underlying27 (unhide HI0) (unhide HZ0) (unhide HZ1) (unhide HZ2) rfl (by decide) (.slice uo s uc) s _ rfl (unhide ho) ⟨b, 0, none⟩ c cap rw' rfl (unhide HLE) (unhide HNW) (unhide HON) (by unfold maxLen; omega) (by omega) hgs ?_)
          intro v5 w5 o5 g5 _ _
          have HO5 : Hid (w5.ownsRow wo.heap.size 38 5 v5 (sumC ps (j + 1)) (rowC ps (j + 1))) := by unfold Hid; rw [unhide ESS, unhide ERR]; exact o5
          have HG5 := hide (grown_new (unhide hg) g5 (fun q e => ((unhide ho).lt q e).1))
          clear o5 g5 ho hg cj HNW HLE HON
          go_wp2
          go_roundw
          case rel => exact ⟨j + 1, by omega, by go_num, HO5, HG5⟩
          case measure => simp [intOf]; omega
        · obtain rfl : j = i := by omega
          have hd : decide ((j : Int) < (j : Int)) = false := decide_eq_false (by omega)
          go_wp2
          go_ret
          exact ⟨_, rfl, unhide ho, unhide hg⟩

end Go.Proofs.Ytnjcmlmgjoaeeaa
