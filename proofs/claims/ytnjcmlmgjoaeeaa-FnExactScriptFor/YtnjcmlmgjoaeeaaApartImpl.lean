/-
  Scans of each component by itself, in the program.
-/
import Derived.Test.YtnjcmlmgjoaeeaaTogetherImpl
namespace Go.Proofs.Ytnjcmlmgjoaeeaa
open Go.RowKit

def apG (T : List Scn) (c : Int) : List Scn := T.map fun a => ⟨[c], a.fr, a.to, a.hi, a.lo⟩
theorem apG_len (T : List Scn) (c : Int) : (apG T c).length = T.length := by simp [apG]
def apTo (n : Nat) (T : List Scn) (i j : Nat) : List Scn := ((allC n).take i).flatMap (apG T) ++ (apG T i).take j
theorem apTo_next (n : Nat) (T : List Scn) (i j : Nat) (hj : j < T.length) : apTo n T i j ++ [⟨[(i : Int)], T[j].fr, T[j].to, T[j].hi, T[j].lo⟩] = apTo n T i (j + 1) := by
  unfold apTo
  rw [List.append_assoc, List.take_succ_eq_append_getElem (show j < (apG T i).length by rw [apG_len]; exact hj)]
  simp [apG]
theorem apTo_all (n : Nat) (T : List Scn) (i : Nat) (hi : i < n) : apTo n T i T.length = apTo n T (i + 1) 0 := by
  unfold apTo
  have e : (apG T (i : Int)).take T.length = apG T (i : Int) := List.take_of_length_le (by rw [apG_len]; exact Nat.le_refl _)
  rw [e, eachC_next n i hi (apG T), List.take_zero, List.append_nil]
theorem apTo_end (n : Nat) (T : List Scn) : apTo n T n 0 = eachC n (apG T) := by
  unfold apTo eachC
  rw [List.take_of_length_le (by simp [allC]), List.take_zero, List.append_nil]
theorem flat_lenA (T : List Scn) : ∀ l : List Int, (l.flatMap (apG T)).length = l.length * T.length
  | [] => by simp
  | c :: l => by rw [List.flatMap_cons, List.length_append, flat_lenA T l, apG_len, List.length_cons, Nat.add_mul, Nat.one_mul, Nat.add_comm]
theorem apTo_len (n : Nat) (T : List Scn) (i j : Nat) (hi : i ≤ n) (hj : j ≤ T.length) : (apTo n T i j).length = i * T.length + j := by
  unfold apTo
  rw [List.length_append, flat_lenA, List.length_take, List.length_take, apG_len]
  have : (allC n).length = n := by simp [allC]
  rw [this, Nat.min_eq_left hi, Nat.min_eq_left hj]

/-- A list of scans while it is made. -/
structure Ap (w wr : World) (v : Value) (R : List Scn) (F : List Nat) : Prop where
  own : OwSs wr v R F
  nd : F.Nodup
  lo : ∀ g ∈ F, w.heap.size + 1 ≤ g
  grown : w.grownBy wr none
theorem OwG.headA {α : Type} {e : TypeId} {sz : Nat} {P : World → (Nat → Value) → α → List Nat → Prop} {w : World} {v : Value} {L : List α} {F : List Nat} (h : OwG e sz P w v L F) : ∀ x ∈ blk v, x ∈ F := by
  obtain ⟨U, Fs, _, _, _, rfl⟩ := h
  intro x hx
  simp [hx]

set_option maxRecDepth 20000 in
set_option maxHeartbeats 3200000 in
theorem apart (X : Array Value) (n : Nat) (hX : Cnt X n) (v : Value) (T : List Scn) (w : World) (hT : RdSs w v T) (hTl : T.length ≤ 100) (L : List Scn) (HL : Hid (eachC n (apG T) = L)) :
    Calls Try.prog 70 #[.agg X, v] w fun e w' => ∃ u F, e = .returned u ∧ OwSs w' u L F ∧ F.Nodup ∧ (∀ g ∈ F, w.heap.size ≤ g) ∧ w.grownBy w' none := by
  have hn := hX.n4
  obtain ⟨to', tc, rfl, hTr⟩ := hT
  have b0 := heap_alloc_new w (.cells X 71)
  have c4 : (w.alloc (.cells X 71)).cell? ⟨w.heap.size, 4, none⟩ = some (.int .i64 n) := by rw [cell_of_row _ _ 4 _ _ (0, 0) b0]; exact hX.c4
  have HTR := hide hTr
  have HA0 : Hid (Ap w (w.alloc (.cells X 71)) (.slice none 0 0) (apTo n T 0 0) []) := ⟨OwG.nil _ _ _ _, by simp, fun g hg => by simp at hg, World.grownBy_alloc _ _ _⟩
  obtain ⟨m, HML⟩ : ∃ m, Hid (T.length = m) := ⟨_, rfl⟩
  have hm : m ≤ 100 := by rw [← unhide HML]; exact hTl
  rw [unhide HML]
  clear b0 hX hTr hTl
  go_enter Try.func70, Try.ntmps70
  go_wp2
  clear c4
  go_loopw [5, 11] (fun ov iv wr => ∃ (i : Nat) (vo : Option Addr) (vn vc : Nat) (F : List Nat), i ≤ n ∧ iv = .int .i64 i ∧ ov = .slice vo vn vc ∧ Hid (Ap w wr (.slice vo vn vc) (apTo n T i 0) F)) (fun _ iv _ => n - (intOf iv).toNat)
  case atStart => exact ⟨0, _, _, _, [], Nat.zero_le _, rfl, rfl, HA0⟩
  case round =>
    clear HA0
    obtain ⟨i, vo, vn, vc, F, hi, rfl, rfl, hA⟩ := hrel
    by_cases hlt : i < n
    · have hd : decide ((i : Int) < (n : Int)) = true := decide_eq_true (by omega)
      go_wp2
      go_loopw [5, 16] (fun ov jv wr => ∃ (j : Nat) (vo : Option Addr) (vn vc : Nat) (F : List Nat), j ≤ m ∧ jv = .int .i64 j ∧ ov = .slice vo vn vc ∧ Hid (Ap w wr (.slice vo vn vc) (apTo n T i j) F)) (fun _ jv _ => m - (intOf jv).toNat)
      case atStart => exact ⟨0, _, _, _, F, Nat.zero_le _, rfl, rfl, hA⟩
      case round =>
        clear hA
        obtain ⟨j, vo, vn, vc, F, hj, rfl, rfl, hA⟩ := hrel
        by_cases hjl : j < m
        · have hd2 : decide ((j : Int) < (m : Int)) = true := decide_eq_true (by omega)
          have hd3 : (j : Int) < (m : Int) := by omega
          have j0 : (0 : Int) ≤ (j : Int) := by omega
          have hjT : j < T.length := by rw [unhide HML]; exact hjl
          obtain ⟨sb, soff, cf, rfl, hcell, hsc, co, cc, ec, _⟩ := unhide HTR j hjT
          have HNX := hide (apTo_next n T i j hjT)
          have HLEN := hide (apTo_len n T i j hi (by omega))
          generalize T[j] = a at hsc HNX ec
          obtain ⟨cs, fr, to, hi', lo⟩ := a
          obtain ⟨k0, k1, k2, k3, k4⟩ := rowScan (fun q hq => (unhide hA).grown.cell (hcell q hq) (by simp)) hsc
          dsimp only at k1 k2 k3 k4 HNX
          generalize List.length _ = cn at ec
          rw [ec] at k0
          clear hcell hsc ec
          obtain ⟨R, HRR⟩ : ∃ R, Hid (apTo n T i (j + 1) = R) := ⟨_, rfl⟩
          rw [unhide HRR] at HNX
          have hs1 : (wr.alloc (.cells #[(.slice (some ⟨wr.heap.size + 1, 0, none⟩) 1 1), .int .i64 fr, .int .i64 to, .int .i64 hi', .int .i64 lo] 38)).heap.size = wr.heap.size + 1 := by simp
          have gA : wr.grownBy ((wr.alloc (.cells #[(.slice (some ⟨wr.heap.size + 1, 0, none⟩) 1 1), .int .i64 fr, .int .i64 to, .int .i64 hi', .int .i64 lo] 38)).alloc (.cells #[.int .i64 (i : Int)] 3)) none := grown_alloc (grown_alloc (World.grownBy.refl _ _) _) _
          have HB3 : Hid (((wr.alloc (.cells #[(.slice (some ⟨wr.heap.size + 1, 0, none⟩) 1 1), .int .i64 fr, .int .i64 to, .int .i64 hi', .int .i64 lo] 38)).alloc (.cells #[.int .i64 (i : Int)] 3)).heap[wr.heap.size]? = some (.cells #[(.slice (some ⟨wr.heap.size + 1, 0, none⟩) 1 1), .int .i64 fr, .int .i64 to, .int .i64 hi', .int .i64 lo] 38 (0, 0))) := at_rowS (World.grownBy_alloc _ _ none) (heap_alloc_new wr _) (by simp)
          have HOR : Hid (((wr.alloc (.cells #[(.slice (some ⟨wr.heap.size + 1, 0, none⟩) 1 1), .int .i64 fr, .int .i64 to, .int .i64 hi', .int .i64 lo] 38)).alloc (.cells #[.int .i64 (i : Int)] 3)).ownsRow 0 3 1 (.slice (some ⟨wr.heap.size + 1, 0, none⟩) 1 1) 1 [.int .i64 (i : Int)]) := by
            have h := World.ownsRow_lit (wr.alloc (.cells #[(.slice (some ⟨wr.heap.size + 1, 0, none⟩) 1 1), .int .i64 fr, .int .i64 to, .int .i64 hi', .int .i64 lo] 38)) (e := 3) (size := 1) (base := 0) #[.int .i64 (i : Int)] 1 (Nat.zero_le _) (by unfold maxLen; omega) rfl
            rw [hs1] at h
            exact h
          have HU : Hid (∀ q (h : q < [(⟨[(i : Int)], fr, to, hi', lo⟩ : Scn)].length), OwScE ((wr.alloc (.cells #[(.slice (some ⟨wr.heap.size + 1, 0, none⟩) 1 1), .int .i64 fr, .int .i64 to, .int .i64 hi', .int .i64 lo] 38)).alloc (.cells #[.int .i64 (i : Int)] 3)) (five (.slice (some ⟨wr.heap.size + 1, 0, none⟩) 1 1) (.int .i64 fr) (.int .i64 to) (.int .i64 hi') (.int .i64 lo)) [(⟨[(i : Int)], fr, to, hi', lo⟩ : Scn)][q] ([[wr.heap.size + 1]].getD q [])) := fun q h => by
            obtain rfl : q = 0 := by simpa using h
            exact ⟨⟨rfl, rfl, rfl, rfl⟩, unhide HOR, rfl⟩
          have HO3 := hide (OwSs.ok.keep (unhide hA).own gA)
          have HD : Hid (∀ x ∈ [[wr.heap.size + 1]].flatten, x ∉ F) := fun x hx h => by
            have := OwSs.ok.lt _ _ _ _ (unhide hA).own x h
            simp at hx
            omega
          have HSZ : Hid (((wr.alloc (.cells #[(.slice (some ⟨wr.heap.size + 1, 0, none⟩) 1 1), .int .i64 fr, .int .i64 to, .int .i64 hi', .int .i64 lo] 38)).alloc (.cells #[.int .i64 (i : Int)] 3)).heap.size = wr.heap.size + 1 + 1) := by unfold Hid; simp
          obtain ⟨z0, z1, z2, z3, z4⟩ := scanCells (unhide HB3)
          have HGA := hide gA
          have HLB : Hid ((apTo n T i j).length + 1 ≤ 1000000) := by
            unfold Hid
            rw [unhide HLEN, unhide HML]
            have : i * m ≤ 4 * 100 := Nat.mul_le_mul (by omega) hm
            omega
          clear gA hs1 HLEN
          go_wp2_with (at_builtin; refine append_rowsG OwScE.ok Try.underlying27 info_scan rfl (by decide) (by decide) rfl _ _ rfl (.slice vo vn vc) (apTo n T i j) F rfl (unhide HO3) (unhide hA).nd #[(.slice (some ⟨wr.heap.size + 1, 0, none⟩) 1 1), .int .i64 fr, .int .i64 to, .int .i64 hi', .int .i64 lo] 1 (fun _ => five (.slice (some ⟨wr.heap.size + 1, 0, none⟩) 1 1) (.int .i64 fr) (.int .i64 to) (.int .i64 hi') (.int .i64 lo)) rfl [⟨[(i : Int)], fr, to, hi', lo⟩] rfl [[wr.heap.size + 1]] rfl (unhide HU) (by simp) (unhide HD) (by intro u hu; simp at hu; rcases hu with rfl | rfl | rfl | rfl | rfl <;> rfl) (wr.heap.size + 1 + 1) (unhide HSZ) rfl (unhide HLB) R (unhide HNX) ?_)
          intro v5 w5 F5 o5 n5 m5 wr5
          have HA5 : Hid (Ap w w5 v5 (apTo n T i (j + 1)) F5) := by
            have hws := (unhide hA).grown.size
            rw [unhide HRR]
            refine ⟨o5, n5, fun x hx => ?_, ?_⟩
            · rcases m5 x hx with h | h | h
              · exact (unhide hA).lo x h
              · omega
              · omega
            · exact Wr.new (grown_trans (unhide hA).grown (unhide HGA)) wr5 (fun x hx => by have := (unhide hA).lo x ((unhide hA).own.headA x hx); omega)
          obtain ⟨vo5, vc5, rfl⟩ := o5.form
          clear o5 n5 m5 wr5 HU HO3 HD HSZ z0 z1 z2 z3 z4 HGA HLB HOR HB3 k0 k1 k2 k3 k4 hA HNX HRR
          go_wp2
          go_roundw
          case rel => exact ⟨j + 1, vo5, _, vc5, F5, by omega, by go_num, rfl, HA5⟩
          case measure => simp [intOf]; omega
        · obtain rfl : j = m := by omega
          have hd2 : decide ((j : Int) < (j : Int)) = false := decide_eq_false (by omega)
          have HA5 : Hid (Ap w wr (.slice vo vn vc) (apTo n T (i + 1) 0) F) := by
            unfold Hid
            rw [← apTo_all n T i hlt, unhide HML]
            exact unhide hA
          go_wp2
          go_roundw
          case rel => exact ⟨i + 1, vo, vn, vc, F, by omega, by go_num, rfl, HA5⟩
          case measure => simp [intOf]; omega
    · obtain rfl : n = i := by omega
      have hd : decide ((n : Int) < (n : Int)) = false := decide_eq_false (by omega)
      rw [apTo_end, unhide HL] at hA
      go_wp2
      go_ret
      exact ⟨_, F, rfl, (unhide hA).own, (unhide hA).nd, fun g hg => by have := (unhide hA).lo g hg; omega, (unhide hA).grown⟩

end Go.Proofs.Ytnjcmlmgjoaeeaa
