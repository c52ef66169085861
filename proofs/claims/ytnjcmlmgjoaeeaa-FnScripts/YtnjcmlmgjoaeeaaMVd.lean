/-
  ScriptFor, ScriptFor2, Cur, CurOnce, CurOdd, BlockDraw, ScriptDraw, AppRdI.
-/
import Derived.Test.YtnjcmlmgjoaeeaaRows
import Derived.Deep.QuietTactic
import Derived.BigQuiet
import Derived.Outline
import Derived.Deep.AppendLies
import Derived.Laws.AppendOwnNone
import Derived.Maps.AppendAt
import Derived.Test.YtnjcmlmgjoaeeaaMVc

namespace Go.Proofs.Ytnjcmlmgjoaeeaa
open Go.RowKit

/-- A script while it is made, beside the frame and the list of all components. -/
structure Sf (w wr : World) (fx : Array Value) (v av : Value) (X : List Scn) (A : List Int) (F : List Nat) : Prop where
  own : OwSs wr v X F
  nd : F.Nodup
  lo : ∀ g ∈ F, w.heap.size + 1 ≤ g
  al : wr.ownsRow (w.heap.size + 1) 3 1 av A.length (A.map (Value.int .i64))
  na : ∀ g, av.ownBlock = some g → g ∉ F
  fr : wr.heap[w.heap.size]? = some (.cells fx 26 (0, 0))
  grown : w.grownBy wr none
theorem Sf.new {w wr w' : World} {fx : Array Value} {v av : Value} {X : List Scn} {A : List Int} {F : List Nat} (h : Sf w wr fx v av X A F) (g : wr.grownBy w' none) : Sf w w' fx v av X A F :=
  ⟨OwSs.ok.keep h.own g, h.nd, h.lo, own_grown h.al g, h.na, at_rowS g h.fr (by simp), grown_trans h.grown g⟩
theorem Sf.size {w wr : World} {fx : Array Value} {v av : Value} {X : List Scn} {A : List Int} {F : List Nat} (h : Sf w wr fx v av X A F) : w.heap.size + 1 ≤ wr.heap.size := (Array.getElem?_eq_some_iff.1 h.fr).1
theorem Sf.blkF {w wr : World} {fx : Array Value} {v av : Value} {X : List Scn} {A : List Int} {F : List Nat} (h : Sf w wr fx v av X A F) : ∀ g, v.ownBlock = some g → g ∈ F := fun g e => by
  obtain ⟨U, Fs, _, _, _, e9⟩ := h.own
  rw [e9]; simp [mem_blk.2 e]
/-- Scans come behind. -/
theorem Sf.push {w wr wn w' : World} {fx : Array Value} {v v' av : Value} {X R : List Scn} {A : List Int} {F F' G : List Nat} (h : Sf w wr fx v av X A F) (gn : wr.grownBy wn none) (o : OwSs w' v' R F') (nd : F'.Nodup) (hm : ∀ x ∈ F', x ∈ F ∨ x ∈ G ∨ wn.heap.size ≤ x) (hG : ∀ x ∈ G, wr.heap.size ≤ x) (g : Wr (blk v) wn w') : Sf w w' fx v' av R A F' := by
  have hs := h.size
  have gs := gn.size
  have hr : wn.grownBy w' v.ownBlock := ⟨g.os, g.tape, g.output, g.size, fun k hk hne => g.block k hk (fun e => hne (mem_blk.1 e).symm)⟩
  have hk := h.new gn
  refine ⟨o, nd, fun x hx => ?_, own_beneath hk.al hr (fun p q h1 h2 e => by subst e; exact h.na p h1 (h.blkF p h2)), fun x hx hx2 => ?_, at_rowS hr hk.fr (fun e => by have := h.lo _ (h.blkF _ e); omega), grown_new hk.grown hr (fun k e => by have := h.lo _ (h.blkF _ e); omega)⟩
  · rcases hm x hx with h1 | h1 | h1
    · exact h.lo x h1
    · have := hG x h1; omega
    · omega
  · have hl := (h.al.lt x hx).2
    rcases hm x hx2 with h1 | h1 | h1
    · exact h.na x hx h1
    · have := hG x h1; omega
    · omega

theorem row1 (u a b c d : Value) : (#[u, a, b, c, d] : Array Value).toList = rowsK 1 5 (fun _ => five u a b c d) := rfl

theorem Sf.more {w wr w' : World} {fx : Array Value} {v av av' : Value} {X : List Scn} {A A' : List Int} {F : List Nat} (h : Sf w wr fx v av X A F) (o : w'.ownsRow (w.heap.size + 1) 3 1 av' A'.length (A'.map (Value.int .i64))) (g : wr.grownBy w' av.ownBlock) (hat : av'.ownBlock = av.ownBlock ∨ ∀ g, av'.ownBlock = some g → wr.heap.size ≤ g) : Sf w w' fx v av' X A' F := by
  refine ⟨OwSs.ok.wr h.own (Wr.ofRow (F := blk av) g (fun x e => mem_blk.2 e)) (fun x hx e => h.na x (mem_blk.1 e) hx), h.nd, h.lo, o, fun x hx hx2 => ?_, at_rowS g h.fr (fun e => by have := (h.al.lt _ e).1; omega), grown_new h.grown g (fun k e => by have := (h.al.lt _ e).1; omega)⟩
  rcases hat with h1 | h1
  · exact h.na x (by rw [← h1]; exact hx) hx2
  · have h2 := h1 x hx
    have h3 := OwSs.ok.lt _ _ _ _ h.own x hx2
    omega
theorem allC_next (n i : Nat) (h : i < n) : (allC n).take i ++ [(i : Int)] = (allC n).take (i + 1) := by
  have hl : i < (allC n).length := by simp [allC]; exact h
  rw [List.take_succ_eq_append_getElem hl]
  simp [allC]
theorem eachC_next (n i : Nat) (h : i < n) (f : Int → List Scn) : ((allC n).take i).flatMap f ++ f (i : Int) = ((allC n).take (i + 1)).flatMap f := by
  rw [← allC_next n i h, List.flatMap_append]
  simp

set_option maxRecDepth 20000 in
set_option maxHeartbeats 3200000 in
theorem specScript01 (p wd ht rs : Int) (fo : Option Addr) (n fc : Nat) (C : Nat → Nat → Int) (w : World) (hr : RdC w fo n C) (kind : Int) (fb : Bool) (HFB : Hid (frameB p wd ht rs n C = fb)) (L : List Scn) (HL : Hid (scriptG fb n kind = L)) (hk2 : Hid (kind ≠ 2)) :
    Calls Try.prog 12 #[.agg #[.int .i64 p, .int .i64 wd, .int .i64 ht, .int .i64 rs, .slice fo n fc], .int .i64 kind] w fun e w' => ∃ u F, e = .returned u ∧ OwSs w' u L F ∧ F.Nodup ∧ (∀ g ∈ F, w.heap.size ≤ g) ∧ w.grownBy w' none := by
  have hn4 : fb = true → n ≤ 4 := fun e => by have := unhide HFB; rw [e] at this; exact (geo_of this).n4
  obtain ⟨W2, HW2⟩ : ∃ W2, Hid ((w.alloc (.cells #[.int .i64 p, .int .i64 wd, .int .i64 ht, .int .i64 rs, .slice fo n fc] 26)).alloc (.cells #[] 38) = W2) := ⟨_, rfl⟩
  have G0 : w.grownBy W2 none := by rw [← unhide HW2]; exact grown_alloc (grown_alloc (World.grownBy.refl _ _) _) _
  have B0 : W2.heap[w.heap.size]? = some (.cells #[.int .i64 p, .int .i64 wd, .int .i64 ht, .int .i64 rs, .slice fo n fc] 26 (0, 0)) := by
    rw [← unhide HW2]
    exact at_rowS (World.grownBy_alloc _ _ none) (heap_alloc_new w _) (by simp)
  have O0 : W2.ownsRow (w.heap.size + 1) 38 5 (.slice (some ⟨w.heap.size + 1, 0, none⟩) 0 0) 0 [] := by
    rw [← unhide HW2]
    have := World.ownsRow_lit (w.alloc (.cells #[.int .i64 p, .int .i64 wd, .int .i64 ht, .int .i64 rs, .slice fo n fc] 26)) (e := 38) (size := 5) (base := w.heap.size + 1) #[] 0 (by simp) (by unfold maxLen; omega) rfl
    simpa using this
  have OS : OwSs W2 (.slice (some ⟨w.heap.size + 1, 0, none⟩) 0 0) [] [w.heap.size + 1] := ⟨fun _ _ => .slice none 0 0, [], rfl, own_base O0 (Nat.zero_le _), fun i hi => absurd hi (by simp), rfl⟩
  have HFR := hide (specFrameOk p wd ht rs fo n fc C W2 (hr.grown G0) fb HFB)
  have HB0 := hide B0
  have HG0 := hide G0
  have HOS := hide OS
  rw [← unhide HW2] at B0
  obtain ⟨f0, f1, f2, f3, f4⟩ := frameCells' B0
  have HN4 := hide hn4
  clear hr G0 B0 O0 OS hn4
  go_enter Try.func12, Try.ntmps12
  go_wp2_with fail
  rw [unhide HW2]
  clear HW2 f0 f1 f2 f3 f4
  refine (unhide HFR).mono ?_
  rintro e w3 ⟨rfl, g3⟩
  have HG3 := hide (grown_trans (unhide HG0) g3)
  have HO3 := hide (OwSs.ok.keep (unhide HOS) g3)
  have HB3 := hide (at_rowS g3 (unhide HB0) (by simp))
  have HNIL : Hid (∀ W, w3.grownBy W none → L = [] → OwSs W (.slice (some ⟨w.heap.size + 1, 0, none⟩) 0 0) L [w.heap.size + 1] ∧ w.grownBy W none) := fun W g e => by subst e; exact ⟨OwSs.ok.keep (unhide HO3) g, grown_trans (unhide HG3) g⟩
  clear g3 HFR HG0 HOS HB0
  cases fb with
  | false =>
    have e : L = [] := by rw [← unhide HL]; rfl
    have HF := hide (unhide HNIL w3 (World.grownBy.refl _ _) e)
    go_wp2
    go_ret
    exact ⟨_, _, rfl, (unhide HF).1, by simp, fun g hg => by simp at hg; omega, (unhide HF).2⟩
  | true =>
    have hn := unhide HN4 rfl
    obtain ⟨b, HB⟩ : ∃ b, Hid (decide (0 ≤ kind ∧ kind ≤ 2) = b) := ⟨_, rfl⟩
    go_wp2_with fail
    refine (between kind 0 2 b HB w3).mono ?_
    rintro e w3 ⟨rfl, rfl⟩
    cases b with
    | false =>
      have e : L = [] := by
        have := of_decide_eq_false (unhide HB)
        rw [← unhide HL, scriptG, if_pos rfl, if_neg (by omega), if_neg (by omega), if_neg (unhide hk2)]
      have HF := hide (unhide HNIL w3 (World.grownBy.refl _ _) e)
      go_wp2
      go_ret
      exact ⟨_, _, rfl, (unhide HF).1, by simp, fun g hg => by simp at hg; omega, (unhide HF).2⟩
    | true =>
      have hk := of_decide_eq_true (unhide HB)
      have HS0 : Hid (Sf w (w3.alloc (.cells #[] 3)) #[.int .i64 p, .int .i64 wd, .int .i64 ht, .int .i64 rs, .slice fo n fc] (.slice (some ⟨w.heap.size + 1, 0, none⟩) 0 0) (.slice (some ⟨w3.heap.size, 0, none⟩) 0 0) [] ((allC n).take 0) [w.heap.size + 1]) := by
        have gA : w3.grownBy (w3.alloc (.cells #[] 3)) none := World.grownBy_alloc _ _ _
        have hlt := OwSs.ok.lt _ _ _ _ (unhide HO3) (w.heap.size + 1) (by simp)
        refine ⟨OwSs.ok.keep (unhide HO3) gA, by simp, fun g hg => by simp at hg; omega, ?_, fun g e hx => ?_, at_rowS gA (unhide HB3) (by simp), grown_trans (unhide HG3) gA⟩
        · exact World.ownsRow_lit w3 #[] 0 (by omega) (by unfold maxLen; omega) rfl
        · have e9 : w3.heap.size = g := Option.some.inj e
          simp at hx; omega
      clear HNIL HG3 HO3 HB3 HFB HN4
      have c4 : (w3.alloc (.cells #[] 3)).cell? ⟨w.heap.size, 4, none⟩ = some (.slice fo n fc) := (frameCells' (unhide HS0).fr).2.2.2.2
      go_wp2
      clear c4
      go_loopw [6, 7] (fun av iv wr => ∃ (i : Nat) (ao : Option Addr) (ac : Nat) (F : List Nat), i ≤ n ∧ iv = .int .i64 i ∧ av = .slice ao i ac ∧ Hid (Sf w wr #[.int .i64 p, .int .i64 wd, .int .i64 ht, .int .i64 rs, .slice fo n fc] (.slice (some ⟨w.heap.size + 1, 0, none⟩) 0 0) (.slice ao i ac) [] ((allC n).take i) F)) (fun _ iv _ => n - (intOf iv).toNat)
      case atStart => exact ⟨0, _, _, _, Nat.zero_le _, rfl, rfl, HS0⟩
      case round =>
        clear HS0
        obtain ⟨i, ao, ac, F, hin, rfl, rfl, hS⟩ := hrel
        have c4 : wr.cell? ⟨w.heap.size, 4, none⟩ = some (.slice fo n fc) := (frameCells' (unhide hS).fr).2.2.2.2
        have hli : ((allC n).take i).length = i := by simp [allC]; omega
        by_cases hlt : i < n
        · have hd : decide ((i : Int) < (n : Int)) = true := decide_eq_true (by omega)
          obtain ⟨T, HTT⟩ : ∃ T, Hid ((allC n).take i = T) := ⟨_, rfl⟩
          obtain ⟨R, HRR⟩ : ∃ R, Hid ((allC n).take (i + 1) = R) := ⟨_, rfl⟩
          rw [unhide HTT] at hS hli
          have HLI := hide hli
          have HNX : Hid (T ++ [(i : Int)] = R) := by unfold Hid; rw [← unhide HTT, ← unhide HRR]; exact allC_next n i hlt
          have HLR : Hid (R.length = i + 1) := by unfold Hid; rw [← unhide HRR]; simp [allC]; omega
          clear hli
          go_wp2_with (at_builtin; refine append_intS rfl _ _ rfl (w.heap.size + 1) (.slice ao i ac) T rfl (unhide hS).al (i : Int) rfl (by rw [unhide HLI]; omega) (unhide hS).size R (unhide HNX) ?_)
          intro v5 w5 o5 g5 hat5
          have HS5 := hide ((unhide hS).more o5 g5 hat5)
          rw [unhide HLR] at o5
          obtain ⟨ao5, ac5, rfl⟩ := own_form o5
          rw [← unhide HRR] at HS5
          clear o5 g5 hat5 hS HLI c4 HNX HLR HTT
          go_wp2
          go_roundw
          case rel => exact ⟨i + 1, ao5, ac5, F, by omega, by go_num, rfl, HS5⟩
          case measure => simp [intOf]; omega
        · obtain rfl : n = i := by omega
          have hd : decide ((n : Int) < (n : Int)) = false := decide_eq_false (by omega)
          have hta : (allC n).take n = allC n := List.take_of_length_le (by simp [allC])
          rw [hta] at hS
          have HLA : Hid ((allC n).length = n) := by unfold Hid; simp [allC]
          clear hta hli c4
          by_cases hk0 : kind = 0
          · subst hk0
            have HLE : Hid (([] : List Scn) ++ [⟨allC n, 0, 63, 0, 0⟩] = L) := by unfold Hid; rw [← unhide HL]; rfl
            have c4 : wr.cell? ⟨w.heap.size, 4, none⟩ = some (.slice fo n fc) := (frameCells' (unhide hS).fr).2.2.2.2
            have HU : Hid (∀ i (h : i < [(⟨allC n, 0, 63, 0, 0⟩ : Scn)].length), OwScE wr (five (.slice ao n ac) (.int .i64 0) (.int .i64 63) (.int .i64 0) (.int .i64 0)) [(⟨allC n, 0, 63, 0, 0⟩ : Scn)][i] ([blk (.slice ao n ac)].getD i [])) := fun i h => by
              obtain rfl : i = 0 := by simpa using h
              exact ⟨⟨rfl, rfl, rfl, rfl⟩, own_base (unhide hS).al (Nat.zero_le _), rfl⟩
            go_wp2_with (at_builtin; refine append_rowsG OwScE.ok Try.underlying27 info_scan rfl (by decide) (by decide) rfl _ _ rfl (.slice (some ⟨w.heap.size + 1, 0, none⟩) 0 0) [] F rfl (unhide hS).own (unhide hS).nd #[.slice ao n ac, .int .i64 0, .int .i64 63, .int .i64 0, .int .i64 0] 1 (fun _ => five (.slice ao n ac) (.int .i64 0) (.int .i64 63) (.int .i64 0) (.int .i64 0)) rfl [⟨allC n, 0, 63, 0, 0⟩] rfl [blk (.slice ao n ac)] rfl (unhide HU) (by simp [blk_nodup]) (fun x hx => (unhide hS).na x (mem_blk.1 (by simpa using hx))) (by intro u hu; simp at hu; rcases hu with rfl | rfl | rfl | rfl <;> rfl) wr.heap.size rfl rfl (by simp) L (unhide HLE) ?_)
            intro v5 w5 F5 o5 n5 m5 wr5
            have HF : Hid (OwSs w5 v5 L F5 ∧ F5.Nodup ∧ (∀ g ∈ F5, w.heap.size ≤ g) ∧ w.grownBy w5 none) := by
              have hs := (unhide hS).size
              refine ⟨o5, n5, fun x hx => ?_, ?_⟩
              · rcases m5 x hx with h | h | h
                · have := (unhide hS).lo x h; omega
                · have := ((unhide hS).al.lt x (mem_blk.1 (by simpa using h))).1; omega
                · omega
              · exact Wr.new (unhide hS).grown wr5 (fun x hx => by have : w.heap.size + 1 = x := Option.some.inj (mem_blk.1 hx); omega)
            clear o5 n5 m5 wr5 HU c4
            go_wp2
            go_ret
            exact ⟨_, F5, rfl, unhide HF⟩
          · have n0 : (kind == 0) = false := by simp [hk0]
            obtain rfl : kind = 1 := by have := unhide hk2; omega
            have HLE : Hid (((allC n).take n).flatMap (fun i => [(⟨[i], 0, 63, 0, 0⟩ : Scn)]) = L) := by
              unfold Hid
              rw [← unhide HL, List.take_of_length_le (by rw [unhide HLA]; exact Nat.le_refl _)]
              rfl
            have HLEN : Hid (∀ i, i ≤ n → (((allC n).take i).flatMap (fun i => [(⟨[i], 0, 63, 0, 0⟩ : Scn)])).length = i) := fun i hi => by
              have hm : ∀ l : List Int, (l.flatMap (fun i => [(⟨[i], 0, 63, 0, 0⟩ : Scn)])).length = l.length := fun l => by
                induction l with
                | nil => rfl
                | cons a l ih => rw [List.flatMap_cons, List.length_append, ih]; simp; omega
              rw [hm]
              simp [allC]
              omega
            have c4 : wr.cell? ⟨w.heap.size, 4, none⟩ = some (.slice fo n fc) := (frameCells' (unhide hS).fr).2.2.2.2
            go_wp2
            clear c4
            go_loopw [5, 8] (fun ov iv wr => ∃ (i : Nat) (vo : Option Addr) (vc : Nat) (F : List Nat), i ≤ n ∧ iv = .int .i64 i ∧ ov = .slice vo i vc ∧ Hid (Sf w wr #[.int .i64 p, .int .i64 wd, .int .i64 ht, .int .i64 rs, .slice fo n fc] (.slice vo i vc) (.slice ao n ac) (((allC n).take i).flatMap (fun i => [(⟨[i], 0, 63, 0, 0⟩ : Scn)])) (allC n) F)) (fun _ iv _ => n - (intOf iv).toNat)
            case atStart => exact ⟨0, _, _, F, Nat.zero_le _, rfl, rfl, hS⟩
            case round =>
              clear hS
              obtain ⟨i, vo, vc, F, hin, rfl, rfl, hS⟩ := hrel
              by_cases hlt : i < n
              · have hd2 : decide ((i : Int) < (n : Int)) = true := decide_eq_true (by omega)
                obtain ⟨X, HX⟩ : ∃ X, Hid (((allC n).take i).flatMap (fun i => [(⟨[i], 0, 63, 0, 0⟩ : Scn)]) = X) := ⟨_, rfl⟩
                obtain ⟨R, HR⟩ : ∃ R, Hid (((allC n).take (i + 1)).flatMap (fun i => [(⟨[i], 0, 63, 0, 0⟩ : Scn)]) = R) := ⟨_, rfl⟩
                have HXL : Hid (X.length = i) := by rw [← unhide HX]; exact unhide HLEN i hin
                have HRL : Hid (R.length = i + 1) := by rw [← unhide HR]; exact unhide HLEN (i + 1) (by omega)
                have HNX : Hid (X ++ [⟨[(i : Int)], 0, 63, 0, 0⟩] = R) := by
                  unfold Hid
                  rw [← unhide HX, ← unhide HR]
                  exact eachC_next n i hlt (fun i => [(⟨[i], 0, 63, 0, 0⟩ : Scn)])
                rw [unhide HX] at hS
                have gA : wr.grownBy (wr.alloc (.cells #[.int .i64 (i : Int)] 3)) none := World.grownBy_alloc _ _ _
                have HS1 := hide ((unhide hS).new gA)
                have HGA := hide gA
                have HU : Hid (∀ j (h : j < [(⟨[(i : Int)], 0, 63, 0, 0⟩ : Scn)].length), OwScE (wr.alloc (.cells #[.int .i64 (i : Int)] 3)) (five (.slice (some ⟨wr.heap.size, 0, none⟩) 1 1) (.int .i64 0) (.int .i64 63) (.int .i64 0) (.int .i64 0)) [(⟨[(i : Int)], 0, 63, 0, 0⟩ : Scn)][j] ([[wr.heap.size]].getD j [])) := fun j h => by
                  obtain rfl : j = 0 := by simpa using h
                  exact ⟨⟨rfl, rfl, rfl, rfl⟩, World.ownsRow_lit wr #[.int .i64 (i : Int)] 1 (Nat.zero_le _) (by unfold maxLen; omega) rfl, rfl⟩
                have HDJ : Hid (∀ x ∈ [[wr.heap.size]].flatten, x ∉ F) := fun x hx hx2 => by
                  have h3 := OwSs.ok.lt _ _ _ _ (unhide hS).own x hx2
                  simp at hx; omega
                clear gA
                go_wp2_with (at_builtin; refine append_rowsG (w := wr.alloc (.cells #[.int .i64 (i : Int)] 3)) OwScE.ok Try.underlying27 info_scan rfl (by decide) (by decide) rfl _ _ rfl (.slice vo i vc) X F rfl (unhide HS1).own (unhide HS1).nd #[.slice (some ⟨wr.heap.size, 0, none⟩) 1 1, .int .i64 0, .int .i64 63, .int .i64 0, .int .i64 0] 1 (fun _ => five (.slice (some ⟨wr.heap.size, 0, none⟩) 1 1) (.int .i64 0) (.int .i64 63) (.int .i64 0) (.int .i64 0)) rfl [⟨[(i : Int)], 0, 63, 0, 0⟩] rfl [[wr.heap.size]] rfl (unhide HU) (by simp) (unhide HDJ) (by intro u hu; simp at hu; rcases hu with rfl | rfl | rfl | rfl <;> rfl) (wr.heap.size + 1) (by simp) rfl (by rw [unhide HXL]; omega) R (unhide HNX) ?_)
                intro v5 w5 F5 o5 n5 m5 wr5
                have m6 : ∀ x ∈ F5, x ∈ F ∨ x ∈ [wr.heap.size] ∨ (wr.alloc (.cells #[.int .i64 (i : Int)] 3)).heap.size ≤ x := fun x hx => by
                  rcases m5 x hx with h | h | h
                  · exact .inl h
                  · exact .inr (.inl (by simpa using h))
                  · exact .inr (.inr (by simpa using h))
                have HS5 := hide ((unhide hS).push (G := [wr.heap.size]) (unhide HGA) o5 n5 m6 (fun x hx => Nat.le_of_eq (by simpa using hx : x = wr.heap.size).symm) wr5)
                clear m6
                obtain ⟨vo5, vc5, rfl⟩ := OwG.form o5
                rw [unhide HRL] at HS5 ⊢
                rw [← unhide HR] at HS5
                clear o5 n5 m5 wr5 HU HDJ HS1 HGA hS HNX HRL HXL HX
                go_wp2
                go_roundw
                case rel => exact ⟨i + 1, vo5, vc5, F5, by omega, by go_num, rfl, HS5⟩
                case measure => simp [intOf]; omega
              · obtain rfl : n = i := by omega
                have hd2 : decide ((n : Int) < (n : Int)) = false := decide_eq_false (by omega)
                have HF : Hid (OwSs wr (.slice vo n vc) L F ∧ F.Nodup ∧ (∀ g ∈ F, w.heap.size ≤ g) ∧ w.grownBy wr none) := by
                  rw [← unhide HLE]
                  exact ⟨(unhide hS).own, (unhide hS).nd, fun g hg => by have := (unhide hS).lo g hg; omega, (unhide hS).grown⟩
                clear hS
                go_wp2
                go_ret
                exact ⟨_, F, rfl, unhide HF⟩

end Go.Proofs.Ytnjcmlmgjoaeeaa

namespace Go.Proofs.Ytnjcmlmgjoaeeaa
open Go.RowKit

/-- Scans are appended to a script that is being made. -/
theorem Sf.app {w wr wn : World} {fx : Array Value} {v av : Value} {X : List Scn} {A : List Int} {F : List Nat} (h : Sf w wr fx v av X A F) (gn : wr.grownBy wn none) {ops : Array Oper} {rest : List Oper} {o : Oper} {a : Act} {Q : Exit → Act → World → Prop} (hgd : o.guard = none) (s x : Operand)
    (ho : o.op = .call { callee := .builtin .append, args := #[s, x], argTypes := #[27, 27] }) (hs : a.eval s = v) (cs : Array Value) (m : Nat) (V : Nat → Nat → Value) (hcs : cs.toList = rowsK m 5 V) (M : List Scn) (hM : M.length = m) (Gs : List (List Nat)) (hGs : Gs.length = m) (hu : ∀ i (h : i < M.length), OwScE wn (V i) M[i] (Gs.getD i [])) (hG : Gs.flatten.Nodup) (hlo : ∀ x ∈ Gs.flatten, wr.heap.size ≤ x) (h1c : ∀ u ∈ cs.toList, u.oneCell' = true)
    (H : Nat) (hH : wn.heap.size = H) (hx : a.eval x = .slice (some ⟨H, 0, none⟩) m m) (hb : X.length + m ≤ 1000) (R : List Scn) (hR : X ++ M = R)
    (hK : ∀ v' w' F', Sf w w' fx v' av R A F' → wpList Try.prog ops Q rest (a.put o.dst v') w') :
    wpList Try.prog ops Q (o :: rest) a (wn.alloc (.cells cs 38)) := by
  have hn := h.new gn
  refine append_rowsG (w := wn) OwScE.ok Try.underlying27 info_scan rfl (by decide) (by decide) hgd s x ho v X F hs hn.own hn.nd cs m V hcs M hM Gs hGs hu hG (fun y hy hF => ?_) h1c H hH hx (by omega) R hR ?_
  · have h1 := hlo y hy
    have h2 := OwSs.ok.lt _ _ _ _ h.own y hF
    omega
  · intro v' w' F' o' n' m' g'
    exact hK v' w' F' (h.push (G := Gs.flatten) gn o' n' m' hlo g')

/-- A list of numbers appended to a new one. -/
theorem append_copyS {w : World} {ops : Array Oper} {rest : List Oper} {o : Oper} {a : Act} {Q : Exit → Act → World → Prop} (hgd : o.guard = none) (s x : Operand)
    (ho : o.op = .call { callee := .builtin .append, args := #[s, x], argTypes := #[36, 36] })
    (hs : a.eval s = .slice (some ⟨w.heap.size, 0, none⟩) 0 0) (ad : Addr) (n ac : Nat) (A : List Int) (hn : A.length = n) (hx : a.eval x = .slice (some ad) n ac) (hnews : ∀ j u, (A.map (Value.int .i64))[j]? = some u → (w.alloc (.cells #[] 3)).cell? (ad.add j) = some u) (hb : n ≤ 1000)
    (hK : ∀ v' w', w'.ownsRow w.heap.size 3 1 v' n (A.map (Value.int .i64)) → w.grownBy w' none → (∀ g, v'.ownBlock = some g → w.heap.size ≤ g) → wpList Try.prog ops Q rest (a.put o.dst v') w') :
    wpList Try.prog ops Q (o :: rest) a (w.alloc (.cells #[] 3)) := by
  obtain ⟨i0, hi, hz0, hz1, hz2⟩ := info_parts info_iS
  refine wpList_append_own_at _ hgd s x 36 ho w.heap.size 3 i0 _ 1 8 Try.underlying36 hi hz0 hz1 hz2 rfl (by decide) _ 0 [] hs (World.ownsRow_lit w #[] 0 (Nat.le_refl _) (by unfold maxLen; omega) rfl) ad n ac (A.map (Value.int .i64)) hx (by simp [hn]) hnews (by intro u hu; obtain ⟨y, _, rfl⟩ := List.mem_map.1 hu; rfl) (by unfold maxLen; omega) (by omega) (by simp) ?_
  intro v' w' h1 h2 _ h4
  rw [Nat.zero_add, List.nil_append] at h1
  have hga : w.grownBy w' none := by
    refine grown_new (World.grownBy_alloc w (.cells #[] 3) none) h2 (fun g e => ?_)
    have e9 : w.heap.size = g := Option.some.inj e
    omega
  exact hK v' w' h1 hga (fun g e => (h1.lt g e).1)
theorem copy_news {w : World} {g n ac base : Nat} {A : List Int} (hA : A.length = n) (h : w.ownsRow base 3 1 (.slice (some ⟨g, 0, none⟩) n ac) A.length (A.map (Value.int .i64))) : ∀ j u, (A.map (Value.int .i64))[j]? = some u → (w.alloc (.cells #[] 3)).cell? ((⟨g, 0, none⟩ : Addr).add j) = some u := by
  rw [hA] at h
  intro j u hj
  have hl : j < n := by
    have := (List.getElem?_eq_some_iff.1 hj).1
    simpa [hA] using this
  rw [Addr.add_lit, Nat.zero_add]
  refine (World.grownBy_alloc w (.cells #[] 3) none).cell ?_ (by simp)
  rw [h.cellAt j (by omega)]
  exact hj

theorem flat_len (f : Int → List Scn) (m : Nat) (hf : ∀ i, (f i).length = m) : ∀ l : List Int, (l.flatMap f).length = l.length * m
  | [] => by simp
  | a :: l => by rw [List.flatMap_cons, List.length_append, flat_len f m hf l, hf a, List.length_cons, Nat.add_mul, Nat.one_mul, Nat.add_comm]
theorem scripts_short (n : Nat) (hn : n ≤ 4) (i : Nat) (P : List Scn) (f : Int → List Scn) (hP : P.length ≤ 60) (hf : ∀ i, (f i).length ≤ 2) : (P ++ ((allC n).take i).flatMap f).length ≤ 100 := by
  have hg : ∀ l : List Int, (l.flatMap f).length ≤ l.length * 2 := fun l => by
    induction l with
    | nil => simp
    | cons a l ih =>
      have := hf a
      rw [List.flatMap_cons, List.length_append, List.length_cons]
      omega
  have h1 := hg ((allC n).take i)
  have h2 : ((allC n).take i).length ≤ 4 := by rw [List.length_take]; simp [allC]; omega
  rw [List.length_append]
  omega
theorem each_short (n : Nat) (hn : n ≤ 4) (f : Int → List Scn) (hf : ∀ i, (f i).length ≤ 2) : (eachC n f).length ≤ 8 := by
  have hg : ∀ l : List Int, (l.flatMap f).length ≤ l.length * 2 := fun l => by
    induction l with
    | nil => simp
    | cons a l ih =>
      have := hf a
      rw [List.flatMap_cons, List.length_append, List.length_cons]
      omega
  have h1 := hg (allC n)
  have h2 : (allC n).length = n := by simp [allC]
  unfold eachC
  omega
theorem scr_len1 (n : Nat) : ([] ++ [(⟨allC n, 0, 0, 0, 1⟩ : Scn)]).length ≤ 60 := by simp
theorem scr_len2 (n : Nat) (hn : n ≤ 4) : (([] ++ [(⟨allC n, 0, 0, 0, 1⟩ : Scn)]) ++ eachC n (fun i => [(⟨[i], 1, 5, 0, 2⟩ : Scn), (⟨[i], 6, 63, 0, 2⟩ : Scn)])).length ≤ 60 := by
  have := each_short n hn (fun i => [(⟨[i], 1, 5, 0, 2⟩ : Scn), (⟨[i], 6, 63, 0, 2⟩ : Scn)]) (fun _ => by simp)
  rw [List.length_append]
  have := scr_len1 n
  simp only [List.nil_append, List.length_singleton]
  omega
theorem scr_len3 (n : Nat) (hn : n ≤ 4) : ((([] ++ [(⟨allC n, 0, 0, 0, 1⟩ : Scn)]) ++ eachC n (fun i => [(⟨[i], 1, 5, 0, 2⟩ : Scn), (⟨[i], 6, 63, 0, 2⟩ : Scn)])) ++ eachC n (fun i => [(⟨[i], 1, 63, 2, 1⟩ : Scn)])).length ≤ 100 := by
  have h1 := each_short n hn (fun i => [(⟨[i], 1, 5, 0, 2⟩ : Scn), (⟨[i], 6, 63, 0, 2⟩ : Scn)]) (fun _ => by simp)
  have h2 := each_short n hn (fun i => [(⟨[i], 1, 63, 2, 1⟩ : Scn)]) (fun _ => by simp)
  rw [List.length_append, List.length_append]
  simp only [List.nil_append, List.length_singleton]
  omega
theorem scr_len4 (n : Nat) (hn : n ≤ 4) : (((([] ++ [(⟨allC n, 0, 0, 0, 1⟩ : Scn)]) ++ eachC n (fun i => [(⟨[i], 1, 5, 0, 2⟩ : Scn), (⟨[i], 6, 63, 0, 2⟩ : Scn)])) ++ eachC n (fun i => [(⟨[i], 1, 63, 2, 1⟩ : Scn)])) ++ [(⟨allC n, 0, 0, 1, 0⟩ : Scn)]).length ≤ 60 := by
  have h1 := each_short n hn (fun i => [(⟨[i], 1, 5, 0, 2⟩ : Scn), (⟨[i], 6, 63, 0, 2⟩ : Scn)]) (fun _ => by simp)
  have h2 := each_short n hn (fun i => [(⟨[i], 1, 63, 2, 1⟩ : Scn)]) (fun _ => by simp)
  rw [List.length_append, List.length_append, List.length_append]
  simp only [List.nil_append, List.length_singleton]
  omega

set_option maxRecDepth 20000 in
set_option maxHeartbeats 6400000 in
theorem specScript2 (p wd ht rs : Int) (fo : Option Addr) (n fc : Nat) (C : Nat → Nat → Int) (w : World) (hr : RdC w fo n C) (fb : Bool) (HFB : Hid (frameB p wd ht rs n C = fb)) (L : List Scn) (HL : Hid (scriptG fb n 2 = L)) :
    Calls Try.prog 12 #[.agg #[.int .i64 p, .int .i64 wd, .int .i64 ht, .int .i64 rs, .slice fo n fc], .int .i64 2] w fun e w' => ∃ u F, e = .returned u ∧ OwSs w' u L F ∧ F.Nodup ∧ (∀ g ∈ F, w.heap.size ≤ g) ∧ w.grownBy w' none := by
  have hn4 : fb = true → n ≤ 4 := fun e => by have := unhide HFB; rw [e] at this; exact (geo_of this).n4
  obtain ⟨W2, HW2⟩ : ∃ W2, Hid ((w.alloc (.cells #[.int .i64 p, .int .i64 wd, .int .i64 ht, .int .i64 rs, .slice fo n fc] 26)).alloc (.cells #[] 38) = W2) := ⟨_, rfl⟩
  have G0 : w.grownBy W2 none := by rw [← unhide HW2]; exact grown_alloc (grown_alloc (World.grownBy.refl _ _) _) _
  have B0 : W2.heap[w.heap.size]? = some (.cells #[.int .i64 p, .int .i64 wd, .int .i64 ht, .int .i64 rs, .slice fo n fc] 26 (0, 0)) := by
    rw [← unhide HW2]
    exact at_rowS (World.grownBy_alloc _ _ none) (heap_alloc_new w _) (by simp)
  have O0 : W2.ownsRow (w.heap.size + 1) 38 5 (.slice (some ⟨w.heap.size + 1, 0, none⟩) 0 0) 0 [] := by
    rw [← unhide HW2]
    have := World.ownsRow_lit (w.alloc (.cells #[.int .i64 p, .int .i64 wd, .int .i64 ht, .int .i64 rs, .slice fo n fc] 26)) (e := 38) (size := 5) (base := w.heap.size + 1) #[] 0 (by simp) (by unfold maxLen; omega) rfl
    simpa using this
  have OS : OwSs W2 (.slice (some ⟨w.heap.size + 1, 0, none⟩) 0 0) [] [w.heap.size + 1] := ⟨fun _ _ => .slice none 0 0, [], rfl, own_base O0 (Nat.zero_le _), fun i hi => absurd hi (by simp), rfl⟩
  have HFR := hide (specFrameOk p wd ht rs fo n fc C W2 (hr.grown G0) fb HFB)
  have HB0 := hide B0
  have HG0 := hide G0
  have HOS := hide OS
  rw [← unhide HW2] at B0
  obtain ⟨f0, f1, f2, f3, f4⟩ := frameCells' B0
  have HN4 := hide hn4
  clear hr G0 B0 O0 OS hn4
  go_enter Try.func12, Try.ntmps12
  go_wp2_with fail
  rw [unhide HW2]
  clear HW2 f0 f1 f2 f3 f4
  refine (unhide HFR).mono ?_
  rintro e w3 ⟨rfl, g3⟩
  have HG3 := hide (grown_trans (unhide HG0) g3)
  have HO3 := hide (OwSs.ok.keep (unhide HOS) g3)
  have HB3 := hide (at_rowS g3 (unhide HB0) (by simp))
  have HNIL : Hid (∀ W, w3.grownBy W none → L = [] → OwSs W (.slice (some ⟨w.heap.size + 1, 0, none⟩) 0 0) L [w.heap.size + 1] ∧ w.grownBy W none) := fun W g e => by subst e; exact ⟨OwSs.ok.keep (unhide HO3) g, grown_trans (unhide HG3) g⟩
  clear g3 HFR HG0 HOS HB0
  cases fb with
  | false =>
    have e : L = [] := by rw [← unhide HL]; rfl
    have HF := hide (unhide HNIL w3 (World.grownBy.refl _ _) e)
    go_wp2
    go_ret
    exact ⟨_, _, rfl, (unhide HF).1, by simp, fun g hg => by simp at hg; omega, (unhide HF).2⟩
  | true =>
    have hn := unhide HN4 rfl
    have hn1 := (geo_of (unhide HFB)).n1
    have HB : Hid (decide ((0 : Int) ≤ 2 ∧ (2 : Int) ≤ 2) = true) := rfl
    go_wp2_with fail
    refine (between 2 0 2 true HB w3).mono ?_
    rintro e w3 ⟨rfl, rfl⟩
    have HS0 : Hid (Sf w (w3.alloc (.cells #[] 3)) #[.int .i64 p, .int .i64 wd, .int .i64 ht, .int .i64 rs, .slice fo n fc] (.slice (some ⟨w.heap.size + 1, 0, none⟩) 0 0) (.slice (some ⟨w3.heap.size, 0, none⟩) 0 0) [] ((allC n).take 0) [w.heap.size + 1]) := by
      have gA : w3.grownBy (w3.alloc (.cells #[] 3)) none := World.grownBy_alloc _ _ _
      have hlt := OwSs.ok.lt _ _ _ _ (unhide HO3) (w.heap.size + 1) (by simp)
      refine ⟨OwSs.ok.keep (unhide HO3) gA, by simp, fun g hg => by simp at hg; omega, ?_, fun g e hx => ?_, at_rowS gA (unhide HB3) (by simp), grown_trans (unhide HG3) gA⟩
      · exact World.ownsRow_lit w3 #[] 0 (by omega) (by unfold maxLen; omega) rfl
      · have e9 : w3.heap.size = g := Option.some.inj e
        simp at hx; omega
    clear HNIL HG3 HO3 HB3 HFB HN4
    have c4 : (w3.alloc (.cells #[] 3)).cell? ⟨w.heap.size, 4, none⟩ = some (.slice fo n fc) := (frameCells' (unhide HS0).fr).2.2.2.2
    go_wp2
    clear c4
    go_loopw [6, 7] (fun av iv wr => ∃ (i : Nat) (ao : Option Addr) (ac : Nat) (F : List Nat), i ≤ n ∧ iv = .int .i64 i ∧ av = .slice ao i ac ∧ Hid (Sf w wr #[.int .i64 p, .int .i64 wd, .int .i64 ht, .int .i64 rs, .slice fo n fc] (.slice (some ⟨w.heap.size + 1, 0, none⟩) 0 0) (.slice ao i ac) [] ((allC n).take i) F)) (fun _ iv _ => n - (intOf iv).toNat)
    case atStart => exact ⟨0, _, _, _, Nat.zero_le _, rfl, rfl, HS0⟩
    case round =>
      clear HS0
      obtain ⟨i, ao, ac, F, hin, rfl, rfl, hS⟩ := hrel
      have c4 : wr.cell? ⟨w.heap.size, 4, none⟩ = some (.slice fo n fc) := (frameCells' (unhide hS).fr).2.2.2.2
      have hli : ((allC n).take i).length = i := by simp [allC]; omega
      by_cases hlt : i < n
      · have hd : decide ((i : Int) < (n : Int)) = true := decide_eq_true (by omega)
        obtain ⟨T, HTT⟩ : ∃ T, Hid ((allC n).take i = T) := ⟨_, rfl⟩
        obtain ⟨R, HRR⟩ : ∃ R, Hid ((allC n).take (i + 1) = R) := ⟨_, rfl⟩
        rw [unhide HTT] at hS hli
        have HLI := hide hli
        have HNX : Hid (T ++ [(i : Int)] = R) := by unfold Hid; rw [← unhide HTT, ← unhide HRR]; exact allC_next n i hlt
        have HLR : Hid (R.length = i + 1) := by unfold Hid; rw [← unhide HRR]; simp [allC]; omega
        clear hli
        go_wp2_with (at_builtin; refine append_intS rfl _ _ rfl (w.heap.size + 1) (.slice ao i ac) T rfl (unhide hS).al (i : Int) rfl (by rw [unhide HLI]; omega) (unhide hS).size R (unhide HNX) ?_)
        intro v5 w5 o5 g5 hat5
        have HS5 := hide ((unhide hS).more o5 g5 hat5)
        rw [unhide HLR] at o5
        obtain ⟨ao5, ac5, rfl⟩ := own_form o5
        rw [← unhide HRR] at HS5
        clear o5 g5 hat5 hS HLI c4 HNX HLR HTT
        go_wp2
        go_roundw
        case rel => exact ⟨i + 1, ao5, ac5, F, by omega, by go_num, rfl, HS5⟩
        case measure => simp [intOf]; omega
      · obtain rfl : n = i := by omega
        have hd : decide ((n : Int) < (n : Int)) = false := decide_eq_false (by omega)
        have hta : (allC n).take n = allC n := List.take_of_length_le (by simp [allC])
        rw [hta] at hS
        have HLA : Hid ((allC n).length = n) := by unfold Hid; simp [allC]
        clear hta hli c4
        obtain ⟨ga, eao, _, _⟩ := own_at (n := n) (by have h9 := (unhide hS).al; rw [unhide HLA] at h9; exact h9) hn1
        subst eao
        have c4 : wr.cell? ⟨w.heap.size, 4, none⟩ = some (.slice fo n fc) := (frameCells' (unhide hS).fr).2.2.2.2
        obtain ⟨X, HX⟩ : ∃ X, Hid (([] : List Scn) = X) := ⟨_, hide rfl⟩
        have HXL : Hid (X.length ≤ 100) := by unfold Hid; rw [← unhide HX]; first | exact Nat.zero_le _ | exact scr_len3 n hn
        rw [unhide HX] at hS
        go_wp2_with (first | (at_builtin; refine append_copyS (w := wr) rfl _ _ rfl rfl ⟨ga, 0, none⟩ n ac (allC n) (unhide HLA) rfl (copy_news (unhide HLA) (unhide hS).al) (by omega) ?_; intro v4 w4 o4 g4 l4; obtain ⟨co, cc, rfl⟩ := own_form o4; have G4 := hide g4; have O4 := hide o4; have L4 := hide l4; have HU : Hid (∀ j (h : j < [(⟨allC n, 0, 0, 0, 1⟩ : Scn)].length), OwScE w4 ((fun _ => five (.slice co n cc) (.int .i64 0) (.int .i64 0) (.int .i64 0) (.int .i64 1)) j) [(⟨allC n, 0, 0, 0, 1⟩ : Scn)][j] ([blk (.slice co n cc)].getD j [])) := (fun j h => by obtain rfl : j = 0 := (by simpa using h); exact ⟨⟨rfl, rfl, rfl, rfl⟩, (by show w4.ownsRow 0 _ _ _ (allC n).length _; rw [unhide HLA]; exact own_base (unhide O4) (Nat.zero_le _)), rfl⟩); clear o4 g4 l4) | (at_builtin; refine Sf.app (wn := w4) (unhide hS) (unhide G4) rfl _ _ rfl rfl #[.slice co n cc, .int .i64 0, .int .i64 0, .int .i64 0, .int .i64 1] 1 (fun _ => five (.slice co n cc) (.int .i64 0) (.int .i64 0) (.int .i64 0) (.int .i64 1)) rfl [(⟨allC n, 0, 0, 0, 1⟩ : Scn)] rfl [blk (.slice co n cc)] rfl (unhide HU) (by simp [blk_nodup]) (fun x hx => unhide L4 x (mem_blk.1 (by simpa using hx))) (by intro u hu; simp at hu; first | (rcases hu with rfl | rfl | rfl | rfl <;> rfl) | (rcases hu with rfl | rfl | rfl <;> rfl)) w4.heap.size rfl rfl (by have := unhide HXL; omega) _ rfl ?_))
        intro v5 w5 F5 S5
        obtain ⟨vo5, vc5, rfl⟩ := OwG.form S5.own
        obtain ⟨ln, HLN⟩ : ∃ ln, Hid ((X ++ [(⟨allC n, 0, 0, 0, 1⟩ : Scn)]).length = ln) := ⟨_, hide rfl⟩
        rw [unhide HLN] at S5 ⊢
        rw [← unhide HX] at S5
        have HA1 := hide S5
        clear S5 HU G4 O4 L4 HLN hS HX HXL
        clear c4
        go_wp2
        go_loopw [5, 9] (fun ov iv wr => ∃ (i : Nat) (vo : Option Addr) (vn vc : Nat) (F : List Nat), i ≤ n ∧ iv = .int .i64 i ∧ ov = .slice vo vn vc ∧ Hid (Sf w wr #[.int .i64 p, .int .i64 wd, .int .i64 ht, .int .i64 rs, .slice fo n fc] (.slice vo vn vc) (.slice (some ⟨ga, 0, none⟩) n ac) (([] ++ [(⟨allC n, 0, 0, 0, 1⟩ : Scn)]) ++ ((allC n).take i).flatMap (fun i => [(⟨[i], 1, 5, 0, 2⟩ : Scn), (⟨[i], 6, 63, 0, 2⟩ : Scn)])) (allC n) F)) (fun _ iv _ => n - (intOf iv).toNat)
        case atStart => exact ⟨0, _, _, _, _, Nat.zero_le _, rfl, rfl, by unfold Hid; rw [List.take_zero, List.flatMap_nil, List.append_nil]; exact unhide HA1⟩
        case round =>
          clear HA1
          obtain ⟨i, vo, vn, vc, F, hin, rfl, rfl, hS⟩ := hrel
          by_cases hlt : i < n
          · have hd2 : decide ((i : Int) < (n : Int)) = true := decide_eq_true (by omega)
            obtain ⟨X, HX⟩ : ∃ X, Hid (([] ++ [(⟨allC n, 0, 0, 0, 1⟩ : Scn)]) ++ ((allC n).take i).flatMap (fun i => [(⟨[i], 1, 5, 0, 2⟩ : Scn), (⟨[i], 6, 63, 0, 2⟩ : Scn)]) = X) := ⟨_, hide rfl⟩
            obtain ⟨R, HR⟩ : ∃ R, Hid (([] ++ [(⟨allC n, 0, 0, 0, 1⟩ : Scn)]) ++ ((allC n).take (i + 1)).flatMap (fun i => [(⟨[i], 1, 5, 0, 2⟩ : Scn), (⟨[i], 6, 63, 0, 2⟩ : Scn)]) = R) := ⟨_, hide rfl⟩
            have HNX : Hid (X ++ [(⟨[(i : Int)], 1, 5, 0, 2⟩ : Scn), (⟨[(i : Int)], 6, 63, 0, 2⟩ : Scn)] = R) := by
              unfold Hid
              rw [← unhide HX, ← unhide HR, List.append_assoc]
              exact congrArg _ (eachC_next n i hlt (fun i => [(⟨[i], 1, 5, 0, 2⟩ : Scn), (⟨[i], 6, 63, 0, 2⟩ : Scn)]))
            have HXL : Hid (X.length ≤ 100) := by
              unfold Hid
              rw [← unhide HX]
              exact scripts_short n hn i _ _ (by first | exact scr_len1 n | exact scr_len2 n hn | exact scr_len3 n hn | exact scr_len4 n hn) (fun _ => by simp)
            rw [unhide HX] at hS
            have HGA : Hid (wr.grownBy ((wr.alloc (.cells #[.int .i64 (i : Int)] 3)).alloc (.cells #[.int .i64 (i : Int)] 3)) none) := grown_alloc (World.grownBy_alloc _ _ _) _
            have HU : Hid (∀ j (h : j < [(⟨[(i : Int)], 1, 5, 0, 2⟩ : Scn), (⟨[(i : Int)], 6, 63, 0, 2⟩ : Scn)].length), OwScE ((wr.alloc (.cells #[.int .i64 (i : Int)] 3)).alloc (.cells #[.int .i64 (i : Int)] 3)) ((fun q => if q = 0 then five (.slice (some ⟨wr.heap.size, 0, none⟩) 1 1) (.int .i64 1) (.int .i64 5) (.int .i64 0) (.int .i64 2) else five (.slice (some ⟨wr.heap.size + 1, 0, none⟩) 1 1) (.int .i64 6) (.int .i64 63) (.int .i64 0) (.int .i64 2)) j) [(⟨[(i : Int)], 1, 5, 0, 2⟩ : Scn), (⟨[(i : Int)], 6, 63, 0, 2⟩ : Scn)][j] ([[wr.heap.size], [wr.heap.size + 1]].getD j [])) := fun j h => by
              have hj : j = 0 ∨ j = 1 := by simp at h; omega
              rcases hj with rfl | rfl
              · refine ⟨⟨rfl, rfl, rfl, rfl⟩, ?_, rfl⟩
                exact own_grown (World.ownsRow_lit wr #[.int .i64 (i : Int)] 1 (Nat.zero_le _) (by unfold maxLen; omega) rfl) (World.grownBy_alloc _ _ _)
              · refine ⟨⟨rfl, rfl, rfl, rfl⟩, ?_, rfl⟩
                have h9 := World.ownsRow_lit (e := 3) (size := 1) (base := 0) (wr.alloc (.cells #[.int .i64 (i : Int)] 3)) #[.int .i64 (i : Int)] 1 (Nat.zero_le _) (by unfold maxLen; omega) rfl
                have e9 : (wr.alloc (.cells #[.int .i64 (i : Int)] 3)).heap.size = wr.heap.size + 1 := by simp
                rw [e9] at h9
                exact h9
            go_wp2_with (at_builtin; refine Sf.app (wn := (wr.alloc (.cells #[.int .i64 (i : Int)] 3)).alloc (.cells #[.int .i64 (i : Int)] 3)) (unhide hS) (unhide HGA) rfl _ _ rfl rfl #[.slice (some ⟨wr.heap.size, 0, none⟩) 1 1, .int .i64 1, .int .i64 5, .int .i64 0, .int .i64 2, .slice (some ⟨wr.heap.size + 1, 0, none⟩) 1 1, .int .i64 6, .int .i64 63, .int .i64 0, .int .i64 2] 2 (fun q => if q = 0 then five (.slice (some ⟨wr.heap.size, 0, none⟩) 1 1) (.int .i64 1) (.int .i64 5) (.int .i64 0) (.int .i64 2) else five (.slice (some ⟨wr.heap.size + 1, 0, none⟩) 1 1) (.int .i64 6) (.int .i64 63) (.int .i64 0) (.int .i64 2)) rfl [(⟨[(i : Int)], 1, 5, 0, 2⟩ : Scn), (⟨[(i : Int)], 6, 63, 0, 2⟩ : Scn)] rfl [[wr.heap.size], [wr.heap.size + 1]] rfl (unhide HU) (by simp) (fun x hx => by simp at hx; omega) (fun u hu => List.all_eq_true.1 (show (#[.slice (some ⟨wr.heap.size, 0, none⟩) 1 1, .int .i64 1, .int .i64 5, .int .i64 0, .int .i64 2, .slice (some ⟨wr.heap.size + 1, 0, none⟩) 1 1, .int .i64 6, .int .i64 63, .int .i64 0, .int .i64 2] : Array Value).toList.all (fun u => u.oneCell') = true from rfl) u hu) (wr.heap.size + 2) (by simp) rfl (by have := unhide HXL; omega) R (unhide HNX) ?_)
            intro v5 w5 F5 S5
            obtain ⟨vo5, vc5, rfl⟩ := OwG.form S5.own
            have HS5 := hide S5
            obtain ⟨ln, HLN⟩ : ∃ ln, Hid (R.length = ln) := ⟨_, hide rfl⟩
            rw [unhide HLN] at HS5 ⊢
            rw [← unhide HR] at HS5
            clear S5 HU HGA hS HNX HXL HX HLN
            go_wp2
            go_roundw
            case rel => exact ⟨i + 1, vo5, ln, vc5, F5, by omega, by go_num, rfl, HS5⟩
            case measure => simp [intOf]; omega
          · obtain rfl : n = i := by omega
            have hd2 : decide ((n : Int) < (n : Int)) = false := decide_eq_false (by omega)
            have HA2 : Hid (Sf w wr #[.int .i64 p, .int .i64 wd, .int .i64 ht, .int .i64 rs, .slice fo n fc] (.slice vo vn vc) (.slice (some ⟨ga, 0, none⟩) n ac) (([] ++ [(⟨allC n, 0, 0, 0, 1⟩ : Scn)]) ++ eachC n (fun i => [(⟨[i], 1, 5, 0, 2⟩ : Scn), (⟨[i], 6, 63, 0, 2⟩ : Scn)])) (allC n) F) := by
              have h9 := unhide hS
              rw [List.take_of_length_le (by rw [unhide HLA]; exact Nat.le_refl _)] at h9
              exact h9
            clear hS
            go_wp2
            go_loopw [5, 10] (fun ov iv wr => ∃ (i : Nat) (vo : Option Addr) (vn vc : Nat) (F : List Nat), i ≤ n ∧ iv = .int .i64 i ∧ ov = .slice vo vn vc ∧ Hid (Sf w wr #[.int .i64 p, .int .i64 wd, .int .i64 ht, .int .i64 rs, .slice fo n fc] (.slice vo vn vc) (.slice (some ⟨ga, 0, none⟩) n ac) ((([] ++ [(⟨allC n, 0, 0, 0, 1⟩ : Scn)]) ++ eachC n (fun i => [(⟨[i], 1, 5, 0, 2⟩ : Scn), (⟨[i], 6, 63, 0, 2⟩ : Scn)])) ++ ((allC n).take i).flatMap (fun i => [(⟨[i], 1, 63, 2, 1⟩ : Scn)])) (allC n) F)) (fun _ iv _ => n - (intOf iv).toNat)
            case atStart => exact ⟨0, _, _, _, _, Nat.zero_le _, rfl, rfl, by unfold Hid; rw [List.take_zero, List.flatMap_nil, List.append_nil]; exact unhide HA2⟩
            case round =>
              clear HA2
              obtain ⟨i, vo, vn, vc, F, hin, rfl, rfl, hS⟩ := hrel
              by_cases hlt : i < n
              · have hd2 : decide ((i : Int) < (n : Int)) = true := decide_eq_true (by omega)
                obtain ⟨X, HX⟩ : ∃ X, Hid ((([] ++ [(⟨allC n, 0, 0, 0, 1⟩ : Scn)]) ++ eachC n (fun i => [(⟨[i], 1, 5, 0, 2⟩ : Scn), (⟨[i], 6, 63, 0, 2⟩ : Scn)])) ++ ((allC n).take i).flatMap (fun i => [(⟨[i], 1, 63, 2, 1⟩ : Scn)]) = X) := ⟨_, hide rfl⟩
                obtain ⟨R, HR⟩ : ∃ R, Hid ((([] ++ [(⟨allC n, 0, 0, 0, 1⟩ : Scn)]) ++ eachC n (fun i => [(⟨[i], 1, 5, 0, 2⟩ : Scn), (⟨[i], 6, 63, 0, 2⟩ : Scn)])) ++ ((allC n).take (i + 1)).flatMap (fun i => [(⟨[i], 1, 63, 2, 1⟩ : Scn)]) = R) := ⟨_, hide rfl⟩
                have HNX : Hid (X ++ [(⟨[(i : Int)], 1, 63, 2, 1⟩ : Scn)] = R) := by
                  unfold Hid
                  rw [← unhide HX, ← unhide HR, List.append_assoc]
                  exact congrArg _ (eachC_next n i hlt (fun i => [(⟨[i], 1, 63, 2, 1⟩ : Scn)]))
                have HXL : Hid (X.length ≤ 100) := by
                  unfold Hid
                  rw [← unhide HX]
                  exact scripts_short n hn i _ _ (by first | exact scr_len1 n | exact scr_len2 n hn | exact scr_len3 n hn | exact scr_len4 n hn) (fun _ => by simp)
                rw [unhide HX] at hS
                have HGA : Hid (wr.grownBy (wr.alloc (.cells #[.int .i64 (i : Int)] 3)) none) := World.grownBy_alloc _ _ _
                have HU : Hid (∀ j (h : j < [(⟨[(i : Int)], 1, 63, 2, 1⟩ : Scn)].length), OwScE (wr.alloc (.cells #[.int .i64 (i : Int)] 3)) ((fun _ => five (.slice (some ⟨wr.heap.size, 0, none⟩) 1 1) (.int .i64 1) (.int .i64 63) (.int .i64 2) (.int .i64 1)) j) [(⟨[(i : Int)], 1, 63, 2, 1⟩ : Scn)][j] ([[wr.heap.size]].getD j [])) := fun j h => by
                  obtain rfl : j = 0 := by simpa using h
                  exact ⟨⟨rfl, rfl, rfl, rfl⟩, World.ownsRow_lit wr #[.int .i64 (i : Int)] 1 (Nat.zero_le _) (by unfold maxLen; omega) rfl, rfl⟩
                go_wp2_with (at_builtin; refine Sf.app (wn := wr.alloc (.cells #[.int .i64 (i : Int)] 3)) (unhide hS) (unhide HGA) rfl _ _ rfl rfl #[.slice (some ⟨wr.heap.size, 0, none⟩) 1 1, .int .i64 1, .int .i64 63, .int .i64 2, .int .i64 1] 1 (fun _ => five (.slice (some ⟨wr.heap.size, 0, none⟩) 1 1) (.int .i64 1) (.int .i64 63) (.int .i64 2) (.int .i64 1)) rfl [(⟨[(i : Int)], 1, 63, 2, 1⟩ : Scn)] rfl [[wr.heap.size]] rfl (unhide HU) (by simp) (fun x hx => by simp at hx; omega) (fun u hu => List.all_eq_true.1 (show (#[.slice (some ⟨wr.heap.size, 0, none⟩) 1 1, .int .i64 1, .int .i64 63, .int .i64 2, .int .i64 1] : Array Value).toList.all (fun u => u.oneCell') = true from rfl) u hu) (wr.heap.size + 1) (by simp) rfl (by have := unhide HXL; omega) R (unhide HNX) ?_)
                intro v5 w5 F5 S5
                obtain ⟨vo5, vc5, rfl⟩ := OwG.form S5.own
                have HS5 := hide S5
                obtain ⟨ln, HLN⟩ : ∃ ln, Hid (R.length = ln) := ⟨_, hide rfl⟩
                rw [unhide HLN] at HS5 ⊢
                rw [← unhide HR] at HS5
                clear S5 HU HGA hS HNX HXL HX HLN
                go_wp2
                go_roundw
                case rel => exact ⟨i + 1, vo5, ln, vc5, F5, by omega, by go_num, rfl, HS5⟩
                case measure => simp [intOf]; omega
              · obtain rfl : n = i := by omega
                have hd2 : decide ((n : Int) < (n : Int)) = false := decide_eq_false (by omega)
                have HA3 : Hid (Sf w wr #[.int .i64 p, .int .i64 wd, .int .i64 ht, .int .i64 rs, .slice fo n fc] (.slice vo vn vc) (.slice (some ⟨ga, 0, none⟩) n ac) ((([] ++ [(⟨allC n, 0, 0, 0, 1⟩ : Scn)]) ++ eachC n (fun i => [(⟨[i], 1, 5, 0, 2⟩ : Scn), (⟨[i], 6, 63, 0, 2⟩ : Scn)])) ++ eachC n (fun i => [(⟨[i], 1, 63, 2, 1⟩ : Scn)])) (allC n) F) := by
                  have h9 := unhide hS
                  rw [List.take_of_length_le (by rw [unhide HLA]; exact Nat.le_refl _)] at h9
                  exact h9
                clear hS
                obtain ⟨X, HX⟩ : ∃ X, Hid (((([] ++ [(⟨allC n, 0, 0, 0, 1⟩ : Scn)]) ++ eachC n (fun i => [(⟨[i], 1, 5, 0, 2⟩ : Scn), (⟨[i], 6, 63, 0, 2⟩ : Scn)])) ++ eachC n (fun i => [(⟨[i], 1, 63, 2, 1⟩ : Scn)])) = X) := ⟨_, hide rfl⟩
                have HXL : Hid (X.length ≤ 100) := by unfold Hid; rw [← unhide HX]; first | exact Nat.zero_le _ | exact scr_len3 n hn
                rw [unhide HX] at HA3
                go_wp2_with (first | (at_builtin; refine append_copyS (w := wr) rfl _ _ rfl rfl ⟨ga, 0, none⟩ n ac (allC n) (unhide HLA) rfl (copy_news (unhide HLA) (unhide HA3).al) (by omega) ?_; intro v4 w4 o4 g4 l4; obtain ⟨co, cc, rfl⟩ := own_form o4; have G4 := hide g4; have O4 := hide o4; have L4 := hide l4; have HU : Hid (∀ j (h : j < [(⟨allC n, 0, 0, 1, 0⟩ : Scn)].length), OwScE w4 ((fun _ => five (.slice co n cc) (.int .i64 0) (.int .i64 0) (.int .i64 1) (.int .i64 0)) j) [(⟨allC n, 0, 0, 1, 0⟩ : Scn)][j] ([blk (.slice co n cc)].getD j [])) := (fun j h => by obtain rfl : j = 0 := (by simpa using h); exact ⟨⟨rfl, rfl, rfl, rfl⟩, (by show w4.ownsRow 0 _ _ _ (allC n).length _; rw [unhide HLA]; exact own_base (unhide O4) (Nat.zero_le _)), rfl⟩); clear o4 g4 l4) | (at_builtin; refine Sf.app (wn := w4) (unhide HA3) (unhide G4) rfl _ _ rfl rfl #[.slice co n cc, .int .i64 0, .int .i64 0, .int .i64 1, .int .i64 0] 1 (fun _ => five (.slice co n cc) (.int .i64 0) (.int .i64 0) (.int .i64 1) (.int .i64 0)) rfl [(⟨allC n, 0, 0, 1, 0⟩ : Scn)] rfl [blk (.slice co n cc)] rfl (unhide HU) (by simp [blk_nodup]) (fun x hx => unhide L4 x (mem_blk.1 (by simpa using hx))) (by intro u hu; simp at hu; first | (rcases hu with rfl | rfl | rfl | rfl <;> rfl) | (rcases hu with rfl | rfl | rfl <;> rfl)) w4.heap.size rfl rfl (by have := unhide HXL; omega) _ rfl ?_))
                intro v5 w5 F5 S5
                obtain ⟨vo5, vc5, rfl⟩ := OwG.form S5.own
                obtain ⟨ln, HLN⟩ : ∃ ln, Hid ((X ++ [(⟨allC n, 0, 0, 1, 0⟩ : Scn)]).length = ln) := ⟨_, hide rfl⟩
                rw [unhide HLN] at S5 ⊢
                rw [← unhide HX] at S5
                have HA4 := hide S5
                clear S5 HU G4 O4 L4 HLN HA3 HX HXL
                go_wp2
                go_loopw [5, 11] (fun ov iv wr => ∃ (i : Nat) (vo : Option Addr) (vn vc : Nat) (F : List Nat), i ≤ n ∧ iv = .int .i64 i ∧ ov = .slice vo vn vc ∧ Hid (Sf w wr #[.int .i64 p, .int .i64 wd, .int .i64 ht, .int .i64 rs, .slice fo n fc] (.slice vo vn vc) (.slice (some ⟨ga, 0, none⟩) n ac) ((((([] ++ [(⟨allC n, 0, 0, 0, 1⟩ : Scn)]) ++ eachC n (fun i => [(⟨[i], 1, 5, 0, 2⟩ : Scn), (⟨[i], 6, 63, 0, 2⟩ : Scn)])) ++ eachC n (fun i => [(⟨[i], 1, 63, 2, 1⟩ : Scn)])) ++ [(⟨allC n, 0, 0, 1, 0⟩ : Scn)]) ++ ((allC n).take i).flatMap (fun i => [(⟨[i], 1, 63, 1, 0⟩ : Scn)])) (allC n) F)) (fun _ iv _ => n - (intOf iv).toNat)
                case atStart => exact ⟨0, _, _, _, _, Nat.zero_le _, rfl, rfl, by unfold Hid; rw [List.take_zero, List.flatMap_nil, List.append_nil]; exact unhide HA4⟩
                case round =>
                  clear HA4
                  obtain ⟨i, vo, vn, vc, F, hin, rfl, rfl, hS⟩ := hrel
                  by_cases hlt : i < n
                  · have hd2 : decide ((i : Int) < (n : Int)) = true := decide_eq_true (by omega)
                    obtain ⟨X, HX⟩ : ∃ X, Hid ((((([] ++ [(⟨allC n, 0, 0, 0, 1⟩ : Scn)]) ++ eachC n (fun i => [(⟨[i], 1, 5, 0, 2⟩ : Scn), (⟨[i], 6, 63, 0, 2⟩ : Scn)])) ++ eachC n (fun i => [(⟨[i], 1, 63, 2, 1⟩ : Scn)])) ++ [(⟨allC n, 0, 0, 1, 0⟩ : Scn)]) ++ ((allC n).take i).flatMap (fun i => [(⟨[i], 1, 63, 1, 0⟩ : Scn)]) = X) := ⟨_, hide rfl⟩
                    obtain ⟨R, HR⟩ : ∃ R, Hid ((((([] ++ [(⟨allC n, 0, 0, 0, 1⟩ : Scn)]) ++ eachC n (fun i => [(⟨[i], 1, 5, 0, 2⟩ : Scn), (⟨[i], 6, 63, 0, 2⟩ : Scn)])) ++ eachC n (fun i => [(⟨[i], 1, 63, 2, 1⟩ : Scn)])) ++ [(⟨allC n, 0, 0, 1, 0⟩ : Scn)]) ++ ((allC n).take (i + 1)).flatMap (fun i => [(⟨[i], 1, 63, 1, 0⟩ : Scn)]) = R) := ⟨_, hide rfl⟩
                    have HNX : Hid (X ++ [(⟨[(i : Int)], 1, 63, 1, 0⟩ : Scn)] = R) := by
                      unfold Hid
                      rw [← unhide HX, ← unhide HR, List.append_assoc]
                      exact congrArg _ (eachC_next n i hlt (fun i => [(⟨[i], 1, 63, 1, 0⟩ : Scn)]))
                    have HXL : Hid (X.length ≤ 100) := by
                      unfold Hid
                      rw [← unhide HX]
                      exact scripts_short n hn i _ _ (by first | exact scr_len1 n | exact scr_len2 n hn | exact scr_len3 n hn | exact scr_len4 n hn) (fun _ => by simp)
                    rw [unhide HX] at hS
                    have HGA : Hid (wr.grownBy (wr.alloc (.cells #[.int .i64 (i : Int)] 3)) none) := World.grownBy_alloc _ _ _
                    have HU : Hid (∀ j (h : j < [(⟨[(i : Int)], 1, 63, 1, 0⟩ : Scn)].length), OwScE (wr.alloc (.cells #[.int .i64 (i : Int)] 3)) ((fun _ => five (.slice (some ⟨wr.heap.size, 0, none⟩) 1 1) (.int .i64 1) (.int .i64 63) (.int .i64 1) (.int .i64 0)) j) [(⟨[(i : Int)], 1, 63, 1, 0⟩ : Scn)][j] ([[wr.heap.size]].getD j [])) := fun j h => by
                      obtain rfl : j = 0 := by simpa using h
                      exact ⟨⟨rfl, rfl, rfl, rfl⟩, World.ownsRow_lit wr #[.int .i64 (i : Int)] 1 (Nat.zero_le _) (by unfold maxLen; omega) rfl, rfl⟩
                    go_wp2_with (at_builtin; refine Sf.app (wn := wr.alloc (.cells #[.int .i64 (i : Int)] 3)) (unhide hS) (unhide HGA) rfl _ _ rfl rfl #[.slice (some ⟨wr.heap.size, 0, none⟩) 1 1, .int .i64 1, .int .i64 63, .int .i64 1, .int .i64 0] 1 (fun _ => five (.slice (some ⟨wr.heap.size, 0, none⟩) 1 1) (.int .i64 1) (.int .i64 63) (.int .i64 1) (.int .i64 0)) rfl [(⟨[(i : Int)], 1, 63, 1, 0⟩ : Scn)] rfl [[wr.heap.size]] rfl (unhide HU) (by simp) (fun x hx => by simp at hx; omega) (fun u hu => List.all_eq_true.1 (show (#[.slice (some ⟨wr.heap.size, 0, none⟩) 1 1, .int .i64 1, .int .i64 63, .int .i64 1, .int .i64 0] : Array Value).toList.all (fun u => u.oneCell') = true from rfl) u hu) (wr.heap.size + 1) (by simp) rfl (by have := unhide HXL; omega) R (unhide HNX) ?_)
                    intro v5 w5 F5 S5
                    obtain ⟨vo5, vc5, rfl⟩ := OwG.form S5.own
                    have HS5 := hide S5
                    obtain ⟨ln, HLN⟩ : ∃ ln, Hid (R.length = ln) := ⟨_, hide rfl⟩
                    rw [unhide HLN] at HS5 ⊢
                    rw [← unhide HR] at HS5
                    clear S5 HU HGA hS HNX HXL HX HLN
                    go_wp2
                    go_roundw
                    case rel => exact ⟨i + 1, vo5, ln, vc5, F5, by omega, by go_num, rfl, HS5⟩
                    case measure => simp [intOf]; omega
                  · obtain rfl : n = i := by omega
                    have hd2 : decide ((n : Int) < (n : Int)) = false := decide_eq_false (by omega)
                    have HA5 : Hid (Sf w wr #[.int .i64 p, .int .i64 wd, .int .i64 ht, .int .i64 rs, .slice fo n fc] (.slice vo vn vc) (.slice (some ⟨ga, 0, none⟩) n ac) ((((([] ++ [(⟨allC n, 0, 0, 0, 1⟩ : Scn)]) ++ eachC n (fun i => [(⟨[i], 1, 5, 0, 2⟩ : Scn), (⟨[i], 6, 63, 0, 2⟩ : Scn)])) ++ eachC n (fun i => [(⟨[i], 1, 63, 2, 1⟩ : Scn)])) ++ [(⟨allC n, 0, 0, 1, 0⟩ : Scn)]) ++ eachC n (fun i => [(⟨[i], 1, 63, 1, 0⟩ : Scn)])) (allC n) F) := by
                      have h9 := unhide hS
                      rw [List.take_of_length_le (by rw [unhide HLA]; exact Nat.le_refl _)] at h9
                      exact h9
                    clear hS
                    have HF : Hid (OwSs wr (.slice vo vn vc) L F ∧ F.Nodup ∧ (∀ g ∈ F, w.heap.size ≤ g) ∧ w.grownBy wr none) := by
                      have eL : ((((([] ++ [(⟨allC n, 0, 0, 0, 1⟩ : Scn)]) ++ eachC n (fun i => [(⟨[i], 1, 5, 0, 2⟩ : Scn), (⟨[i], 6, 63, 0, 2⟩ : Scn)])) ++ eachC n (fun i => [(⟨[i], 1, 63, 2, 1⟩ : Scn)])) ++ [(⟨allC n, 0, 0, 1, 0⟩ : Scn)]) ++ eachC n (fun i => [(⟨[i], 1, 63, 1, 0⟩ : Scn)])) = L := by rw [← unhide HL]; rfl
                      rw [← eL]
                      exact ⟨(unhide HA5).own, (unhide HA5).nd, fun g hg => by have := (unhide HA5).lo g hg; omega, (unhide HA5).grown⟩
                    clear HA5
                    go_wp2
                    go_ret
                    exact ⟨_, F, rfl, unhide HF⟩

theorem specScriptFor (p wd ht rs : Int) (fo : Option Addr) (n fc : Nat) (C : Nat → Nat → Int) (w : World) (hr : RdC w fo n C) (kind : Int) (fb : Bool) (HFB : Hid (frameB p wd ht rs n C = fb)) (L : List Scn) (HL : Hid (scriptG fb n kind = L)) :
    Calls Try.prog 12 #[.agg #[.int .i64 p, .int .i64 wd, .int .i64 ht, .int .i64 rs, .slice fo n fc], .int .i64 kind] w fun e w' => ∃ u F, e = .returned u ∧ OwSs w' u L F ∧ F.Nodup ∧ (∀ g ∈ F, w.heap.size ≤ g) ∧ w.grownBy w' none := by
  by_cases h : kind = 2
  · subst h
    exact specScript2 p wd ht rs fo n fc C w hr fb HFB L HL
  · exact specScript01 p wd ht rs fo n fc C w hr kind fb HFB L HL h

end Go.Proofs.Ytnjcmlmgjoaeeaa

namespace Go.Proofs.Ytnjcmlmgjoaeeaa
open Go.RowKit

/-- The cursor, as it lies in memory. -/
def Cu (w : World) (tb : Nat) (ao : Option Addr) (n cap p s : Nat) : Prop := w.heap[tb]? = some (.cells #[.slice ao n cap, .int .i64 p, .int .i64 s] 94 (0, 0))

section
variable {w : World} {tb : Nat} {ao : Option Addr} {n cap p s : Nat}
theorem Cu.c0 (h : Cu w tb ao n cap p s) : w.cell? ⟨tb, 0, none⟩ = some (.slice ao n cap) := by rw [cell_of_row w tb 0 _ _ (0, 0) h]; rfl
theorem Cu.c1 (h : Cu w tb ao n cap p s) : w.cell? ⟨tb, 1, none⟩ = some (.int .i64 p) := by rw [cell_of_row w tb 1 _ _ (0, 0) h]; rfl
theorem Cu.c2 (h : Cu w tb ao n cap p s) : w.cell? ⟨tb, 2, none⟩ = some (.int .i64 s) := by rw [cell_of_row w tb 2 _ _ (0, 0) h]; rfl
theorem Cu.fz (h : Cu w tb ao n cap p s) (j : Nat) : w.frozen? ⟨tb, j, none⟩ = false := frozen_of_row w tb j _ _ h
theorem Cu.lt (h : Cu w tb ao n cap p s) : tb < w.heap.size := by obtain ⟨h, _⟩ := Array.getElem?_eq_some_iff.1 h; exact h
theorem Cu.at (h : Cu w tb ao n cap p s) (q : Nat) : Cu (w.setCell ⟨tb, 1, none⟩ (.int .i64 q)) tb ao n cap q s := heap_setCell_same w tb 1 _ _ _ h
theorem Cu.seed (h : Cu w tb ao n cap p s) (q : Nat) : Cu (w.setCell ⟨tb, 2, none⟩ (.int .i64 q)) tb ao n cap p q := heap_setCell_same w tb 2 _ _ _ h
theorem Cu.grown {w' : World} (h : Cu w tb ao n cap p s) (hg : w.grownBy w' none) : Cu w' tb ao n cap p s := (hg.block tb h.lt (by simp)).trans h
theorem Cu.beside {w' : World} {row : Option Nat} (h : Cu w tb ao n cap p s) (hg : w.grownBy w' row) (hne : row ≠ some tb) : Cu w' tb ao n cap p s := (hg.block tb h.lt (fun e => hne e.symm)).trans h
end
/-- What a pick leaves. -/
def Picked (w : World) (tb : Nat) (ao : Option Addr) (n cap p : Nat) (k : Int) (e : Ending) (w' : World) : Prop :=
  ∃ (x : Int) (p' s' : Nat), e = .returned (.int .i64 x) ∧ 0 ≤ x ∧ x < k ∧ Cu w' tb ao n cap p' s' ∧ p' ≤ p + 2 ∧ s' < 65521 ∧ w.grownBy w' (some tb)

theorem picked_of {w w' : World} {tb : Nat} {ao : Option Addr} {n cap p p' s' : Nat} {k y : Int} {v : Value} (hv : v = .int .i64 (y % k)) (hk : 2 ≤ k) (hc : Cu w' tb ao n cap p' s') (hp : p' ≤ p + 2) (hs : s' < 65521) (hg : w.grownBy w' (some tb)) :
    Picked w tb ao n cap p k (.returned v) w' :=
  ⟨y % k, p', s', by rw [hv], Int.emod_nonneg _ (by omega), Int.emod_lt_of_pos _ (by omega), hc, hp, hs, hg⟩

set_option maxHeartbeats 1600000 in
theorem curPick_in (tb : Nat) (ao : Option Addr) (n cap p s : Nat) (k : Int) (zs : List Int) (w : World) (ht : Cu w tb ao n cap p s) (hr : Rd .u8 w ao n zs) (hne : 0 < n → ∀ b off, ao = some ⟨b, off, none⟩ → b ≠ tb)
    (hb : ∀ i, 0 ≤ zs.getD i 0 ∧ zs.getD i 0 ≤ 255) (hn : n ≤ 1048576) (hs : s < 65521) (hk : 2 ≤ k) (hk2 : k ≤ 256) (hpn : p < n) :
    Calls Try.prog 41 #[.pointer (some ⟨tb, 0, none⟩), .int .i64 k] w (Picked w tb ao n cap p k) := by
  obtain ⟨hl, hc⟩ := hr
  obtain ⟨b, off, rfl, hcb⟩ := hc p hpn
  have hbt : ¬ b = tb := hne (by omega) b off rfl
  have hbb := hb p
  have c0 := ht.c0
  have c1 := ht.c1
  have f1 := ht.fz 1
  clear hc hb hne
  generalize zs.getD p 0 = x at hcb hbb
  obtain ⟨hx0, hx1⟩ := hbb
  have hlt2 : decide (k < 2) = false := by simp; omega
  have hgt : decide (256 < k) = false := by simp; omega
  have hik : (p : Int) < (n : Int) := by omega
  go_enter Try.func41, Try.ntmps41
  go_wp2
  go_quiet (fail)
  go_wp2
  go_quiet (fail)
  go_wp2
  go_quiet (fail)
  go_wp2
  go_ret
  exact picked_of (y := x) rfl hk (Cu.at (w := w.drewN _) ht (p + 1)) (by omega) hs (grown_set' _ _ _ _ _)

set_option maxHeartbeats 1600000 in
theorem curPick_in3 (tb : Nat) (ao : Option Addr) (n cap p s : Nat) (k : Int) (zs : List Int) (w : World) (ht : Cu w tb ao n cap p s) (hr : Rd .u8 w ao n zs) (hne : 0 < n → ∀ b off, ao = some ⟨b, off, none⟩ → b ≠ tb)
    (hb : ∀ i, 0 ≤ zs.getD i 0 ∧ zs.getD i 0 ≤ 255) (hn : n ≤ 1048576) (hs : s < 65521) (hk : 2 ≤ k) (hk2 : 256 < k) (hk3 : k ≤ 2147483648) (hpn : p < n) (hp1 : n ≤ p + 1) :
    Calls Try.prog 41 #[.pointer (some ⟨tb, 0, none⟩), .int .i64 k] w (Picked w tb ao n cap p k) := by
  obtain ⟨hl, hc⟩ := hr
  obtain ⟨b, off, rfl, hcb⟩ := hc p hpn
  have hbt : ¬ b = tb := hne (by omega) b off rfl
  have hbb := hb p
  have c0 := ht.c0
  have c1 := ht.c1
  have f1 := ht.fz 1
  clear hc hb hne
  generalize zs.getD p 0 = x at hcb hbb
  obtain ⟨hx0, hx1⟩ := hbb
  have hlt2 : decide (k < 2) = false := by simp; omega
  have hgt : decide (256 < k) = true := by simp; omega
  have hge : decide ((p : Int) + 1 < (n : Int)) = false := by simp; omega
  have hik : (p : Int) < (n : Int) := by omega
  go_enter Try.func41, Try.ntmps41
  go_wp2
  go_quiet (fail)
  go_wp2
  go_quiet (fail)
  go_wp2
  go_quiet (fail)
  go_wp2
  go_ret
  exact picked_of (y := x) rfl hk (Cu.at (w := w.drewN _) ht (p + 1)) (by omega) hs (grown_set' _ _ _ _ _)

set_option maxHeartbeats 1600000 in
theorem curPick_in2 (tb : Nat) (ao : Option Addr) (n cap p s : Nat) (k : Int) (zs : List Int) (w : World) (ht : Cu w tb ao n cap p s) (hr : Rd .u8 w ao n zs) (hne : 0 < n → ∀ b off, ao = some ⟨b, off, none⟩ → b ≠ tb)
    (hb : ∀ i, 0 ≤ zs.getD i 0 ∧ zs.getD i 0 ≤ 255) (hn : n ≤ 1048576) (hs : s < 65521) (hk : 2 ≤ k) (hk2 : 256 < k) (hk3 : k ≤ 2147483648) (hp1 : p + 1 < n) :
    Calls Try.prog 41 #[.pointer (some ⟨tb, 0, none⟩), .int .i64 k] w (Picked w tb ao n cap p k) := by
  obtain ⟨hl, hc⟩ := hr
  obtain ⟨b, off, rfl, hcb⟩ := hc p (by omega)
  obtain ⟨b', off', hao, hcb'⟩ := hc (p + 1) hp1
  simp at hao
  obtain ⟨rfl, rfl⟩ := hao
  have hbb' := hb (p + 1)
  have hbt : ¬ b = tb := hne (by omega) b off rfl
  have hbb := hb p
  have c0 := ht.c0
  have c1 := ht.c1
  have f1 := ht.fz 1
  clear hc hb hne
  generalize zs.getD (p + 1) 0 = x' at hcb' hbb'
  obtain ⟨hx0', hx1'⟩ := hbb'
  generalize zs.getD p 0 = x at hcb hbb
  obtain ⟨hx0, hx1⟩ := hbb
  have hlt2 : decide (k < 2) = false := by simp; omega
  have hgt : decide (256 < k) = true := by simp; omega
  have hge : decide ((p : Int) + 1 < (n : Int)) = true := by simp; omega
  have hik1 : (p : Int) + 1 < (n : Int) := by omega
  have hik : (p : Int) < (n : Int) := by omega
  go_enter Try.func41, Try.ntmps41
  go_wp2
  go_quiet (fail)
  go_wp2
  go_quiet (fail)
  go_wp2
  go_quiet (fail)
  go_wp2
  go_quiet (fail)
  go_wp2
  go_ret
  exact picked_of (y := 256 * x + x') rfl hk (Cu.at (w := World.drewN (World.setCell (w.drewN _) _ _) _) (Cu.at (w := w.drewN _) ht (p + 1)) (p + 1 + 1)) (by omega) hs (grown_trans (grown_set' _ _ _ _ _) (grown_set' _ _ _ _ _))

set_option maxHeartbeats 1600000 in
theorem curPick_none (tb : Nat) (ao : Option Addr) (cap p s : Nat) (k : Int) (w : World) (ht : Cu w tb ao 0 cap p s) (hp : p ≤ 1000000000000) (hs : s < 65521) (hk : 2 ≤ k) (hk3 : k ≤ 2147483648) :
    Calls Try.prog 41 #[.pointer (some ⟨tb, 0, none⟩), .int .i64 k] w (Picked w tb ao 0 cap p k) := by
  have c0 := ht.c0
  have c1 := ht.c1
  have c2 := ht.c2
  have f1 := ht.fz 1
  have f2 := ht.fz 2
  have hlt2 : decide (k < 2) = false := by simp; omega
  have hpn : decide ((p : Int) < 0) = false := by simp
  go_enter Try.func41, Try.ntmps41
  go_wp2
  go_quiet (fail)
  go_wp2
  go_ret
  have e : ((s : Int) * 1103 + 12345) % 65521 = (((s * 1103 + 12345) % 65521 : Nat) : Int) := by omega
  rw [e]
  exact picked_of (y := (((s * 1103 + 12345) % 65521 : Nat) : Int) / 3) (by rw [← e]; rfl) hk (Cu.at (Cu.seed (w := w.drewN _) ht ((s * 1103 + 12345) % 65521)) (p + 1)) (by omega) (Nat.mod_lt _ (by omega)) (grown_trans (grown_set' _ _ _ _ _) (grown_set _ _ _ _))

set_option maxHeartbeats 1600000 in
theorem curPick_out (tb : Nat) (ao : Option Addr) (n cap p s : Nat) (k : Int) (zs : List Int) (w : World) (ht : Cu w tb ao n cap p s) (hr : Rd .u8 w ao n zs) (hne : 0 < n → ∀ b off, ao = some ⟨b, off, none⟩ → b ≠ tb)
    (hb : ∀ i, 0 ≤ zs.getD i 0 ∧ zs.getD i 0 ≤ 255) (hn : n ≤ 1048576) (hp : p ≤ 1000000000000) (hs : s < 65521) (hk : 2 ≤ k) (hk3 : k ≤ 2147483648) (hn0 : 0 < n) (hpn : n ≤ p) :
    Calls Try.prog 41 #[.pointer (some ⟨tb, 0, none⟩), .int .i64 k] w (Picked w tb ao n cap p k) := by
  obtain ⟨hl, hc⟩ := hr
  have hm : p % n < n := Nat.mod_lt _ hn0
  obtain ⟨b, off, rfl, hcb⟩ := hc (p % n) hm
  have hbt : ¬ b = tb := hne (by omega) b off rfl
  have hbb := hb (p % n)
  have c0 := ht.c0
  have c1 := ht.c1
  have c2 := ht.c2
  have f1 := ht.fz 1
  have f2 := ht.fz 2
  clear hc hb hne
  generalize zs.getD (p % n) 0 = x at hcb hbb
  obtain ⟨hx0, hx1⟩ := hbb
  have hlt2 : decide (k < 2) = false := by simp; omega
  have hge : decide ((p : Int) < (n : Int)) = false := by simp; omega
  have hpos : decide ((0 : Int) < (n : Int)) = true := by simp; omega
  have hmi : ((p : Int) % (n : Int)) < (n : Int) := Int.emod_lt_of_pos _ (by omega)
  have hmi0 : 0 ≤ ((p : Int) % (n : Int)) := Int.emod_nonneg _ (by omega)
  go_enter Try.func41, Try.ntmps41
  go_wp2
  go_quiet (fail)
  go_wp2
  go_quiet (fail)
  go_wp2
  go_ret
  have e : ((s : Int) * 1103 + 12345) % 65521 = (((s * 1103 + 12345) % 65521 : Nat) : Int) := by omega
  rw [e]
  exact picked_of (y := (((s * 1103 + 12345) % 65521 : Nat) : Int) / 3 + x) (by rw [← e]; rfl) hk (Cu.at (w := World.drewN (World.setCell (w.drewN _) _ _) _) (Cu.seed (w := w.drewN _) ht ((s * 1103 + 12345) % 65521)) (p + 1)) (by omega) (Nat.mod_lt _ (by omega)) (grown_trans (grown_set' _ _ _ _ _) (grown_set' _ _ _ _ _))

/-- A pick of two or more. -/
theorem curPick (tb : Nat) (ao : Option Addr) (n cap p s : Nat) (k : Int) (zs : List Int) (w : World) (ht : Cu w tb ao n cap p s) (hr : Rd .u8 w ao n zs) (hne : 0 < n → ∀ b off, ao = some ⟨b, off, none⟩ → b ≠ tb)
    (hb : ∀ i, 0 ≤ zs.getD i 0 ∧ zs.getD i 0 ≤ 255) (hn : n ≤ 1048576) (hp : p ≤ 1000000000000) (hs : s < 65521) (hk : 2 ≤ k) (hk3 : k ≤ 2147483648) :
    Calls Try.prog 41 #[.pointer (some ⟨tb, 0, none⟩), .int .i64 k] w (Picked w tb ao n cap p k) := by
  by_cases hpn : p < n
  · by_cases hk2 : k ≤ 256
    · exact curPick_in tb ao n cap p s k zs w ht hr hne hb hn hs hk hk2 hpn
    · by_cases hp1 : p + 1 < n
      · exact curPick_in2 tb ao n cap p s k zs w ht hr hne hb hn hs hk (by omega) hk3 hp1
      · exact curPick_in3 tb ao n cap p s k zs w ht hr hne hb hn hs hk (by omega) hk3 hpn (by omega)
  · by_cases hn0 : 0 < n
    · exact curPick_out tb ao n cap p s k zs w ht hr hne hb hn hp hs hk hk3 hn0 (by omega)
    · obtain rfl : n = 0 := by omega
      exact curPick_none tb ao cap p s k w ht hp hs hk hk3

/-- All that a call with a cursor wants of it, told in one. -/
structure Cur (w : World) (tb : Nat) (ao : Option Addr) (n cap : Nat) (zs : List Int) (p : Nat) : Prop where
  cu : ∃ s, Cu w tb ao n cap p s ∧ s < 65521
  rd : Rd .u8 w ao n zs
  ne : 0 < n → ∀ b off, ao = some ⟨b, off, none⟩ → b ≠ tb
  byte : ∀ i, 0 ≤ zs.getD i 0 ∧ zs.getD i 0 ≤ 255
  len : n ≤ 1048576

theorem Cur.lt {w : World} {tb : Nat} {ao : Option Addr} {n cap p : Nat} {zs : List Int} (h : Cur w tb ao n cap zs p) : tb < w.heap.size := by obtain ⟨s, h, _⟩ := h.cu; exact h.lt
theorem Cur.grown {w w' : World} {tb : Nat} {ao : Option Addr} {n cap p : Nat} {zs : List Int} (h : Cur w tb ao n cap zs p) (hg : w.grownBy w' none) : Cur w' tb ao n cap zs p :=
  ⟨by obtain ⟨s, h1, h2⟩ := h.cu; exact ⟨s, h1.grown hg, h2⟩, h.rd.grown hg, h.ne, h.byte, h.len⟩
/-- A row that is written, neither the cursor nor its code. -/
theorem Cur.beside {w w' : World} {tb : Nat} {ao : Option Addr} {n cap p : Nat} {zs : List Int} {row : Option Nat} (h : Cur w tb ao n cap zs p) (hg : w.grownBy w' row) (hrow : ∀ g, row = some g → g ≠ tb ∧ (0 < n → ∀ b off, ao = some ⟨b, off, none⟩ → b ≠ g)) : Cur w' tb ao n cap zs p := by
  cases row with
  | none => exact h.grown hg
  | some g =>
    have h1 := hrow g rfl
    exact ⟨by obtain ⟨s, h2, h3⟩ := h.cu; exact ⟨s, h2.beside hg (by simp; exact h1.1), h3⟩, h.rd.beside hg h1.2, h.ne, h.byte, h.len⟩

theorem pick_of (tb : Nat) (ao : Option Addr) (n cap p : Nat) (k : Int) (zs : List Int) (w : World) (h : Cur w tb ao n cap zs p) (hp : p ≤ 1000000000000) (hk : 2 ≤ k) (hk3 : k ≤ 2147483648) :
    Calls Try.prog 41 #[.pointer (some ⟨tb, 0, none⟩), .int .i64 k] w fun e w' => ∃ (x : Int) (p' : Nat), e = .returned (.int .i64 x) ∧ 0 ≤ x ∧ x < k ∧ Cur w' tb ao n cap zs p' ∧ p' ≤ p + 2 ∧ w.grownBy w' (some tb) := by
  obtain ⟨s, h1, h2⟩ := h.cu
  refine (curPick tb ao n cap p s k zs w h1 h.rd h.ne h.byte h.len hp h2 hk hk3).mono ?_
  rintro e w' ⟨x, p', s', he, hx0, hx1, hc, hp', hs', hg⟩
  exact ⟨x, p', he, hx0, hx1, ⟨⟨s', hc, hs'⟩, h.rd.beside hg h.ne, h.ne, h.byte, h.len⟩, hp', hg⟩

theorem pick_small (tb : Nat) (k : Int) (w : World) (hk : k < 2) :
    Calls Try.prog 41 #[.pointer (some ⟨tb, 0, none⟩), .int .i64 k] w fun e w' => e = .returned (.int .i64 0) ∧ w = w' := by
  have hlt2 : decide (k < 2) = true := by simp; omega
  go_enter Try.func41, Try.ntmps41
  go_wp2
  go_ret
  exact ⟨rfl, rfl⟩

theorem open_of (ao : Option Addr) (n cap : Nat) (zs : List Int) (w : World) (hr : Rd .u8 w ao n zs) (hb : ∀ i, 0 ≤ zs.getD i 0 ∧ zs.getD i 0 ≤ 255) (hn : n ≤ 1048576) :
    Calls Try.prog 36 #[.slice ao n cap] w fun e w' => e = .returned (.pointer (some ⟨w.heap.size, 0, none⟩)) ∧ Cur w' w.heap.size ao n cap zs 0 ∧ w.grownBy w' none := by
  have hlt := hr.lt
  have HR := hide hr
  have HB := hide hb
  clear hr hb
  go_enter Try.func36, Try.ntmps36
  go_wp2
  go_ret
  have e : 13 + (n : Int) % 1000 = ((13 + n % 1000 : Nat) : Int) := by omega
  rw [e]
  exact ⟨rfl, ⟨⟨13 + n % 1000, heap_alloc_new w _, by omega⟩, (unhide HR).grown (World.grownBy_alloc _ _ _), fun h b off e => by have := hlt h b off e; omega, unhide HB, hn⟩, World.grownBy_alloc _ _ _⟩

end Go.Proofs.Ytnjcmlmgjoaeeaa

namespace Go.Proofs.Ytnjcmlmgjoaeeaa
open Go.RowKit

set_option maxHeartbeats 800000 in
theorem once_of (tb : Nat) (ao : Option Addr) (n cap p : Nat) (k : Int) (zs : List Int) (w : World) (h : Cur w tb ao n cap zs p) (hp : p ≤ 1000000000000) (hk : 2 ≤ k) (hk3 : k ≤ 2147483648) :
    Calls Try.prog 39 #[.pointer (some ⟨tb, 0, none⟩), .int .i64 k] w fun e w' => ∃ (t : Bool) (p' : Nat), e = .returned (.bool t) ∧ Cur w' tb ao n cap zs p' ∧ p' ≤ p + 2 ∧ w.grownBy w' (some tb) := by
  have H := hide h
  clear h
  go_enter Try.func39, Try.ntmps39
  go_wp2_with fail
  refine (pick_of tb ao n cap p k zs w (unhide H) hp hk hk3).mono ?_
  rintro e w1 ⟨x, p', rfl, hx0, hx1, hc, hp', hg⟩
  go_wp2
  go_ret
  exact ⟨_, p', rfl, hc, hp', hg⟩

/-- A pick, whatever it is asked. -/
theorem pick_any (tb : Nat) (ao : Option Addr) (n cap p : Nat) (k : Int) (zs : List Int) (w : World) (h : Cur w tb ao n cap zs p) (hp : p ≤ 1000000000000) (hk : 1 ≤ k) (hk3 : k ≤ 2147483648) :
    Calls Try.prog 41 #[.pointer (some ⟨tb, 0, none⟩), .int .i64 k] w fun e w' => ∃ (x : Int) (p' : Nat), e = .returned (.int .i64 x) ∧ 0 ≤ x ∧ x < k ∧ Cur w' tb ao n cap zs p' ∧ p' ≤ p + 2 ∧ w.grownBy w' (some tb) := by
  by_cases h2 : 2 ≤ k
  · exact pick_of tb ao n cap p k zs w h hp h2 hk3
  · refine (pick_small tb k w (by omega)).mono ?_
    rintro e w' ⟨rfl, rfl⟩
    exact ⟨0, p, rfl, by omega, by omega, h, by omega, World.grownBy.refl _ _⟩

end Go.Proofs.Ytnjcmlmgjoaeeaa

namespace Go.Proofs.Ytnjcmlmgjoaeeaa
open Go.RowKit

set_option maxHeartbeats 800000 in
theorem odd_of (tb : Nat) (ao : Option Addr) (n cap p : Nat) (zs : List Int) (w : World) (h : Cur w tb ao n cap zs p) (hp : p ≤ 1000000000) :
    Calls Try.prog 66 #[.pointer (some ⟨tb, 0, none⟩)] w fun e w' => ∃ (y : Int) (p' : Nat), e = .returned (.int .i64 y) ∧ Cur w' tb ao n cap zs p' ∧ p' ≤ p + 2 ∧ w.grownBy w' (some tb) := by
  have H := hide h
  have htb := h.lt
  clear h
  go_enter Try.func66, Try.ntmps66
  go_wp2_with fail
  obtain ⟨cs, hcs, hlen⟩ : ∃ cs : List Int, (#[.int .i64 (-1), .int .i64 0, .int .i64 1, .int .i64 2, .int .i64 255, .int .i64 256, .int .i64 65535, .int .i64 9223372036854775807, .int .i64 (-9223372036854775808), .int .i64 17, .int .i64 8, .int .i64 12] : Array Value) = (cs.map (Value.int .i64)).toArray ∧ cs.length = 12 :=
    ⟨[-1, 0, 1, 2, 255, 256, 65535, 9223372036854775807, -9223372036854775808, 17, 8, 12], rfl, rfl⟩
  rw [hcs]
  clear hcs
  have hc1 := (unhide H).grown (World.grownBy_alloc w (.cells (cs.map (Value.int .i64)).toArray 3) none)
  refine (pick_of tb ao n cap p 12 zs _ hc1 (by omega) (by omega) (by omega)).mono ?_
  rintro e w1 ⟨x, p', rfl, hx0, hx1, hc, hp', hg⟩
  obtain ⟨i, rfl⟩ := Int.eq_ofNat_of_zero_le hx0
  have hblk : w1.heap[w.heap.size]? = some (.cells (cs.map (Value.int .i64)).toArray 3 (0, 0)) :=
    (hg.block w.heap.size (by simp) (by simp; omega)).trans (heap_alloc_new w _)
  have hcell : w1.cell? ⟨w.heap.size, i, none⟩ = some (.int .i64 (cs.getD i 0)) := by
    rw [cell_of_row w1 _ i _ _ (0, 0) hblk]
    simp [show i < cs.length by omega]
  have G := grown_trans (World.grownBy_alloc w (.cells (cs.map (Value.int .i64)).toArray 3) (some tb)) hg
  generalize cs.getD i 0 = y at hcell
  clear hblk hc1 hx0 hlen
  go_wp2
  go_ret
  exact ⟨y, p', rfl, hc, hp', G⟩

end Go.Proofs.Ytnjcmlmgjoaeeaa

namespace Go.Proofs.Ytnjcmlmgjoaeeaa
open Go.RowKit

theorem info_bd : (Try.prog.info? 3).map (fun i => (i.zero, i.size, i.bytes)) = some (some (.int .i64 0), 1, 8) := by kernel_rfl

theorem grown_newR {a b c : World} {r row : Option Nat} (h : a.grownBy b r) (hg : b.grownBy c row) (hge : ∀ g, row = some g → a.heap.size ≤ g) : a.grownBy c r :=
  ⟨hg.os.trans h.os, hg.tape.trans h.tape, hg.output.trans h.output, Nat.le_trans h.size hg.size, fun k hk hr => (hg.block k (Nat.lt_of_lt_of_le hk h.size) (by intro e; have := hge k e.symm; omega)).trans (h.block k hk hr)⟩

theorem append_intR {w : World} {ops : Array Oper} {rest : List Oper} {o : Oper} {a : Act} {Q : Exit → Act → World → Prop} (hgd : o.guard = none) (s x : Operand)
    (ho : o.op = .call { callee := .builtin .append, args := #[s, x], argTypes := #[36, 36] })
    (B : World) (r : Option Nat) (v : Value) (n : Nat) (xs : List Int) (hs : a.eval s = v) (hown : w.ownsRow B.heap.size 3 1 v n (xs.map (Value.int .i64))) (z : Int) (hx : a.eval x = .slice (some ⟨w.heap.size, 0, none⟩) 1 1)
    (hb : n + 1 ≤ 1000000) (hB : B.grownBy w r)
    (h : ∀ v' w', w'.ownsRow B.heap.size 3 1 v' (n + 1) ((xs ++ [z]).map (Value.int .i64)) → B.grownBy w' r → w.grownBy w' v.ownBlock → wpList Try.prog ops Q rest (a.put o.dst v') w') :
    wpList Try.prog ops Q (o :: rest) a (w.alloc (.cells #[.int .i64 z] 3)) := by
  obtain ⟨i0, hi, hz0, hz1, hz2⟩ := info_parts info_bd
  refine wpList_append_own _ hgd s x 36 ho B.heap.size 3 i0 (.int .i64 0) 1 8 Try.underlying36 hi hz0 hz1 hz2 rfl (by decide) v n _ hs (hown.alloc _) ⟨w.heap.size, 0, none⟩ 1 1 [.int .i64 z] hx rfl (cell_one_new _ _ _) (by intro u hu; simp at hu; subst hu; rfl) (by unfold maxLen; omega) (by omega) (by have := hB.size; simp; omega) ?_
  intro v' w' h1 h2 _
  exact h v' w' (by rw [List.map_append]; exact h1) (grown_newR (grown_trans hB (World.grownBy_alloc _ _ _)) h2 (fun g e => (hown.lt g e).1)) (grown_trans (World.grownBy_alloc _ _ _) h2)

/-- What a block's drawing leaves behind k rounds. -/
structure Dr (w : World) (tb : Nat) (ao : Option Addr) (n cap : Nat) (zs : List Int) (p : Nat) (wr : World) (v : Value) (k : Nat) : Prop where
  own : ∃ xs : List Int, wr.ownsRow w.heap.size 3 1 v k (xs.map (Value.int .i64))
  cur : ∃ q, q ≤ p + 8 * k ∧ Cur wr tb ao n cap zs q
  grown : w.grownBy wr (some tb)

theorem own_cap {w : World} {base : Nat} {e : TypeId} {ao : Option Addr} {n cap : Nat} {xs : List Value} (h : w.ownsRow base e 1 (.slice ao n cap) n xs) : n ≤ cap := by
  rcases h.2 with ⟨h1, h2⟩ | ⟨g, cap', cur, h1, _, _, h4, _⟩
  · omega
  · simp only [Value.slice.injEq, true_and] at h1
    omega

end Go.Proofs.Ytnjcmlmgjoaeeaa

namespace Go.Proofs.Ytnjcmlmgjoaeeaa
open Go.RowKit

/-- What does not change while a script is drawn. -/
structure Dy (w : World) (tb : Nat) (ao : Option Addr) (n : Nat) : Prop where
  l1 : tb < w.heap.size
  code : 0 < n → ∀ b off, ao = some ⟨b, off, none⟩ → b < w.heap.size

/-- A script while it is drawn, beside the box of a frame and the drawer. -/
structure Ds (w : World) (tb : Nat) (fx : Array Value) (ao : Option Addr) (n cap : Nat) (zs : List Int) (wr : World) (v : Value) (X : List Scn) (F : List Nat) (q : Nat) : Prop where
  own : OwSs wr v X F
  nd : F.Nodup
  lo : ∀ g ∈ F, w.heap.size + 1 ≤ g
  fr : wr.heap[w.heap.size]? = some (.cells fx 26 (0, 0))
  cur : Cur wr tb ao n cap zs q
  grown : w.grownBy wr (some tb)

section
variable {w wr w' : World} {tb : Nat} {fx : Array Value} {ao : Option Addr} {n cap : Nat} {zs : List Int} {v v' : Value} {X R : List Scn} {F F' G : List Nat} {q q' : Nat}

theorem Ds.new (h : Ds w tb fx ao n cap zs wr v X F q) (g : wr.grownBy w' none) : Ds w tb fx ao n cap zs w' v X F q :=
  ⟨OwSs.ok.keep h.own g, h.nd, h.lo, at_rowS g h.fr (by simp), h.cur.grown g, grown_trans h.grown (grown_any g)⟩
theorem Ds.pick (h : Ds w tb fx ao n cap zs wr v X F q) (d : Dy w tb ao n) (c : Cur w' tb ao n cap zs q') (g : wr.grownBy w' (some tb)) : Ds w tb fx ao n cap zs w' v X F q' := by
  have l1 := d.l1
  exact ⟨OwSs.ok.wr h.own (Wr.ofRow (F := [tb]) g (fun x e => by simp at e; simp [e])) (fun x hx e => by simp at e; have := h.lo x hx; omega), h.nd, h.lo, at_rowS g h.fr (fun e => by have := Option.some.inj e; omega), c, grown_trans h.grown g⟩
theorem Ds.size (h : Ds w tb fx ao n cap zs wr v X F q) : w.heap.size + 1 ≤ wr.heap.size := (Array.getElem?_eq_some_iff.1 h.fr).1
theorem Ds.blkF (h : Ds w tb fx ao n cap zs wr v X F q) : ∀ g, v.ownBlock = some g → g ∈ F := fun g e => by
  obtain ⟨U, Fs, _, _, _, e9⟩ := h.own
  rw [e9]; simp [mem_blk.2 e]
/-- Another script comes in its place, in its own blocks or in new ones. -/
theorem Ds.other (h : Ds w tb fx ao n cap zs wr v X F q) (d : Dy w tb ao n) (o : OwSs w' v' R F') (nd : F'.Nodup) (hm : ∀ x ∈ F', w.heap.size + 1 ≤ x) {H : List Nat} (g : Wr H wr w') (hH : ∀ x ∈ H, w.heap.size + 1 ≤ x) : Ds w tb fx ao n cap zs w' v' R F' q := by
  have l1 := d.l1
  have hs := h.size
  have hl := h.cur.lt
  refine ⟨o, nd, hm, (g.block _ (by omega) (fun e => by have := hH _ e; omega)).trans h.fr, ?_, ?_⟩
  · refine ⟨?_, ?_, h.cur.ne, h.cur.byte, h.cur.len⟩
    · obtain ⟨s, c1, c2⟩ := h.cur.cu
      exact ⟨s, (g.block tb hl (fun e => by have := hH _ e; omega)).trans c1, c2⟩
    · refine ⟨h.cur.rd.1, fun i hi => ?_⟩
      obtain ⟨b, off, e1, e2⟩ := h.cur.rd.2 i hi
      have hb := d.code (by omega) b off e1
      refine ⟨b, off, e1, ?_⟩
      have h9 := g.block b (by omega) (fun e => by have := hH _ e; omega)
      rw [← e2]
      simp only [World.cell?, h9]
  · exact ⟨g.os.trans h.grown.os, g.tape.trans h.grown.tape, g.output.trans h.grown.output, Nat.le_trans h.grown.size g.size, fun k hk hne => (g.block k (by have := h.grown.size; omega) (fun e => by have := hH _ e; omega)).trans (h.grown.block k hk hne)⟩
end

/-- Scans are appended to a script that is drawn. -/
theorem Ds.app {w wr wn : World} {tb : Nat} {fx : Array Value} {ao : Option Addr} {n cap : Nat} {zs : List Int} {v : Value} {X : List Scn} {F : List Nat} {q : Nat} (h : Ds w tb fx ao n cap zs wr v X F q) (d : Dy w tb ao n) (gn : wr.grownBy wn none) {ops : Array Oper} {rest : List Oper} {o : Oper} {a : Act} {Q : Exit → Act → World → Prop} (hgd : o.guard = none) (s x : Operand)
    (ho : o.op = .call { callee := .builtin .append, args := #[s, x], argTypes := #[27, 27] }) (hs : a.eval s = v) (u : Value) (y : Scn) (G : List Nat) (hu : OwI .i64 3 wn u y.cs G) (hG : G.Nodup) (hlo : ∀ x ∈ G, wr.heap.size ≤ x) (cs : Array Value) (hcs : cs = #[u, .int .i64 y.fr, .int .i64 y.to, .int .i64 y.hi, .int .i64 y.lo])
    (H : Nat) (hH : wn.heap.size = H) (hx : a.eval x = .slice (some ⟨H, 0, none⟩) 1 1) (hb : X.length ≤ 10000)
    (hK : ∀ v' w' F', Ds w tb fx ao n cap zs w' v' (X ++ [y]) F' q → wpList Try.prog ops Q rest (a.put o.dst v') w') :
    wpList Try.prog ops Q (o :: rest) a (wn.alloc (.cells cs 38)) := by
  subst hcs
  have hn := h.new gn
  have h1 : ∀ i (h : i < [y].length), OwScE wn (five u (.int .i64 y.fr) (.int .i64 y.to) (.int .i64 y.hi) (.int .i64 y.lo)) [y][i] ([G].getD i []) := fun i hi => by
    obtain rfl : i = 0 := by simpa using hi
    exact ⟨⟨rfl, rfl, rfl, rfl⟩, hu⟩
  refine append_rowsG (w := wn) OwScE.ok Try.underlying27 info_scan rfl (by decide) (by decide) hgd s x ho v X F hs hn.own hn.nd _ 1 (fun _ => five u (.int .i64 y.fr) (.int .i64 y.to) (.int .i64 y.hi) (.int .i64 y.lo)) rfl [y] rfl [G] rfl h1 (by simpa using hG) (fun z hz hF => ?_) ?_ H hH hx (by omega) _ rfl ?_
  · have e1 := hlo z (by simpa using hz)
    have e2 := OwSs.ok.lt _ _ _ _ h.own z hF
    omega
  · intro z hz
    obtain ⟨uo, un, uc, rfl⟩ := (OwI.ok .i64 3).form _ _ _ _ hu
    simp at hz
    rcases hz with rfl | rfl | rfl | rfl | rfl <;> rfl
  · intro v' w' F' o' n' m' g'
    have gs := gn.size
    have hz := h.size
    refine hK v' w' F' (hn.other d o' n' (fun z hz => ?_) g' (fun z hz => h.lo z (h.blkF z (mem_blk.1 hz))))
    rcases m' z hz with e | e | e
    · exact h.lo z e
    · have := hlo z (by simpa using e); omega
    · omega

/-- How long a script is that is drawn: no scan has more than m components. -/
def Few (m : Nat) (X : List Scn) : Prop := ∀ a ∈ X, a.cs.length ≤ m
theorem Few.snoc {m : Nat} {X : List Scn} {y : Scn} (h : Few m X) (hy : y.cs.length ≤ m) : Few m (X ++ [y]) := fun a ha => by
  rcases List.mem_append.1 ha with h1 | h1
  · exact h a h1
  · simp at h1; subst h1; exact hy
theorem few_script {fb : Bool} {n : Nat} {kind : Int} {C : Nat → Nat → Int} {p wd ht rs : Int} (HFB : frameB p wd ht rs n C = fb) : Few 4 (scriptG fb n kind) ∧ (scriptG fb n kind).length ≤ 1000 := by
  cases fb with
  | false => exact ⟨fun a ha => by simp [scriptG] at ha, Nat.zero_le _⟩
  | true =>
    have h4 := (geo_of HFB).n4
    have hn : n = 0 ∨ n = 1 ∨ n = 2 ∨ n = 3 ∨ n = 4 := by omega
    by_cases h0 : kind = 0
    · subst h0; rcases hn with rfl | rfl | rfl | rfl | rfl <;> exact ⟨by unfold Few; decide, by decide⟩
    · by_cases h1 : kind = 1
      · subst h1; rcases hn with rfl | rfl | rfl | rfl | rfl <;> exact ⟨by unfold Few; decide, by decide⟩
      · by_cases h2 : kind = 2
        · subst h2; rcases hn with rfl | rfl | rfl | rfl | rfl <;> exact ⟨by unfold Few; decide, by decide⟩
        · have e : scriptG true n kind = [] := by unfold scriptG; rw [if_pos rfl, if_neg h0, if_neg h1, if_neg h2]
          rw [e]
          exact ⟨fun a ha => by simp at ha, Nat.zero_le _⟩

set_option maxRecDepth 20000 in
set_option maxHeartbeats 6400000 in
theorem drawScript (tb : Nat) (ao : Option Addr) (n cap p0 : Nat) (zs : List Int) (w : World) (h : Cur w tb ao n cap zs p0) (hp : p0 ≤ 1000000) (hcode : 0 < n → ∀ b off, ao = some ⟨b, off, none⟩ → b < w.heap.size) (p wd ht rs : Int) (fo : Option Addr) (fn fc : Nat) (C : Nat → Nat → Int) (base : Nat) (hfo : w.ownsRow base 68 4 (.slice fo fn fc) fn (rowsK fn 4 (compCells C))) (htb : tb < base) (hf5 : fn ≤ 5) :
    Calls Try.prog 38 #[.pointer (some ⟨tb, 0, none⟩), .agg #[.int .i64 p, .int .i64 wd, .int .i64 ht, .int .i64 rs, .slice fo fn fc]] w fun e w' => ∃ v X F q, e = .returned v ∧ OwSs w' v X F ∧ F.Nodup ∧ (∀ g ∈ F, w.heap.size ≤ g) ∧ Few 4 X ∧ X.length ≤ 1000 ∧ Cur w' tb ao n cap zs q ∧ q ≤ p0 + 5000 ∧ w.grownBy w' (some tb) := by
  have hl := h.lt
  obtain ⟨fb, HFB⟩ : ∃ fb, Hid (frameB p wd ht rs fn C = fb) := ⟨_, hide rfl⟩
  obtain ⟨W1, HW1⟩ : ∃ W1, Hid (w.alloc (.cells #[.int .i64 p, .int .i64 wd, .int .i64 ht, .int .i64 rs, .slice fo fn fc] 26) = W1) := ⟨_, hide rfl⟩
  have G0 : w.grownBy W1 none := by rw [← unhide HW1]; exact World.grownBy_alloc _ _ _
  have B0 : W1.heap[w.heap.size]? = some (.cells #[.int .i64 p, .int .i64 wd, .int .i64 ht, .int .i64 rs, .slice fo fn fc] 26 (0, 0)) := by rw [← unhide HW1]; exact heap_alloc_new w _
  have DY : Hid (Dy w tb ao n) := ⟨hl, hcode⟩
  have D0 : Hid (Ds w tb #[.int .i64 p, .int .i64 wd, .int .i64 ht, .int .i64 rs, .slice fo fn fc] ao n cap zs W1 (.slice none 0 0) [] [] p0) := ⟨OwG.nil _ _ _ _, by simp, fun g hg => by simp at hg, B0, h.grown G0, grown_any G0⟩
  have HFO := hide (own_grown hfo G0)
  clear h hcode hfo B0 G0
  go_enter Try.func38, Try.ntmps38
  go_wp2_with fail
  rw [unhide HW1]
  clear HW1
  refine (pick_of tb ao n cap p0 3 zs W1 (unhide D0).cur (by omega) (by omega) (by omega)).mono ?_
  rintro e w1 ⟨x1, q1, rfl, hx1, hy1, hc1, hq1, g1⟩
  have D1 := hide ((unhide D0).pick (unhide DY) hc1 g1)
  have HF1 := hide (own_beneath (unhide HFO) g1 (fun a b e1 e2 => by have := ((unhide HFO).lt a e1).1; simp at e2; omega))
  clear D0 HFO hc1 g1
  by_cases hx0 : x1 = 0
  · subst hx0
    have gA : w1.grownBy (w1.alloc (.cells #[] 38)) none := World.grownBy_alloc _ _ _
    have O0 : OwSs (w1.alloc (.cells #[] 38)) (.slice (some ⟨w1.heap.size, 0, none⟩) 0 0) [] [w1.heap.size] :=
      ⟨fun _ _ => .slice none 0 0, [], rfl, (by have := World.ownsRow_lit w1 (e := 38) (size := 5) (base := 0) #[] 0 (Nat.zero_le _) (by unfold maxLen; omega) rfl; exact this), fun i hi => absurd hi (by simp), rfl⟩
    have D2 : Hid (Ds w tb #[.int .i64 p, .int .i64 wd, .int .i64 ht, .int .i64 rs, .slice fo fn fc] ao n cap zs (w1.alloc (.cells #[] 38)) (.slice (some ⟨w1.heap.size, 0, none⟩) 0 0) [] [w1.heap.size] q1) := by
      have hs := (unhide D1).size
      exact ((unhide D1).new gA).other (unhide DY) O0 (by simp) (fun x hx => by simp at hx; omega) (Wr.refl [] _) (fun x hx => by simp at hx)
    clear D1 gA O0 HF1 hx1 hy1
    go_wp2
    go_loopw [5, 6] (fun ov iv wr => ∃ (i : Nat) (vo : Option Addr) (vn vc : Nat) (X : List Scn) (F : List Nat) (q : Nat), i ≤ fn ∧ iv = .int .i64 i ∧ ov = .slice vo vn vc ∧ Hid (Ds w tb #[.int .i64 p, .int .i64 wd, .int .i64 ht, .int .i64 rs, .slice fo fn fc] ao n cap zs wr (.slice vo vn vc) X F q) ∧ Hid (Few 4 X) ∧ X.length ≤ 192 * i ∧ q ≤ q1 + 256 * i) (fun _ iv _ => fn - (intOf iv).toNat)
    case atStart => exact ⟨0, _, _, _, [], _, q1, Nat.zero_le _, rfl, rfl, D2, fun a ha => by simp at ha, by simp, by omega⟩
    case round =>
      clear D2
      obtain ⟨i, vo, vn, vc, X, F, q, hin, rfl, rfl, hD, hX, hxl, hq⟩ := hrel
      have c4 : wr.cell? ⟨w.heap.size, 4, none⟩ = some (.slice fo fn fc) := (frameCells' (unhide hD).fr).2.2.2.2
      by_cases hlt : i < fn
      · have hd : decide ((i : Int) < (fn : Int)) = true := decide_eq_true (by omega)
        go_wp2
        go_loopw [5, 7] (fun ov kv wr => ∃ (k : Nat) (vo : Option Addr) (vn vc : Nat) (X : List Scn) (F : List Nat) (q : Nat), k ≤ 64 ∧ kv = .int .i64 k ∧ ov = .slice vo vn vc ∧ Hid (Ds w tb #[.int .i64 p, .int .i64 wd, .int .i64 ht, .int .i64 rs, .slice fo fn fc] ao n cap zs wr (.slice vo vn vc) X F q) ∧ Hid (Few 4 X) ∧ X.length ≤ 192 * i + 3 * k ∧ q ≤ q1 + 256 * i + 4 * k) (fun _ kv _ => 64 - (intOf kv).toNat)
        case atStart => exact ⟨0, _, _, _, X, F, q, by omega, rfl, rfl, hD, hX, by omega, by omega⟩
        case round =>
          clear hD hX c4 hxl hq
          obtain ⟨k, vo, vn, vc, X, F, q, hk, rfl, rfl, hD, hX, hxl, hq⟩ := hrel
          by_cases hk4 : k < 64
          · have hd2 : decide ((k : Int) < 64) = true := decide_eq_true (by omega)
            go_wp2_with fail
            refine (pick_of tb ao n cap q 64 zs wr (unhide hD).cur (by omega) (by omega) (by omega)).mono ?_
            rintro e w2 ⟨x2, q2, rfl, hx2, hy2, hc2, hq2, g2⟩
            have E2 := hide ((unhide hD).pick (unhide DY) hc2 g2)
            clear hD hc2 g2
            obtain ⟨y, hy⟩ : ∃ y : Nat, x2 = (y : Int) := ⟨x2.toNat, by omega⟩
            subst hy
            by_cases hto : 63 < k + y
            · have hd4 : decide ((63 : Int) < (k : Int) + (y : Int)) = true := decide_eq_true (by omega)
              go_wp2_with fail
              refine (pick_of tb ao n cap q2 3 zs w2 (unhide E2).cur (by omega) (by omega) (by omega)).mono ?_
              rintro e w3 ⟨x3, q3, rfl, hx3, hy3, hc3, hq3, g3⟩
              have E3 := hide ((unhide E2).pick (unhide DY) hc3 g3)
              clear E2 hc3 g3
              obtain ⟨l0, hl0⟩ : ∃ l0 : Nat, x3 = (l0 : Int) := ⟨x3.toNat, by omega⟩
              subst hl0
              have HGA : Hid (w3.grownBy (w3.alloc (.cells #[.int .i64 (i : Int)] 3)) none) := World.grownBy_alloc _ _ _
              have HU : Hid (OwI .i64 3 (w3.alloc (.cells #[.int .i64 (i : Int)] 3)) (.slice (some ⟨w3.heap.size, 0, none⟩) 1 1) [(i : Int)] [w3.heap.size]) := ⟨World.ownsRow_lit w3 #[.int .i64 (i : Int)] 1 (Nat.zero_le _) (by unfold maxLen; omega) rfl, rfl⟩
              go_wp2_with (at_builtin; refine Ds.app (wn := w3.alloc (.cells #[.int .i64 (i : Int)] 3)) (unhide E3) (unhide DY) (unhide HGA) rfl _ _ rfl rfl (.slice (some ⟨w3.heap.size, 0, none⟩) 1 1) ⟨[(i : Int)], (k : Int), 63, 0, (l0 : Int)⟩ [w3.heap.size] (unhide HU) (by simp) (fun x hx => by simp at hx; omega) _ rfl (w3.heap.size + 1) (by simp) rfl (by omega) ?_)
              intro v4 w4 F4 S4
              obtain ⟨X4, HX4⟩ : ∃ X4, Hid (X ++ [(⟨[(i : Int)], (k : Int), 63, 0, (l0 : Int)⟩ : Scn)] = X4) := ⟨_, hide rfl⟩
              have hxl4 : X4.length = X.length + 1 := by rw [← unhide HX4]; simp
              have hX4 : Hid (Few 4 X4) := by rw [← unhide HX4]; exact (unhide hX).snoc (by simp)
              rw [unhide HX4] at S4
              obtain ⟨vo4, vc4, rfl⟩ := OwG.form S4.own
              obtain ⟨ln, HLN⟩ : ∃ ln, Hid (X4.length = ln) := ⟨_, hide rfl⟩
              have hxb : X4.length + l0 ≤ 192 * i + 3 * k + 3 := by omega
              rw [unhide HLN] at S4 ⊢
              have E4 := hide S4
              clear S4 E3 HGA HU HX4 HLN hxl4 hX hxl
              go_wp2
              go_loopw [5, 9] (fun ov lv wr => ∃ (l : Nat) (vo : Option Addr) (vn vc : Nat) (X : List Scn) (F : List Nat), l ≤ 2 ∧ lv = .int .i64 l ∧ ov = .slice vo vn vc ∧ Hid (Ds w tb #[.int .i64 p, .int .i64 wd, .int .i64 ht, .int .i64 rs, .slice fo fn fc] ao n cap zs wr (.slice vo vn vc) X F q3) ∧ Hid (Few 4 X) ∧ X.length + l ≤ 192 * i + 3 * k + 3) (fun _ lv _ => (intOf lv).toNat)
              case atStart => exact ⟨l0, _, _, _, X4, F4, by omega, rfl, rfl, E4, hX4, hxb⟩
              case round =>
                clear E4 hX4 hxb hx3 hy3
                obtain ⟨l, vo, vn, vc, X, F, hl2, rfl, rfl, hD, hX, hxl⟩ := hrel
                by_cases hl0 : l = 0
                · subst hl0
                  have hd3 : decide ((0 : Int) < ((0 : Nat) : Int)) = false := decide_eq_false (by omega)
                  go_wp2
                  go_roundw
                  case rel => exact ⟨63 + 1, vo, vn, vc, X, F, q3, by omega, by go_num, rfl, hD, hX, by omega, by omega⟩
                  case measure => simp [intOf]; omega
                · obtain ⟨l, rfl⟩ : ∃ l1, l = l1 + 1 := ⟨l - 1, by omega⟩
                  have hd3 : decide ((0 : Int) < ((l + 1 : Nat) : Int)) = true := decide_eq_true (by omega)
                  have el : ((l + 1 : Nat) : Int) - 1 = (l : Int) := by omega
                  have HGA : Hid (wr.grownBy (wr.alloc (.cells #[.int .i64 (i : Int)] 3)) none) := World.grownBy_alloc _ _ _
                  have HU : Hid (OwI .i64 3 (wr.alloc (.cells #[.int .i64 (i : Int)] 3)) (.slice (some ⟨wr.heap.size, 0, none⟩) 1 1) [(i : Int)] [wr.heap.size]) := ⟨World.ownsRow_lit wr #[.int .i64 (i : Int)] 1 (Nat.zero_le _) (by unfold maxLen; omega) rfl, rfl⟩
                  go_wp2_with (at_builtin; refine Ds.app (wn := wr.alloc (.cells #[.int .i64 (i : Int)] 3)) (unhide hD) (unhide DY) (unhide HGA) rfl _ _ rfl rfl (.slice (some ⟨wr.heap.size, 0, none⟩) 1 1) ⟨[(i : Int)], (k : Int), 63, (l : Int) + 1, (l : Int)⟩ [wr.heap.size] (unhide HU) (by simp) (fun x hx => by simp at hx; omega) _ rfl (wr.heap.size + 1) (by simp) rfl (by omega) ?_)
                  intro v4 w4 F4 S4
                  obtain ⟨X4, HX4⟩ : ∃ X4, Hid (X ++ [(⟨[(i : Int)], (k : Int), 63, (l : Int) + 1, (l : Int)⟩ : Scn)] = X4) := ⟨_, hide rfl⟩
                  have hxl4 : X4.length = X.length + 1 := by rw [← unhide HX4]; simp
                  have hX4 : Hid (Few 4 X4) := by rw [← unhide HX4]; exact (unhide hX).snoc (by simp)
                  rw [unhide HX4] at S4
                  obtain ⟨vo4, vc4, rfl⟩ := OwG.form S4.own
                  obtain ⟨ln, HLN⟩ : ∃ ln, Hid (X4.length = ln) := ⟨_, hide rfl⟩
                  have hxb : X4.length + l ≤ 192 * i + 3 * k + 3 := by omega
                  rw [unhide HLN] at S4 ⊢
                  have E4 := hide S4
                  clear S4 HGA HU HX4 HLN hxl4 hX hxl hD
                  go_wp2
                  go_roundw
                  case rel => exact ⟨l, vo4, ln, vc4, X4, F4, by omega, by go_num, rfl, E4, hX4, hxb⟩
                  case measure => simp [intOf]
            · have hd4 : decide ((63 : Int) < (k : Int) + (y : Int)) = false := decide_eq_false (by omega)
              go_wp2_with fail
              refine (pick_of tb ao n cap q2 3 zs w2 (unhide E2).cur (by omega) (by omega) (by omega)).mono ?_
              rintro e w3 ⟨x3, q3, rfl, hx3, hy3, hc3, hq3, g3⟩
              have E3 := hide ((unhide E2).pick (unhide DY) hc3 g3)
              clear E2 hc3 g3
              obtain ⟨l0, hl0⟩ : ∃ l0 : Nat, x3 = (l0 : Int) := ⟨x3.toNat, by omega⟩
              subst hl0
              have HGA : Hid (w3.grownBy (w3.alloc (.cells #[.int .i64 (i : Int)] 3)) none) := World.grownBy_alloc _ _ _
              have HU : Hid (OwI .i64 3 (w3.alloc (.cells #[.int .i64 (i : Int)] 3)) (.slice (some ⟨w3.heap.size, 0, none⟩) 1 1) [(i : Int)] [w3.heap.size]) := ⟨World.ownsRow_lit w3 #[.int .i64 (i : Int)] 1 (Nat.zero_le _) (by unfold maxLen; omega) rfl, rfl⟩
              go_wp2_with (at_builtin; refine Ds.app (wn := w3.alloc (.cells #[.int .i64 (i : Int)] 3)) (unhide E3) (unhide DY) (unhide HGA) rfl _ _ rfl rfl (.slice (some ⟨w3.heap.size, 0, none⟩) 1 1) ⟨[(i : Int)], (k : Int), (k : Int) + (y : Int), 0, (l0 : Int)⟩ [w3.heap.size] (unhide HU) (by simp) (fun x hx => by simp at hx; omega) _ rfl (w3.heap.size + 1) (by simp) rfl (by omega) ?_)
              intro v4 w4 F4 S4
              obtain ⟨X4, HX4⟩ : ∃ X4, Hid (X ++ [(⟨[(i : Int)], (k : Int), (k : Int) + (y : Int), 0, (l0 : Int)⟩ : Scn)] = X4) := ⟨_, hide rfl⟩
              have hxl4 : X4.length = X.length + 1 := by rw [← unhide HX4]; simp
              have hX4 : Hid (Few 4 X4) := by rw [← unhide HX4]; exact (unhide hX).snoc (by simp)
              rw [unhide HX4] at S4
              obtain ⟨vo4, vc4, rfl⟩ := OwG.form S4.own
              obtain ⟨ln, HLN⟩ : ∃ ln, Hid (X4.length = ln) := ⟨_, hide rfl⟩
              have hxb : X4.length + l0 ≤ 192 * i + 3 * k + 3 := by omega
              rw [unhide HLN] at S4 ⊢
              have E4 := hide S4
              clear S4 E3 HGA HU HX4 HLN hxl4 hX hxl
              go_wp2
              go_loopw [5, 9] (fun ov lv wr => ∃ (l : Nat) (vo : Option Addr) (vn vc : Nat) (X : List Scn) (F : List Nat), l ≤ 2 ∧ lv = .int .i64 l ∧ ov = .slice vo vn vc ∧ Hid (Ds w tb #[.int .i64 p, .int .i64 wd, .int .i64 ht, .int .i64 rs, .slice fo fn fc] ao n cap zs wr (.slice vo vn vc) X F q3) ∧ Hid (Few 4 X) ∧ X.length + l ≤ 192 * i + 3 * k + 3) (fun _ lv _ => (intOf lv).toNat)
              case atStart => exact ⟨l0, _, _, _, X4, F4, by omega, rfl, rfl, E4, hX4, hxb⟩
              case round =>
                clear E4 hX4 hxb hx3 hy3
                obtain ⟨l, vo, vn, vc, X, F, hl2, rfl, rfl, hD, hX, hxl⟩ := hrel
                by_cases hl0 : l = 0
                · subst hl0
                  have hd3 : decide ((0 : Int) < ((0 : Nat) : Int)) = false := decide_eq_false (by omega)
                  go_wp2
                  go_roundw
                  case rel => exact ⟨(k + y) + 1, vo, vn, vc, X, F, q3, by omega, by go_num, rfl, hD, hX, by omega, by omega⟩
                  case measure => simp [intOf]; omega
                · obtain ⟨l, rfl⟩ : ∃ l1, l = l1 + 1 := ⟨l - 1, by omega⟩
                  have hd3 : decide ((0 : Int) < ((l + 1 : Nat) : Int)) = true := decide_eq_true (by omega)
                  have el : ((l + 1 : Nat) : Int) - 1 = (l : Int) := by omega
                  have HGA : Hid (wr.grownBy (wr.alloc (.cells #[.int .i64 (i : Int)] 3)) none) := World.grownBy_alloc _ _ _
                  have HU : Hid (OwI .i64 3 (wr.alloc (.cells #[.int .i64 (i : Int)] 3)) (.slice (some ⟨wr.heap.size, 0, none⟩) 1 1) [(i : Int)] [wr.heap.size]) := ⟨World.ownsRow_lit wr #[.int .i64 (i : Int)] 1 (Nat.zero_le _) (by unfold maxLen; omega) rfl, rfl⟩
                  go_wp2_with (at_builtin; refine Ds.app (wn := wr.alloc (.cells #[.int .i64 (i : Int)] 3)) (unhide hD) (unhide DY) (unhide HGA) rfl _ _ rfl rfl (.slice (some ⟨wr.heap.size, 0, none⟩) 1 1) ⟨[(i : Int)], (k : Int), (k : Int) + (y : Int), (l : Int) + 1, (l : Int)⟩ [wr.heap.size] (unhide HU) (by simp) (fun x hx => by simp at hx; omega) _ rfl (wr.heap.size + 1) (by simp) rfl (by omega) ?_)
                  intro v4 w4 F4 S4
                  obtain ⟨X4, HX4⟩ : ∃ X4, Hid (X ++ [(⟨[(i : Int)], (k : Int), (k : Int) + (y : Int), (l : Int) + 1, (l : Int)⟩ : Scn)] = X4) := ⟨_, hide rfl⟩
                  have hxl4 : X4.length = X.length + 1 := by rw [← unhide HX4]; simp
                  have hX4 : Hid (Few 4 X4) := by rw [← unhide HX4]; exact (unhide hX).snoc (by simp)
                  rw [unhide HX4] at S4
                  obtain ⟨vo4, vc4, rfl⟩ := OwG.form S4.own
                  obtain ⟨ln, HLN⟩ : ∃ ln, Hid (X4.length = ln) := ⟨_, hide rfl⟩
                  have hxb : X4.length + l ≤ 192 * i + 3 * k + 3 := by omega
                  rw [unhide HLN] at S4 ⊢
                  have E4 := hide S4
                  clear S4 HGA HU HX4 HLN hxl4 hX hxl hD
                  go_wp2
                  go_roundw
                  case rel => exact ⟨l, vo4, ln, vc4, X4, F4, by omega, by go_num, rfl, E4, hX4, hxb⟩
                  case measure => simp [intOf]
          · obtain rfl : k = 64 := by omega
            have hd2 : decide (((64 : Nat) : Int) < 64) = false := decide_eq_false (by omega)
            go_wp2
            go_roundw
            case rel => exact ⟨i + 1, vo, vn, vc, X, F, q, by omega, by go_num, rfl, hD, hX, by omega, by omega⟩
            case measure => simp [intOf]; omega
      · obtain rfl : fn = i := by omega
        have hd : decide ((fn : Int) < (fn : Int)) = false := decide_eq_false (by omega)
        have HE : Hid (OwSs wr (.slice vo vn vc) X F ∧ F.Nodup ∧ (∀ g ∈ F, w.heap.size ≤ g) ∧ Few 4 X ∧ X.length ≤ 1000 ∧ Cur wr tb ao n cap zs q ∧ q ≤ p0 + 5000 ∧ w.grownBy wr (some tb)) :=
          ⟨(unhide hD).own, (unhide hD).nd, fun g hg => by have := (unhide hD).lo g hg; omega, unhide hX, by omega, (unhide hD).cur, by omega, (unhide hD).grown⟩
        clear hD hX
        go_wp2
        go_ret
        exact ⟨_, X, F, q, rfl, unhide HE⟩
  · have hd : decide (0 < x1) = true := decide_eq_true (by omega)
    go_wp2
    refine wp_region_noPanic ?_
    have gd := grown_drew (World.grownBy.refl w1 none)
    have D2 := hide ((unhide D1).new gd)
    have HF2 := hide (own_grown (unhide HF1) gd)
    clear D1 HF1 gd
    refine wp_region_tailL 20 (fun W => W.heap[w.heap.size]? = some (.cells #[.int .i64 p, .int .i64 wd, .int .i64 ht, .int .i64 rs, .slice fo fn fc] 26 (0, 0))) [true, true, false, false, false] (by kernel_rfl) (fun _ _ _ _ _ h => h) rfl (by decide) (by kernel_rfl) (unhide D2).fr ?_
    generalize w1.drew = w2 at *
    refine heldF_take (v := ?_) (Or.inl ⟨by rfl, ?_⟩) ?_
    rotate_left 1
    · intro w' hSw
      try dsimp only at hSw
      have s1 := frameCells' hSw
      go_simp
      try with_reducible rfl
    simp only [Act.put, List.setIfInBounds_toArray, List.set_cons_zero, List.set_cons_succ]
    refine heldF_take (v := ?_) (Or.inl ⟨by rfl, ?_⟩) ?_
    rotate_left 1
    · intro w' hSw
      go_simp
      try with_reducible rfl
    simp only [Act.put, List.setIfInBounds_toArray, List.set_cons_zero, List.set_cons_succ]
    refine heldF_skip (heldF_skip (heldF_skip (heldF_nil ?_)))
    refine tailL_skip (tailL_skip (tailL_step (fun K hK => ?_)))
    go_simp
    refine (pick_of tb ao n cap q1 3 zs w2 (unhide D2).cur (by omega) (by omega) (by omega)).mono ?_
    rintro e w3 ⟨x3, q3, rfl, hx3, hy3, hc3, hq3, g3⟩
    have D3 := hide ((unhide D2).pick (unhide DY) hc3 g3)
    have HF3 := hide (own_beneath (unhide HF2) g3 (fun a b e1 e2 => by have := ((unhide HF2).lt a e1).1; simp at e2; omega))
    clear D2 HF2 hc3 g3
    go_simp
    refine hK.out _ _ (.inr (unhide D3).fr) ?_
    clear hK K
    refine tailL_step (fun K hK => ?_)
    go_simp
    obtain ⟨L, HL⟩ : ∃ L, Hid (scriptG fb fn x3 = L) := ⟨_, hide rfl⟩
    refine (specScriptFor p wd ht rs fo fn fc C w3 (own_rdC (unhide HF3)) x3 fb HFB L HL).mono ?_
    rintro e w4 ⟨u, F, rfl, o4, n4, l4, g4⟩
    have D4 := hide ((unhide D3).new g4)
    have HE : Hid (OwSs w4 u L F ∧ F.Nodup ∧ (∀ g ∈ F, w.heap.size ≤ g) ∧ Few 4 L ∧ L.length ≤ 1000 ∧ Cur w4 tb ao n cap zs q3 ∧ q3 ≤ p0 + 5000 ∧ w.grownBy w4 (some tb)) := by
      have hs := (unhide D3).size
      have hw := few_script (kind := x3) (unhide HFB)
      rw [unhide HL] at hw
      exact ⟨o4, n4, fun g hg => by have := l4 g hg; omega, hw.1, hw.2, (unhide D4).cur, by omega, (unhide D4).grown⟩
    obtain ⟨uo, uc, rfl⟩ := OwG.form o4
    clear D3 HF3 o4 n4 l4 g4
    go_simp
    refine hK.out _ _ (.inr (unhide D4).fr) ?_
    clear hK K
    refine tailL_step (fun K hK => ?_)
    go_simp
    refine hK.out _ _ (.inl rfl) ?_
    clear hK K D4
    refine tailL_nil (NoPanic.normal ?_)
    go_wp2
    go_ret
    exact ⟨_, L, F, q3, rfl, unhide HE⟩

end Go.Proofs.Ytnjcmlmgjoaeeaa

namespace Go.Proofs.Ytnjcmlmgjoaeeaa
open Go.RowKit

theorem info_i9 : (Try.prog.info? 3).map (fun i => (i.zero, i.size, i.bytes)) = some (some (.int .i64 0), 1, 8) := by kernel_rfl

theorem rd_newsI {w : World} {x : Addr} {m : Nat} {zs : List Int} (h : Rd .i64 w (some x) m zs) : ∀ j u, (zs.map (Value.int .i64))[j]? = some u → w.cell? (x.add j) = some u := by
  intro j u hj
  have hl := h.1
  have hjl : j < m := by
    have := (List.getElem?_eq_some_iff.1 hj).1
    simp at this; omega
  obtain ⟨b, off, e, hc⟩ := h.2 j hjl
  simp only [Option.some.injEq] at e
  subst e
  rw [Addr.add_lit, hc]
  rw [List.getElem?_map] at hj
  have hj2 : j < zs.length := by omega
  simp [hj2] at hj ⊢
  exact hj

theorem append_rdI {w : World} {ops : Array Oper} {rest : List Oper} {o : Oper} {a : Act} {Q : Exit → Act → World → Prop} (hgd : o.guard = none) (s x : Operand)
    (ho : o.op = .call { callee := .builtin .append, args := #[s, x], argTypes := #[36, 36] })
    (base : Nat) (v : Value) (xs : List Int) (hs : a.eval s = v) (hown : w.ownsRow base 3 1 v xs.length (xs.map (Value.int .i64)))
    (ad : Addr) (m c : Nat) (zs : List Int) (hx : a.eval x = .slice (some ad) m c) (hr : Rd .i64 w (some ad) m zs)
    (hb : xs.length + m ≤ 1000000) (hbase : base ≤ w.heap.size) (R : List Int) (hR : xs ++ zs = R)
    (h : ∀ v' w', w'.ownsRow base 3 1 v' R.length (R.map (Value.int .i64)) → w.grownBy w' v.ownBlock → wpList Try.prog ops Q rest (a.put o.dst v') w') :
    wpList Try.prog ops Q (o :: rest) a w := by
  subst hR
  obtain ⟨i0, hi, hz0, hz1, hz2⟩ := info_parts info_i9
  refine wpList_append_own _ hgd s x 36 ho base 3 i0 (.int .i64 0) 1 8 Try.underlying36 hi hz0 hz1 hz2 rfl (by decide) v xs.length _ hs hown ad m c (zs.map (Value.int .i64)) hx (by simp [hr.1]) (rd_newsI hr) ?_ (by unfold maxLen; omega) (by omega) hbase (fun v' w' h1 h2 _ => h v' w' (by rw [List.map_append, List.length_append, hr.1]; exact h1) h2)
  intro u hu
  obtain ⟨y, _, rfl⟩ := List.mem_map.1 hu
  rfl

end Go.Proofs.Ytnjcmlmgjoaeeaa
