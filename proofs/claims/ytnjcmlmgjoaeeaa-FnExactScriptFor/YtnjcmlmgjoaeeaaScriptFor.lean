/-
  ScriptFor, in the specification: kinds 0 and 1, and what is no kind.
-/
import Derived.Test.YtnjcmlmgjoaeeaaScriptPure
import Derived.Test.YtnjcmlmgjoaeeaaScanTo
import Derived.Test.YtnjcmlmgjoaeeaaTreeGA
import Derived.Test.YtnjcmlmgjoaeeaaAppIntS
namespace Go.Proofs.Ytnjcmlmgjoaeeaa
open Go.RowKit

/-- A script while it is made, beside the frame and the list of all components. -/
structure Sf (w wr : World) (fx : Array Value) (v av : Value) (X : List Scn) (A : List Int) (F : List Nat) : Prop where
  own : OwSs wr v X F
  nd : F.Nodup
  lo : ∀ g ∈ F, w.heap.size + 1 ≤ g
  al : wr.ownsRow (w.heap.size + 1) 3 1 av A.length (A.map (Value.int .i64))
  na : ∀ g, av.ownBlock = some g → g ∉ F
  fr : wr.heap[w.heap.size]? = some (.cells fx 26 (0, 0))
  grown : w.grownBy wr none
theorem Sf.new {w wr w' : World} {fx : Array Value} {v av : Value} {X : List Scn} {A : List Int} {F : List Nat} (h : Sf w wr fx v av X A F) (g : wr.grownBy w' none) : Sf w w' fx v av X A F :=
  ⟨OwSs.ok.keep h.own g, h.nd, h.lo, own_grown h.al g, h.na, at_rowS g h.fr (by simp), grown_trans h.grown g⟩
theorem Sf.size {w wr : World} {fx : Array Value} {v av : Value} {X : List Scn} {A : List Int} {F : List Nat} (h : Sf w wr fx v av X A F) : w.heap.size + 1 ≤ wr.heap.size := (Array.getElem?_eq_some_iff.1 h.fr).1
theorem Sf.blkF {w wr : World} {fx : Array Value} {v av : Value} {X : List Scn} {A : List Int} {F : List Nat} (h : Sf w wr fx v av X A F) : ∀ g, v.ownBlock = some g → g ∈ F := fun g e => by
  obtain ⟨U, Fs, _, _, _, e9⟩ := h.own
  rw [e9]; simp [mem_blk.2 e]
/-- Scans come behind. -/
theorem Sf.push {w wr wn w' : World} {fx : Array Value} {v v' av : Value} {X R : List Scn} {A : List Int} {F F' G : List Nat} (h : Sf w wr fx v av X A F) (gn : wr.grownBy wn none) (o : OwSs w' v' R F') (nd : F'.Nodup) (hm : ∀ x ∈ F', x ∈ F ∨ x ∈ G ∨ wn.heap.size ≤ x) (hG : ∀ x ∈ G, wr.heap.size ≤ x) (g : Wr (blk v) wn w') : Sf w w' fx v' av R A F' := by
  have hs := h.size
  have gs := gn.size
  have hr : wn.grownBy w' v.ownBlock := ⟨g.os, g.tape, g.output, g.size, fun k hk hne => g.block k hk (fun e => hne (mem_blk.1 e).symm)⟩
  have hk := h.new gn
  refine ⟨o, nd, fun x hx => ?_, own_beneath hk.al hr (fun p q h1 h2 e => by subst e; exact h.na p h1 (h.blkF p h2)), fun x hx hx2 => ?_, at_rowS hr hk.fr (fun e => by have := h.lo _ (h.blkF _ e); omega), grown_new hk.grown hr (fun k e => by have := h.lo _ (h.blkF _ e); omega)⟩
  · rcases hm x hx with h1 | h1 | h1
    · exact h.lo x h1
    · have := hG x h1; omega
    · omega
  · have hl := (h.al.lt x hx).2
    rcases hm x hx2 with h1 | h1 | h1
    · exact h.na x hx h1
    · have := hG x h1; omega
    · omega

theorem row1 (u a b c d : Value) : (#[u, a, b, c, d] : Array Value).toList = rowsK 1 5 (fun _ => five u a b c d) := rfl

theorem Sf.more {w wr w' : World} {fx : Array Value} {v av av' : Value} {X : List Scn} {A A' : List Int} {F : List Nat} (h : Sf w wr fx v av X A F) (o : w'.ownsRow (w.heap.size + 1) 3 1 av' A'.length (A'.map (Value.int .i64))) (g : wr.grownBy w' av.ownBlock) (hat : av'.ownBlock = av.ownBlock ∨ ∀ g, av'.ownBlock = some g → wr.heap.size ≤ g) : Sf w w' fx v av' X A' F := by
  refine ⟨OwSs.ok.wr h.own (Wr.ofRow (F := blk av) g (fun x e => mem_blk.2 e)) (fun x hx e => h.na x (mem_blk.1 e) hx), h.nd, h.lo, o, fun x hx hx2 => ?_, at_rowS g h.fr (fun e => by have := (h.al.lt _ e).1; omega), grown_new h.grown g (fun k e => by have := (h.al.lt _ e).1; omega)⟩
  rcases hat with h1 | h1
  · exact h.na x (by rw [← h1]; exact hx) hx2
  · have h2 := h1 x hx
    have h3 := OwSs.ok.lt _ _ _ _ h.own x hx2
    omega
theorem allC_next (n i : Nat) (h : i < n) : (allC n).take i ++ [(i : Int)] = (allC n).take (i + 1) := by
  have hl : i < (allC n).length := by simp [allC]; exact h
  rw [List.take_succ_eq_append_getElem hl]
  simp [allC]
theorem eachC_next (n i : Nat) (h : i < n) (f : Int → List Scn) : ((allC n).take i).flatMap f ++ f (i : Int) = ((allC n).take (i + 1)).flatMap f := by
  rw [← allC_next n i h, List.flatMap_append]
  simp

set_option maxRecDepth 20000 in
set_option maxHeartbeats 3200000 in
theorem specScript01 (p wd ht rs : Int) (fo : Option Addr) (n fc : Nat) (C : Nat → Nat → Int) (w : World) (hr : RdC w fo n C) (kind : Int) (fb : Bool) (HFB : Hid (frameB p wd ht rs n C = fb)) (L : List Scn) (HL : Hid (scriptG fb n kind = L)) (hk2 : Hid (kind ≠ 2)) :
    Calls Try.prog 12 #[.agg #[.int .i64 p, .int .i64 wd, .int .i64 ht, .int .i64 rs, .slice fo n fc], .int .i64 kind] w fun e w' => ∃ u F, e = .returned u ∧ OwSs w' u L F ∧ F.Nodup ∧ (∀ g ∈ F, w.heap.size ≤ g) ∧ w.grownBy w' none := by
  have hn4 : fb = true → n ≤ 4 := fun e => by have := unhide HFB; rw [e] at this; exact (geo_of this).n4
  obtain ⟨W2, HW2⟩ : ∃ W2, Hid ((w.alloc (.cells #[.int .i64 p, .int .i64 wd, .int .i64 ht, .int .i64 rs, .slice fo n fc] 26)).alloc (.cells #[] 38) = W2) := ⟨_, rfl⟩
  have G0 : w.grownBy W2 none := by rw [← unhide HW2]; exact grown_alloc (grown_alloc (World.grownBy.refl _ _) _) _
  have B0 : W2.heap[w.heap.size]? = some (.cells #[.int .i64 p, .int .i64 wd, .int .i64 ht, .int .i64 rs, .slice fo n fc] 26 (0, 0)) := by
    rw [← unhide HW2]
    exact at_rowS (World.grownBy_alloc _ _ none) (heap_alloc_new w _) (by simp)
  have O0 : W2.ownsRow (w.heap.size + 1) 38 5 (.slice (some ⟨w.heap.size + 1, 0, none⟩) 0 0) 0 [] := by
    rw [← unhide HW2]
    have := World.ownsRow_lit (w.alloc (.cells #[.int .i64 p, .int .i64 wd, .int .i64 ht, .int .i64 rs, .slice fo n fc] 26)) (e := 38) (size := 5) (base := w.heap.size + 1) #[] 0 (by simp) (by unfold maxLen; omega) rfl
    simpa using this
  have OS : OwSs W2 (.slice (some ⟨w.heap.size + 1, 0, none⟩) 0 0) [] [w.heap.size + 1] := ⟨fun _ _ => .slice none 0 0, [], rfl, own_base O0 (Nat.zero_le _), fun i hi => absurd hi (by simp), rfl⟩
  have HFR := hide (specFrameOk p wd ht rs fo n fc C W2 (hr.grown G0) fb HFB)
  have HB0 := hide B0
  have HG0 := hide G0
  have HOS := hide OS
  rw [← unhide HW2] at B0
  obtain ⟨f0, f1, f2, f3, f4⟩ := frameCells' B0
  have HN4 := hide hn4
  clear hr G0 B0 O0 OS hn4
  go_enter Try.func12, Try.ntmps12
  go_wp2_with fail
  rw [unhide HW2]
  clear HW2 f0 f1 f2 f3 f4
  refine (unhide HFR).mono ?_
  rintro e w3 ⟨rfl, g3⟩
  have HG3 := hide (grown_trans (unhide HG0) g3)
  have HO3 := hide (OwSs.ok.keep (unhide HOS) g3)
  have HB3 := hide (at_rowS g3 (unhide HB0) (by simp))
  have HNIL : Hid (∀ W, w3.grownBy W none → L = [] → OwSs W (.slice (some ⟨w.heap.size + 1, 0, none⟩) 0 0) L [w.heap.size + 1] ∧ w.grownBy W none) := fun W g e => by subst e; exact ⟨OwSs.ok.keep (unhide HO3) g, grown_trans (unhide HG3) g⟩
  clear g3 HFR HG0 HOS HB0
  cases fb with
  | false =>
    have e : L = [] := by rw [← unhide HL]; rfl
    have HF := hide (unhide HNIL w3 (World.grownBy.refl _ _) e)
    go_wp2
    go_ret
    exact ⟨_, _, rfl, (unhide HF).1, by simp, fun g hg => by simp at hg; omega, (unhide HF).2⟩
  | true =>
    have hn := unhide HN4 rfl
    obtain ⟨b, HB⟩ : ∃ b, Hid (decide (0 ≤ kind ∧ kind ≤ 2) = b) := ⟨_, rfl⟩
    go_wp2_with fail
    refine (between kind 0 2 b HB w3).mono ?_
    rintro e w3 ⟨rfl, rfl⟩
    cases b with
    | false =>
      have e : L = [] := by
        have := of_decide_eq_false (unhide HB)
        rw [← unhide HL, scriptG, if_pos rfl, if_neg (by omega), if_neg (by omega), if_neg (unhide hk2)]
      have HF := hide (unhide HNIL w3 (World.grownBy.refl _ _) e)
      go_wp2
      go_ret
      exact ⟨_, _, rfl, (unhide HF).1, by simp, fun g hg => by simp at hg; omega, (unhide HF).2⟩
    | true =>
      have hk := of_decide_eq_true (unhide HB)
      have HS0 : Hid (Sf w (w3.alloc (.cells #[] 3)) #[.int .i64 p, .int .i64 wd, .int .i64 ht, .int .i64 rs, .slice fo n fc] (.slice (some ⟨w.heap.size + 1, 0, none⟩) 0 0) (.slice (some ⟨w3.heap.size, 0, none⟩) 0 0) [] ((allC n).take 0) [w.heap.size + 1]) := by
        have gA : w3.grownBy (w3.alloc (.cells #[] 3)) none := World.grownBy_alloc _ _ _
        have hlt := OwSs.ok.lt _ _ _ _ (unhide HO3) (w.heap.size + 1) (by simp)
        refine ⟨OwSs.ok.keep (unhide HO3) gA, by simp, fun g hg => by simp at hg; omega, ?_, fun g e hx => ?_, at_rowS gA (unhide HB3) (by simp), grown_trans (unhide HG3) gA⟩
        · exact World.ownsRow_lit w3 #[] 0 (by omega) (by unfold maxLen; omega) rfl
        · have e9 : w3.heap.size = g := Option.some.inj e
          simp at hx; omega
      clear HNIL HG3 HO3 HB3 HFB HN4
      have c4 : (w3.alloc (.cells #[] 3)).cell? ⟨w.heap.size, 4, none⟩ = some (.slice fo n fc) := (frameCells' (unhide HS0).fr).2.2.2.2
      go_wp2
      clear c4
      go_loopw [6, 7] (fun av iv wr => ∃ (i : Nat) (ao : Option Addr) (ac : Nat) (F : List Nat), i ≤ n ∧ iv = .int .i64 i ∧ av = .slice ao i ac ∧ Hid (Sf w wr #[.int .i64 p, .int .i64 wd, .int .i64 ht, .int .i64 rs, .slice fo n fc] (.slice (some ⟨w.heap.size + 1, 0, none⟩) 0 0) (.slice ao i ac) [] ((allC n).take i) F)) (fun _ iv _ => n - (intOf iv).toNat)
      case atStart => exact ⟨0, _, _, _, Nat.zero_le _, rfl, rfl, HS0⟩
      case round =>
        clear HS0
        obtain ⟨i, ao, ac, F, hin, rfl, rfl, hS⟩ := hrel
        have c4 : wr.cell? ⟨w.heap.size, 4, none⟩ = some (.slice fo n fc) := (frameCells' (unhide hS).fr).2.2.2.2
        have hli : ((allC n).take i).length = i := by simp [allC]; omega
        by_cases hlt : i < n
        · have hd : decide ((i : Int) < (n : Int)) = true := decide_eq_true (by omega)
          obtain ⟨T, HTT⟩ : ∃ T, Hid ((allC n).take i = T) := ⟨_, rfl⟩
          obtain ⟨R, HRR⟩ : ∃ R, Hid ((allC n).take (i + 1) = R) := ⟨_, rfl⟩
          rw [unhide HTT] at hS hli
          have HLI := hide hli
          have HNX : Hid (T ++ [(i : Int)] = R) := by unfold Hid; rw [← unhide HTT, ← unhide HRR]; exact allC_next n i hlt
          have HLR : Hid (R.length = i + 1) := by unfold Hid; rw [← unhide HRR]; simp [allC]; omega
          clear hli
          go_wp2_with (at_builtin; refine append_intS rfl _ _ rfl (w.heap.size + 1) (.slice ao i ac) T rfl (unhide hS).al (i : Int) rfl (by rw [unhide HLI]; omega) (unhide hS).size R (unhide HNX) ?_)
          intro v5 w5 o5 g5 hat5
          have HS5 := hide ((unhide hS).more o5 g5 hat5)
          rw [unhide HLR] at o5
          obtain ⟨ao5, ac5, rfl⟩ := own_form o5
          rw [← unhide HRR] at HS5
          clear o5 g5 hat5 hS HLI c4 HNX HLR HTT
          go_wp2
          go_roundw
          case rel => exact ⟨i + 1, ao5, ac5, F, by omega, by go_num, rfl, HS5⟩
          case measure => simp [intOf]; omega
        · obtain rfl : n = i := by omega
          have hd : decide ((n : Int) < (n : Int)) = false := decide_eq_false (by omega)
          have hta : (allC n).take n = allC n := List.take_of_length_le (by simp [allC])
          rw [hta] at hS
          have HLA : Hid ((allC n).length = n) := by unfold Hid; simp [allC]
          clear hta hli c4
          by_cases hk0 : kind = 0
          · subst hk0
            have HLE : Hid (([] : List Scn) ++ [⟨allC n, 0, 63, 0, 0⟩] = L) := by unfold Hid; rw [← unhide HL]; rfl
            have c4 : wr.cell? ⟨w.heap.size, 4, none⟩ = some (.slice fo n fc) := (frameCells' (unhide hS).fr).2.2.2.2
            have HU : Hid (∀ i (h : i < [(⟨allC n, 0, 63, 0, 0⟩ : Scn)].length), OwScE wr (five (.slice ao n ac) (.int .i64 0) (.int .i64 63) (.int .i64 0) (.int .i64 0)) [(⟨allC n, 0, 63, 0, 0⟩ : Scn)][i] ([blk (.slice ao n ac)].getD i [])) := fun i h => by
              obtain rfl : i = 0 := by simpa using h
              exact ⟨⟨rfl, rfl, rfl, rfl⟩, own_base (unhide hS).al (Nat.zero_le _), rfl⟩
            go_wp2_with (at_builtin; refine append_rowsG OwScE.ok Try.underlying27 info_scan rfl (by decide) (by decide) rfl _ _ rfl (.slice (some ⟨w.heap.size + 1, 0, none⟩) 0 0) [] F rfl (unhide hS).own (unhide hS).nd #[.slice ao n ac, .int .i64 0, .int .i64 63, .int .i64 0, .int .i64 0] 1 (fun _ => five (.slice ao n ac) (.int .i64 0) (.int .i64 63) (.int .i64 0) (.int .i64 0)) rfl [⟨allC n, 0, 63, 0, 0⟩] rfl [blk (.slice ao n ac)] rfl (unhide HU) (by simp [blk_nodup]) (fun x hx => (unhide hS).na x (mem_blk.1 (by simpa using hx))) (by intro u hu; simp at hu; rcases hu with rfl | rfl | rfl | rfl <;> rfl) wr.heap.size rfl rfl (by simp) L (unhide HLE) ?_)
            intro v5 w5 F5 o5 n5 m5 wr5
            have HF : Hid (OwSs w5 v5 L F5 ∧ F5.Nodup ∧ (∀ g ∈ F5, w.heap.size ≤ g) ∧ w.grownBy w5 none) := by
              have hs := (unhide hS).size
              refine ⟨o5, n5, fun x hx => ?_, ?_⟩
              · rcases m5 x hx with h | h | h
                · have := (unhide hS).lo x h; omega
                · have := ((unhide hS).al.lt x (mem_blk.1 (by simpa using h))).1; omega
                · omega
              · exact Wr.new (unhide hS).grown wr5 (fun x hx => by have : w.heap.size + 1 = x := Option.some.inj (mem_blk.1 hx); omega)
            clear o5 n5 m5 wr5 HU c4
            go_wp2
            go_ret
            exact ⟨_, F5, rfl, unhide HF⟩
          · have n0 : (kind == 0) = false := by simp [hk0]
            obtain rfl : kind = 1 := by have := unhide hk2; omega
            have HLE : Hid (((allC n).take n).flatMap (fun i => [(⟨[i], 0, 63, 0, 0⟩ : Scn)]) = L) := by
              unfold Hid
              rw [← unhide HL, List.take_of_length_le (by rw [unhide HLA]; exact Nat.le_refl _)]
              rfl
            have HLEN : Hid (∀ i, i ≤ n → (((allC n).take i).flatMap (fun i => [(⟨[i], 0, 63, 0, 0⟩ : Scn)])).length = i) := fun i hi => by
              have hm : ∀ l : List Int, (l.flatMap (fun i => [(⟨[i], 0, 63, 0, 0⟩ : Scn)])).length = l.length := fun l => by
                induction l with
                | nil => rfl
                | cons a l ih => rw [List.flatMap_cons, List.length_append, ih]; simp; omega
              rw [hm]
              simp [allC]
              omega
            have c4 : wr.cell? ⟨w.heap.size, 4, none⟩ = some (.slice fo n fc) := (frameCells' (unhide hS).fr).2.2.2.2
            go_wp2
            clear c4
            go_loopw [5, 8] (fun ov iv wr => ∃ (i : Nat) (vo : Option Addr) (vc : Nat) (F : List Nat), i ≤ n ∧ iv = .int .i64 i ∧ ov = .slice vo i vc ∧ Hid (Sf w wr #[.int .i64 p, .int .i64 wd, .int .i64 ht, .int .i64 rs, .slice fo n fc] (.slice vo i vc) (.slice ao n ac) (((allC n).take i).flatMap (fun i => [(⟨[i], 0, 63, 0, 0⟩ : Scn)])) (allC n) F)) (fun _ iv _ => n - (intOf iv).toNat)
            case atStart => exact ⟨0, _, _, F, Nat.zero_le _, rfl, rfl, hS⟩
            case round =>
              clear hS
              obtain ⟨i, vo, vc, F, hin, rfl, rfl, hS⟩ := hrel
              by_cases hlt : i < n
              · have hd2 : decide ((i : Int) < (n : Int)) = true := decide_eq_true (by omega)
                obtain ⟨X, HX⟩ : ∃ X, Hid (((allC n).take i).flatMap (fun i => [(⟨[i], 0, 63, 0, 0⟩ : Scn)]) = X) := ⟨_, rfl⟩
                obtain ⟨R, HR⟩ : ∃ R, Hid (((allC n).take (i + 1)).flatMap (fun i => [(⟨[i], 0, 63, 0, 0⟩ : Scn)]) = R) := ⟨_, rfl⟩
                have HXL : Hid (X.length = i) := by rw [← unhide HX]; exact unhide HLEN i hin
                have HRL : Hid (R.length = i + 1) := by rw [← unhide HR]; exact unhide HLEN (i + 1) (by omega)
                have HNX : Hid (X ++ [⟨[(i : Int)], 0, 63, 0, 0⟩] = R) := by
                  unfold Hid
                  rw [← unhide HX, ← unhide HR]
                  exact eachC_next n i hlt (fun i => [(⟨[i], 0, 63, 0, 0⟩ : Scn)])
                rw [unhide HX] at hS
                have gA : wr.grownBy (wr.alloc (.cells #[.int .i64 (i : Int)] 3)) none := World.grownBy_alloc _ _ _
                have HS1 := hide ((unhide hS).new gA)
                have HGA := hide gA
                have HU : Hid (∀ j (h : j < [(⟨[(i : Int)], 0, 63, 0, 0⟩ : Scn)].length), OwScE (wr.alloc (.cells #[.int .i64 (i : Int)] 3)) (five (.slice (some ⟨wr.heap.size, 0, none⟩) 1 1) (.int .i64 0) (.int .i64 63) (.int .i64 0) (.int .i64 0)) [(⟨[(i : Int)], 0, 63, 0, 0⟩ : Scn)][j] ([[wr.heap.size]].getD j [])) := fun j h => by
                  obtain rfl : j = 0 := by simpa using h
                  exact ⟨⟨rfl, rfl, rfl, rfl⟩, World.ownsRow_lit wr #[.int .i64 (i : Int)] 1 (Nat.zero_le _) (by unfold maxLen; omega) rfl, rfl⟩
                have HDJ : Hid (∀ x ∈ [[wr.heap.size]].flatten, x ∉ F) := fun x hx hx2 => by
                  have h3 := OwSs.ok.lt _ _ _ _ (unhide hS).own x hx2
                  simp at hx; omega
                clear gA
                go_wp2_with (at_builtin; refine append_rowsG (w := wr.alloc (.cells #[.int .i64 (i : Int)] 3)) OwScE.ok Try.underlying27 info_scan rfl (by decide) (by decide) rfl _ _ rfl (.slice vo i vc) X F rfl (unhide HS1).own (unhide HS1).nd #[.slice (some ⟨wr.heap.size, 0, none⟩) 1 1, .int .i64 0, .int .i64 63, .int .i64 0, .int .i64 0] 1 (fun _ => five (.slice (some ⟨wr.heap.size, 0, none⟩) 1 1) (.int .i64 0) (.int .i64 63) (.int .i64 0) (.int .i64 0)) rfl [⟨[(i : Int)], 0, 63, 0, 0⟩] rfl [[wr.heap.size]] rfl (unhide HU) (by simp) (unhide HDJ) (by intro u hu; simp at hu; rcases hu with rfl | rfl | rfl | rfl <;> rfl) (wr.heap.size + 1) (by simp) rfl (by rw [unhide HXL]; omega) R (unhide HNX) ?_)
                intro v5 w5 F5 o5 n5 m5 wr5
                have m6 : ∀ x ∈ F5, x ∈ F ∨ x ∈ [wr.heap.size] ∨ (wr.alloc (.cells #[.int .i64 (i : Int)] 3)).heap.size ≤ x := fun x hx => by
                  rcases m5 x hx with h | h | h
                  · exact .inl h
                  · exact .inr (.inl (by simpa using h))
                  · exact .inr (.inr (by simpa using h))
                have HS5 := hide ((unhide hS).push (G := [wr.heap.size]) (unhide HGA) o5 n5 m6 (fun x hx => Nat.le_of_eq (by simpa using hx : x = wr.heap.size).symm) wr5)
                clear m6
                obtain ⟨vo5, vc5, rfl⟩ := OwG.form o5
                rw [unhide HRL] at HS5 ⊢
                rw [← unhide HR] at HS5
                clear o5 n5 m5 wr5 HU HDJ HS1 HGA hS HNX HRL HXL HX
                go_wp2
                go_roundw
                case rel => exact ⟨i + 1, vo5, vc5, F5, by omega, by go_num, rfl, HS5⟩
                case measure => simp [intOf]; omega
              · obtain rfl : n = i := by omega
                have hd2 : decide ((n : Int) < (n : Int)) = false := decide_eq_false (by omega)
                have HF : Hid (OwSs wr (.slice vo n vc) L F ∧ F.Nodup ∧ (∀ g ∈ F, w.heap.size ≤ g) ∧ w.grownBy wr none) := by
                  rw [← unhide HLE]
                  exact ⟨(unhide hS).own, (unhide hS).nd, fun g hg => by have := (unhide hS).lo g hg; omega, (unhide hS).grown⟩
                clear hS
                go_wp2
                go_ret
                exact ⟨_, F, rfl, unhide HF⟩

end Go.Proofs.Ytnjcmlmgjoaeeaa
