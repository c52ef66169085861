/-
  LeftSpec, LeftOk, TabImpl, TabImpl2, TabSpec, RangeOwn.
-/
import Derived.Deep.RegionHeld3
import Derived.Shelf.Abstract
import Derived.RangeFuncNested
import Derived.RangeFuncBound
import Derived.RangeFuncCalls
import Derived.RangeFuncLeaves
import Derived.WalkKit
import Derived.OwnWalkIn
import Derived.TacticsInMore
import Derived.LoopNIn
import Derived.LoopIn
import Derived.Test.YtjkokbijnaodnaaGreatMAf

namespace Go.Proofs.YtjkokbijnaodnaaGreat
open Go.RowKit

/-- Rows while they are made, or written: beside the frame. -/
structure Lf (w wr : World) (fx : Array Value) (u : Value) (X : List (List Int)) (F : List Nat) : Prop where
  fr : wr.heap[w.heap.size]? = some (.cells fx 37 (0, 0))
  own : Ow2 wr u X F
  nd : F.Nodup
  lo : ∀ g ∈ F, w.heap.size + 1 ≤ g
  grown : w.grownBy wr none
theorem Lf.new {w wr w' : World} {fx : Array Value} {u : Value} {X : List (List Int)} {F : List Nat} (h : Lf w wr fx u X F) (g : wr.grownBy w' none) : Lf w w' fx u X F :=
  ⟨at_rowS g h.fr (by simp), ok2.keep h.own g, h.nd, h.lo, grown_trans h.grown g⟩
theorem Lf.size {w wr : World} {fx : Array Value} {u : Value} {X : List (List Int)} {F : List Nat} (h : Lf w wr fx u X F) : w.heap.size + 1 ≤ wr.heap.size := (Array.getElem?_eq_some_iff.1 h.fr).1
theorem nothing_next (i : Nat) : nothing i ++ [List.replicate 64 (-1)] = nothing (i + 1) := by
  unfold nothing
  generalize List.replicate 64 (-1 : Int) = r
  rw [List.replicate_succ']
theorem minus_next (k : Nat) : List.replicate k (-1 : Int) ++ [-1] = List.replicate (k + 1) (-1) := by rw [List.replicate_succ']
theorem leftL_row2 {w : World} {u : Value} {X : List (List Int)} {F : List Nat} (h : Ow2 w u X F) (hF : F.Nodup) (c : Nat) (hc : c < X.length) (k : Nat) (hk : k < (X.getD c []).length) : ∃ g cap gi ci, u = .slice (some ⟨g, 0, none⟩) X.length cap ∧ w.cell? ⟨g, c, none⟩ = some (.slice (some ⟨gi, 0, none⟩) (X.getD c []).length ci) ∧ w.cell? ⟨gi, k, none⟩ = some (.int .i64 ((X.getD c []).getD k 0)) ∧ w.frozen? ⟨gi, k, none⟩ = false ∧ gi ∈ F ∧
    ∀ z : Int, Ow2 (w.setCell ⟨gi, k, none⟩ (.int .i64 z)) u (X.set c ((X.getD c []).set k z)) F := by
  have e : X.getD c [] = X[c] := by simp [hc]
  rw [e] at hk ⊢
  obtain ⟨g, cap, ui, Fi, rfl, hg, cu, hP, hn, hgi, hsub, hset⟩ := OwR.at ok1 h hF c hc
  obtain ⟨ho, rfl⟩ := hP
  obtain ⟨ao, ci, rfl⟩ := own_form ho
  obtain ⟨gi, rfl, _, _⟩ := own_at ho (by omega)
  refine ⟨g, cap, gi, ci, rfl, cu, ?_, ho.frozenAt k, hsub gi (mem_blk.2 rfl), fun z => ?_⟩
  · rw [ho.cellAt k (by omega)]
    simp [hk]
  · have st := ho.stored k (.int .i64 z)
    refine hset _ _ (Wr.ofRow st.2 (fun x hx => by have := Option.some.inj hx; subst this; exact mem_blk.2 rfl)) ⟨?_, rfl⟩
    rw [List.length_set, List.map_set]
    exact st.1

theorem OwR.headL {α : Type} {e : TypeId} {P : World → Value → α → List Nat → Prop} {w : World} {g n cap : Nat} {L : List α} {F : List Nat} (h : OwR e P w (.slice (some ⟨g, 0, none⟩) n cap) L F) : g ∈ F := by
  obtain ⟨us, Fs, _, _, _, _, rfl⟩ := h
  exact List.mem_append_left _ (mem_blk.2 rfl)
/-- A new row of numbers beside the rows. -/
structure Lr (w wr : World) (F : List Nat) (rv : Value) (A : List Int) : Prop where
  own : wr.ownsRow (w.heap.size + 1) 3 1 rv A.length (A.map (Value.int .i64))
  na : ∀ g, rv.ownBlock = some g → g ∉ F

set_option maxRecDepth 20000 in
set_option maxHeartbeats 6400000 in
theorem specLeft (p wd ht rs : Int) (fo : Option Addr) (n fc : Nat) (C : Nat → Nat → Int) (w : World) (hr : RdC w fo n C) (hn : n ≤ 4194304) (v : Value) (S : List Scn) (hS : RdSs w v S) (hcs : ∀ a ∈ S, a.cs.length ≤ 4194304) (fb : Bool) (HFB : Hid (frameB p wd ht rs n C = fb)) (L : List (List Int)) (b : Bool) (HL : Hid (leftG fb n S = L)) (HB : Hid ((leftO fb n S).isSome = b)) :
    Calls Tryz.prog 63 #[.agg #[.int .i64 p, .int .i64 wd, .int .i64 ht, .int .i64 rs, .slice fo n fc], v] w fun e w' => ∃ u F, e = .returned (.tuple #[u, .bool b]) ∧ Ow2 w' u L F ∧ F.Nodup ∧ (∀ g ∈ F, w.heap.size ≤ g) ∧ w.grownBy w' none := by
  have hn4 : fb = true → n ≤ 4 := fun e => by have := unhide HFB; rw [e] at this; exact (geo_of this).n4
  obtain ⟨vo, vc, rfl, hSr⟩ := hS
  obtain ⟨W2, HW2⟩ : ∃ W2, Hid ((w.alloc (.cells #[.int .i64 p, .int .i64 wd, .int .i64 ht, .int .i64 rs, .slice fo n fc] 37)).alloc (.cells #[] 64) = W2) := ⟨_, rfl⟩
  have G0 : w.grownBy W2 none := by rw [← unhide HW2]; exact grown_alloc (grown_alloc (World.grownBy.refl _ _) _) _
  have B0 : W2.heap[w.heap.size]? = some (.cells #[.int .i64 p, .int .i64 wd, .int .i64 ht, .int .i64 rs, .slice fo n fc] 37 (0, 0)) := by
    rw [← unhide HW2]
    exact at_rowS (World.grownBy_alloc _ _ none) (heap_alloc_new w _) (by simp)
  have O0 : W2.ownsRow (w.heap.size + 1) 64 1 (.slice (some ⟨w.heap.size + 1, 0, none⟩) 0 0) 0 [] := by
    rw [← unhide HW2]
    have := World.ownsRow_lit (w.alloc (.cells #[.int .i64 p, .int .i64 wd, .int .i64 ht, .int .i64 rs, .slice fo n fc] 37)) (e := 64) (size := 1) (base := w.heap.size + 1) #[] 0 (by simp) (by unfold maxLen; omega) rfl
    simpa using this
  have HRC := hide hr
  have HFR := hide (specFrameOk p wd ht rs fo n fc C W2 (hr.grown G0) fb HFB)
  have HL0 : Hid (Lf w W2 #[.int .i64 p, .int .i64 wd, .int .i64 ht, .int .i64 rs, .slice fo n fc] (.slice (some ⟨w.heap.size + 1, 0, none⟩) 0 0) (nothing 0) [w.heap.size + 1]) := ⟨B0, ⟨[], [], rfl, rfl, own_base O0 (Nat.zero_le _), fun i hi => absurd hi (by simp [nothing]), rfl⟩, by simp, fun g hg => by simp at hg; omega, G0⟩
  rw [← unhide HW2] at B0
  obtain ⟨f0, f1, f2, f3, f4⟩ := frameCells' B0
  have HN4 := hide hn4
  have HSR := hide hSr
  have HCS := hide hcs
  clear hr G0 B0 O0 hn4 hSr hcs
  go_enter Tryz.func63, Tryz.ntmps63
  go_wp2_with fail
  rw [unhide HW2]
  clear HW2 f0 f1 f2 f3 f4
  refine (unhide HFR).mono ?_
  rintro e w3 ⟨rfl, g3⟩
  have HL3 := hide ((unhide HL0).new g3)
  clear g3 HFR HL0
  have NIL : Hid (leftO fb n S = none → b = false ∧ L = []) := fun e => ⟨by rw [← unhide HB, e]; rfl, by rw [← unhide HL, leftG, e]; rfl⟩
  cases fb with
  | false =>
    obtain ⟨rfl, rfl⟩ := unhide NIL (by unfold leftO; rfl)
    go_wp2
    refine bodyPost_ret (v := .tuple #[.slice (some ⟨w.heap.size + 1, 0, none⟩) 0 0, .bool false]) (by simp [results, Tryz.results63, go_sem]) rfl ?_
    exact ⟨_, _, rfl, (unhide HL3).own, (unhide HL3).nd, fun g hg => by have := (unhide HL3).lo g hg; omega, (unhide HL3).grown⟩
  | true =>
    have hn4 := unhide HN4 rfl
    by_cases h40 : S.length ≤ 40
    · have hgt : decide ((S.length : Int) > 40) = false := decide_eq_false (by omega)
      have hle : ¬ ((40 : Int) < (S.length : Int)) := by omega
      have LE : Hid (leftO true n S = leftAll true n S (nothing n)) := by unfold Hid leftO; rw [decide_eq_true h40]; rfl
      have EMP : Hid (∀ wq : World, w.grownBy wq none → b = false ∧ L = [] → ∃ u F, (Ending.returned (.tuple #[.slice (some ⟨wq.heap.size, 0, none⟩) 0 0, .bool false])) = .returned (.tuple #[u, .bool b]) ∧ Ow2 (wq.alloc (.cells #[] 64)) u L F ∧ F.Nodup ∧ (∀ g ∈ F, w.heap.size ≤ g) ∧ w.grownBy (wq.alloc (.cells #[] 64)) none) := fun wq gq e => by
        obtain ⟨rfl, rfl⟩ := e
        have hq := gq.size
        exact ⟨_, [wq.heap.size], rfl, ⟨[], [], rfl, rfl, World.ownsRow_lit wq #[] 0 (Nat.zero_le _) (by unfold maxLen; omega) rfl, fun i hi => absurd hi (by simp), rfl⟩, by simp, fun g hg => by simp at hg; omega, grown_alloc gq _⟩
      have HSL : Hid (S.length ≤ 40) := h40
      clear h40
      have c4 : w3.cell? ⟨w.heap.size, 4, none⟩ = some (.slice fo n fc) := (frameCells' (unhide HL3).fr).2.2.2.2
      go_wp2
      clear c4 hgt hle
      go_loopw [6, 7] (fun uv iv wr => ∃ (i : Nat) (uo : Option Addr) (uc : Nat) (F : List Nat), i ≤ n ∧ iv = .int .i64 i ∧ uv = .slice uo i uc ∧ Hid (Lf w wr #[.int .i64 p, .int .i64 wd, .int .i64 ht, .int .i64 rs, .slice fo n fc] (.slice uo i uc) (nothing i) F)) (fun _ iv _ => n - (intOf iv).toNat)
      case atStart => exact ⟨0, _, _, _, Nat.zero_le _, rfl, rfl, HL3⟩
      case round =>
        clear HL3
        obtain ⟨i, uo, uc, F, hin, rfl, rfl, hf⟩ := hrel
        have c4 : wr.cell? ⟨w.heap.size, 4, none⟩ = some (.slice fo n fc) := (frameCells' (unhide hf).fr).2.2.2.2
        by_cases hlt : i < n
        · have hd : decide ((i : Int) < (n : Int)) = true := decide_eq_true (by omega)
          have gA : wr.grownBy (wr.alloc (.cells #[] 3)) none := World.grownBy_alloc _ _ _
          have HF1 := hide ((unhide hf).new gA)
          have hs1 := (unhide hf).size
          have HR1 : Hid (Lr w (wr.alloc (.cells #[] 3)) F (.slice (some ⟨wr.heap.size, 0, none⟩) 0 0) (List.replicate 0 (-1))) := by
            refine ⟨World.ownsRow_lit wr #[] 0 hs1 (by unfold maxLen; omega) rfl, fun g e hx => ?_⟩
            have e9 : wr.heap.size = g := Option.some.inj e
            have := ok2.lt _ _ _ _ (unhide hf).own g hx
            omega
          clear gA hf
          go_wp2
          clear c4
          go_loopw [8, 9] (fun rv kv wr => ∃ (k : Nat) (ro : Option Addr) (rc : Nat), k ≤ 64 ∧ kv = .int .i64 k ∧ rv = .slice ro k rc ∧ Hid (Lf w wr #[.int .i64 p, .int .i64 wd, .int .i64 ht, .int .i64 rs, .slice fo n fc] (.slice uo i uc) (nothing i) F) ∧ Hid (Lr w wr F (.slice ro k rc) (List.replicate k (-1)))) (fun _ kv _ => 64 - (intOf kv).toNat)
          case atStart => exact ⟨0, _, _, Nat.zero_le _, rfl, rfl, HF1, HR1⟩
          case round =>
            clear HF1 HR1
            obtain ⟨k, ro, rc, hk, rfl, rfl, hf, hr1⟩ := hrel
            by_cases hk64 : k < 64
            · have hkI : (k : Int) < 64 := by omega
              obtain ⟨T, HTT⟩ : ∃ T, Hid (List.replicate k (-1 : Int) = T) := ⟨_, rfl⟩
              obtain ⟨R, HRR⟩ : ∃ R, Hid (List.replicate (k + 1) (-1 : Int) = R) := ⟨_, rfl⟩
              have HTL : Hid (T.length = k) := by unfold Hid; rw [← unhide HTT, List.length_replicate]
              have HRL : Hid (R.length = k + 1) := by unfold Hid; rw [← unhide HRR, List.length_replicate]
              have HNX : Hid (T ++ [(-1 : Int)] = R) := by unfold Hid; rw [← unhide HTT, ← unhide HRR]; exact minus_next k
              rw [unhide HTT] at hr1
              go_wp2_with (at_builtin; (refine append_intS rfl _ _ rfl (w.heap.size + 1) (.slice ro k rc) T rfl (unhide hr1).own (-1) rfl (by rw [unhide HTL]; omega) (unhide hf).size R (unhide HNX) ?_))
              intro v5 w5 o5 g5 hat5
              have HF5 : Hid (Lf w w5 #[.int .i64 p, .int .i64 wd, .int .i64 ht, .int .i64 rs, .slice fo n fc] (.slice uo i uc) (nothing i) F) := by
                have E := unhide hf
                refine ⟨at_rowS g5 E.fr (fun e => by have := ((unhide hr1).own.lt _ e).1; omega), ok2.wr E.own (Wr.ofRow (F := blk (.slice ro k rc)) g5 (fun x e => mem_blk.2 e)) (fun x hx e => (unhide hr1).na x (mem_blk.1 e) hx), E.nd, E.lo, grown_new E.grown g5 (fun q e => by have := ((unhide hr1).own.lt _ e).1; omega)⟩
              have HR5 : Hid (Lr w w5 F v5 R) := ⟨o5, fun g e hx => by
                rcases hat5 with h | h
                · exact (unhide hr1).na g (by rw [← h]; exact e) hx
                · have h2 := h g e
                  have h3 := ok2.lt _ _ _ _ (unhide hf).own g hx
                  omega⟩
              rw [unhide HRL] at o5
              obtain ⟨ro5, rc5, rfl⟩ := own_form o5
              rw [← unhide HRR] at HR5
              clear o5 g5 hat5 hf hr1 HTT HTL HRL HNX
              go_wp2
              go_roundw
              case rel => exact ⟨k + 1, ro5, rc5, by omega, by go_num, rfl, HF5, HR5⟩
              case measure => simp [intOf]; omega
            · obtain rfl : k = 64 := by omega
              obtain ⟨T, HTT⟩ : ∃ T, Hid (List.replicate 64 (-1 : Int) = T) := ⟨_, rfl⟩
              have HTL : Hid (T.length = 64) := by unfold Hid; rw [← unhide HTT, List.length_replicate]
              rw [unhide HTT] at hr1
              have HU : Hid (OwI .i64 3 wr (.slice ro 64 rc) T (blk (.slice ro 64 rc))) := ⟨own_base (unhide hr1).own (Nat.zero_le _), rfl⟩
              have HNE : Hid (nothing i ++ [T] = nothing (i + 1)) := by unfold Hid; rw [← unhide HTT]; exact nothing_next i
              have HLN : Hid ((nothing i).length ≤ 1000000) := by unfold Hid nothing; rw [List.length_replicate]; omega
              go_wp2_with (at_builtin; refine append_rowR ok1 Tryz.underlying25 infoIntSS rfl _ _ rfl (.slice uo i uc) (nothing i) F rfl (unhide hf).own (unhide hf).nd _ T _ (unhide HU) (blk_nodup _) (fun x hx => (unhide hr1).na x (mem_blk.1 hx)) rfl (unhide HLN) _ (unhide HNE) ?_)
              intro v5 w5 F5 o5 n5 m5 g5
              have HF5 : Hid (Lf w w5 #[.int .i64 p, .int .i64 wd, .int .i64 ht, .int .i64 rs, .slice fo n fc] v5 (nothing (i + 1)) F5) := by
                have E := unhide hf
                have hsub : ∀ x ∈ blk (.slice uo i uc), x ∈ F := by
                  obtain ⟨us, Fs, _, _, _, _, e9⟩ := E.own
                  intro x hx
                  rw [e9]
                  simp [hx]
                have hE := E.size
                refine ⟨(g5.block _ (by omega) (fun e => by have := E.lo _ (hsub _ e); omega)).trans E.fr, o5, n5, fun x hx => ?_, Wr.new E.grown g5 (fun x hx => by have := E.lo _ (hsub _ hx); omega)⟩
                rcases m5 x hx with h | h | h
                · exact E.lo x h
                · exact ((unhide hr1).own.lt x (mem_blk.1 h)).1
                · omega
              obtain ⟨uo5, uc5, rfl⟩ := o5.form
              have e5 : (nothing (i + 1)).length = i + 1 := by unfold nothing; rw [List.length_replicate]
              rw [e5] at HF5 ⊢
              clear o5 n5 m5 g5 hf hr1 HU HNE HLN HTT HTL e5
              go_wp2
              go_roundw
              case rel => exact ⟨i + 1, uo5, uc5, F5, by omega, by go_num, rfl, HF5⟩
              case measure => simp [intOf]; omega
        · obtain rfl : n = i := by omega
          have hd : decide ((n : Int) < (n : Int)) = false := decide_eq_false (by omega)
          go_wp2
          clear c4 hd
          have HX0 : Hid (leftAll true n (S.take 0) (nothing n) = some (nothing n)) := rfl
          go_loopw [10] (fun iv wr => ∃ (i : Nat) (X : List (List Int)), i ≤ S.length ∧ iv = .int .i64 i ∧ Hid (Lf w wr #[.int .i64 p, .int .i64 wd, .int .i64 ht, .int .i64 rs, .slice fo n fc] (.slice uo n uc) X F) ∧ Hid (leftAll true n (S.take i) (nothing n) = some X)) (fun iv _ => S.length - (intOf iv).toNat)
          case atStart => exact ⟨0, _, Nat.zero_le _, rfl, hf, HX0⟩
          case round =>
            clear hf HX0
            obtain ⟨i, X, hi, rfl, hf, hX⟩ := hrel
            by_cases hlt : i < S.length
            · have hltI : (i : Int) < (S.length : Int) := by omega
              have i0 : (0 : Int) ≤ (i : Int) := by omega
              obtain ⟨sb, soff, cf, rfl, hcell, hsc, hrd⟩ := unhide HSR i hlt
              obtain ⟨a, HA⟩ : ∃ a, Hid (S.getD i Scn.zero = a) := ⟨_, rfl⟩
              have ea : S[i] = a := by rw [← unhide HA]; simp [hlt]
              have hcl := unhide HCS S[i] (List.getElem_mem hlt)
              have NEXT : Hid (∀ Z, scanB true n a = true → leftScan a X = some Z → leftAll true n (S.take (i + 1)) (nothing n) = some Z) := fun Z h1 h2 => leftAll_next i hlt (unhide hX) (by rw [ea]; exact h1) (by rw [ea]; exact h2)
              have FAIL : Hid (scanB true n a = false ∨ leftScan a X = none → b = false ∧ L = []) := fun h => unhide NIL (by rw [unhide LE]; exact leftAll_fails i hlt (unhide hX) (by rw [ea]; exact h))
              have HR64 := hide (leftAll_step _ _ X (nothing_rows n) (unhide hX)).1
              rw [ea] at hsc hrd hcl
              clear ea
              obtain ⟨cs, fr, to, hi', lo⟩ := a
              obtain ⟨co, cc, ec, hrc⟩ := hrd
              dsimp only at hsc hrc hcl ec
              obtain ⟨cn, HCN⟩ : ∃ cn, Hid (cs.length = cn) := ⟨_, rfl⟩
              rw [unhide HCN] at ec hrc hcl
              obtain ⟨k0, k1, k2, k3, k4⟩ := rowScan (fun j hj => (unhide hf).grown.cell (hcell j hj) (by simp)) hsc
              rw [ec] at k0
              dsimp only at k1 k2 k3 k4
              have B5 := at_rowS (World.grownBy_alloc wr (.cells #[.slice co cn cc, .int .i64 fr, .int .i64 to, .int .i64 hi', .int .i64 lo] 77) none) (unhide hf).fr (by simp)
              have S5 := heap_alloc_new wr (.cells #[.slice co cn cc, .int .i64 fr, .int .i64 to, .int .i64 hi', .int .i64 lo] 77)
              obtain ⟨f0, f1, f2, f3, f4⟩ := frameCells' B5
              obtain ⟨s0, s1, s2, s3, s4⟩ := scanCells S5
              have HS5 := hide S5
              have HF5 := hide ((unhide hf).new (World.grownBy_alloc wr (.cells #[.slice co cn cc, .int .i64 fr, .int .i64 to, .int .i64 hi', .int .i64 lo] 77) none))
              have HRC' := hide hrc
              have HWS := (unhide hf).size
              have HDJ : Hid (∀ g ∈ F, g < wr.heap.size) := fun g hg => ok2.lt _ _ _ _ (unhide hf).own g hg
              obtain ⟨t, HT⟩ : ∃ t, Hid (scanB true n ⟨cs, fr, to, hi', lo⟩ = t) := ⟨_, rfl⟩
              clear hcell hsc hrc ec B5 S5 hf
              go_wp2_with fail
              clear f0 f1 f2 f3 f4 s0 s1 s2 s3 s4 k0 k1 k2 k3 k4
              generalize wr.alloc (.cells #[.slice co cn cc, .int .i64 fr, .int .i64 to, .int .i64 hi', .int .i64 lo] 77) = w5 at *
              generalize wr.heap.size = bs at *
              refine (specScanOk p wd ht rs fo n fc C w5 ((unhide HRC).grown (unhide HF5).grown) hn co cn cc ⟨cs, fr, to, hi', lo⟩ ((unhide HRC').grown (unhide HF5).grown) hcl true t HFB HT).mono ?_
              rintro e w6 ⟨rfl, g6⟩
              have HF6 := hide ((unhide HF5).new g6)
              have HS6 := hide (at_rowS g6 (unhide HS5) (by simp))
              clear HF5 HS5 g6
              cases t with
              | false =>
                have e := unhide FAIL (.inl (unhide HT))
                have HEM := hide (unhide EMP w6 (unhide HF6).grown e)
                go_wp2
                refine bodyPost_ret (v := .tuple #[.slice (some ⟨w6.heap.size, 0, none⟩) 0 0, .bool false]) (by simp [results, Tryz.results63, go_sem]) rfl ?_
                exact unhide HEM
              | true =>
                have hb := unhide HT
                simp only [scanB, Bool.and_eq_true] at hb
                obtain ⟨⟨_, hoc⟩, hpb⟩ := hb
                have hpi := passB_in hpb
                dsimp only at hpi hoc
                obtain ⟨p1, p2, p3, p4, p5⟩ := hpi
                have hcin := okComps_in hoc
                obtain ⟨fz, rfl⟩ := Int.eq_ofNat_of_zero_le p1
                obtain ⟨tz, rfl⟩ := Int.eq_ofNat_of_zero_le (Int.le_trans p1 p2)
                obtain ⟨wt, HWT⟩ : ∃ wt, Hid (wantOf ⟨cs, (fz : Int), (tz : Int), hi', lo⟩ = wt) := ⟨_, rfl⟩
                have HLS : Hid (leftScan ⟨cs, (fz : Int), (tz : Int), hi', lo⟩ X = leftComps wt lo fz (tz + 1 - fz) cs X) := by
                  unfold Hid leftScan
                  dsimp only
                  rw [unhide HWT]
                  have e1 : ((tz : Int) - (fz : Int) + 1).toNat = tz + 1 - fz := by omega
                  rw [e1, Int.toNat_natCast]
                have hft : fz ≤ tz := by omega
                have htz : tz ≤ 63 := by omega
                have HHI : Hid (wt = -1 ∨ lo ≤ wt) := by
                  unfold Hid
                  rw [← unhide HWT]
                  unfold wantOf
                  dsimp only
                  split
                  · exact .inl rfl
                  · right; omega
                have HLO := hide p4
                have HCIN := hide hcin
                have NXT : Hid (∀ Z, leftComps wt lo fz (tz + 1 - fz) cs X = some Z → leftAll true n (S.take (i + 1)) (nothing n) = some Z) := fun Z h => unhide NEXT Z (unhide HT) (by rw [unhide HLS]; exact h)
                have FLS : Hid (leftComps wt lo fz (tz + 1 - fz) cs X = none → b = false ∧ L = []) := fun h => unhide FAIL (.inr (by rw [unhide HLS]; exact h))
                have HY0 : Hid (leftComps wt lo fz (tz + 1 - fz) (cs.take 0) X = some X) := rfl
                have hc0 : 0 < cn := by
                  simp only [okComps, Bool.and_eq_true, decide_eq_true_eq] at hoc
                  rw [← unhide HCN]
                  exact hoc.2
                obtain ⟨cb, coff, rfl, _⟩ := (unhide HRC').2 0 hc0
                have h40 := unhide HSL
                obtain ⟨s0, s1, s2, s3, s4⟩ := scanCells (unhide HS6)
                clear hoc hpb hcin p1 p2 p3 p4 p5 NEXT FAIL HT HLS
                by_cases h0 : hi' = 0
                · have ew : (-1 : Int) = wt := by rw [← unhide HWT]; unfold wantOf; rw [if_pos h0]
                  have hz : (hi' == 0) = true := by simp [h0]
                  clear h0 HWT
                  go_wp2
                  rw [ew]
                  clear ew hz s0 s1 s2 s3 s4
                  go_loopw [13] (fun jv wr => ∃ (j : Nat) (Y : List (List Int)), j ≤ cn ∧ jv = .int .i64 j ∧ Hid (Lf w wr #[.int .i64 p, .int .i64 wd, .int .i64 ht, .int .i64 rs, .slice fo n fc] (.slice uo n uc) Y F) ∧ Hid (wr.heap[bs]? = some (.cells #[.slice (some ⟨cb, coff, none⟩) cn cc, .int .i64 (fz : Int), .int .i64 (tz : Int), .int .i64 hi', .int .i64 lo] 77 (0, 0))) ∧ Hid (leftComps wt lo fz (tz + 1 - fz) (cs.take j) X = some Y)) (fun jv _ => cn - (intOf jv).toNat)
                  case atStart => exact ⟨0, X, Nat.zero_le _, rfl, HF6, HS6, HY0⟩
                  case round =>
                    clear HF6 HS6 HY0
                    obtain ⟨j, Y, hj, rfl, hf, hs, hY⟩ := hrel
                    obtain ⟨s0, s1, s2, s3, s4⟩ := scanCells (unhide hs)
                    by_cases hjl : j < cn
                    · have hd2 : decide ((j : Int) < (cn : Int)) = true := decide_eq_true (by omega)
                      have hjI : (j : Int) < (cn : Int) := by omega
                      have hjc : j < cs.length := by rw [unhide HCN]; exact hjl
                      have hY64 := (leftComps_step (n := n) (by omega) (unhide HHI) (unhide HLO) (cs.take j) X Y (unhide HR64) (fun c hc => unhide HCIN c (List.mem_of_mem_take hc)) (unhide hY)).1
                      obtain ⟨cb', coff', ecb, hcc⟩ := (unhide HRC').2 j hjl
                      obtain ⟨rfl, rfl⟩ : cb = cb' ∧ coff = coff' := by simpa using ecb
                      obtain ⟨c0, c1⟩ := unhide HCIN (cs.getD j 0) (by rw [List.getD_eq_getElem?_getD, List.getElem?_eq_getElem hjc]; exact List.getElem_mem hjc)
                      obtain ⟨cj, hcj⟩ := Int.eq_ofNat_of_zero_le c0
                      have hcn4 : cj < n := by omega
                      have NX4 : Hid (∀ row, leftRow wt lo fz (tz + 1 - fz) (Y.getD cj []) = some row → leftComps wt lo fz (tz + 1 - fz) (cs.take (j + 1)) X = some (Y.set cj row)) := fun row h => by
                        have := leftComps_next (row := row) j hjc (unhide hY) (by rw [hcj, Int.toNat_natCast]; exact h)
                        rw [hcj, Int.toNat_natCast] at this
                        exact this
                      have FL4 : Hid (leftRow wt lo fz (tz + 1 - fz) (Y.getD cj []) = none → b = false ∧ L = []) := fun h => unhide FLS (leftComps_fails j hjc (unhide hY) (by rw [hcj, Int.toNat_natCast]; exact h))
                      rw [hcj] at hcc
                      have HCC := hide hcc
                      have HYL : Hid (Y.length = n) := hY64.1
                      have HYR : Hid ((Y.getD cj []).length = 64) := hY64.2 cj hcn4
                      have HY1 : Hid (Lf w wr #[.int .i64 p, .int .i64 wd, .int .i64 ht, .int .i64 rs, .slice fo n fc] (.slice uo n uc) (Y.set cj (Y.getD cj [])) F) := by
                        have e9 : Y.set cj (Y.getD cj []) = Y := by
                          have hl : cj < Y.length := by rw [hY64.1]; exact hcn4
                          have e8 : Y.getD cj [] = Y[cj] := by simp [hl]
                          rw [e8, List.set_getElem_self]
                        unfold Hid
                        rw [e9]
                        exact unhide hf
                      have HR0 : Hid (leftRow wt lo fz 0 (Y.getD cj []) = some (Y.getD cj [])) := rfl
                      clear hcc c0 c1 hcj hY64 hf hjc
                      go_wp2
                      clear s0 s1 s2 s3 s4
                      go_loopw [14] (fun kv wr => ∃ (m : Nat) (row : List Int), m ≤ tz + 1 - fz ∧ kv = .int .i64 ((fz + m : Nat) : Int) ∧ Hid (Lf w wr #[.int .i64 p, .int .i64 wd, .int .i64 ht, .int .i64 rs, .slice fo n fc] (.slice uo n uc) (Y.set cj row) F) ∧ Hid (wr.heap[bs]? = some (.cells #[.slice (some ⟨cb, coff, none⟩) cn cc, .int .i64 (fz : Int), .int .i64 (tz : Int), .int .i64 hi', .int .i64 lo] 77 (0, 0))) ∧ Hid (leftRow wt lo fz m (Y.getD cj []) = some row)) (fun kv _ => tz + 1 - (intOf kv).toNat)
                      case atStart => exact ⟨0, _, Nat.zero_le _, rfl, HY1, hs, HR0⟩
                      case round =>
                        clear HY1 hs HR0
                        obtain ⟨m, row, hm, rfl, hf, hs, hR⟩ := hrel
                        obtain ⟨s0, s1, s2, s3, s4⟩ := scanCells (unhide hs)
                        by_cases hml : m < tz + 1 - fz
                        · have hd3 : decide (((fz + m : Nat) : Int) ≤ (tz : Int)) = true := decide_eq_true (by omega)
                          have hk64 : fz + m < 64 := by omega
                          have hrl : row.length = 64 := by rw [leftRow_len _ _ _ row (unhide hR)]; exact unhide HYR
                          have hcl2 : cj < (Y.set cj row).length := by rw [List.length_set, unhide HYL]; exact hcn4
                          have eg : (Y.set cj row).getD cj [] = row := getD_set_same _ _ _ _ (by rw [unhide HYL]; exact hcn4)
                          obtain ⟨g, gcap, gi, ci, e1, q0, q1, qf, hgF, hset⟩ := leftL_row2 (unhide hf).own (unhide hf).nd cj hcl2 (fz + m) (by rw [eg, hrl]; exact hk64)
                          rw [eg] at q0 q1 hset
                          rw [hrl] at q0
                          rw [List.length_set, unhide HYL] at e1
                          obtain ⟨rfl, rfl⟩ : uo = some ⟨g, 0, none⟩ ∧ uc = gcap := by simpa using e1
                          have hset' : ∀ z, (Y.set cj row).set cj (row.set (fz + m) z) = Y.set cj (row.set (fz + m) z) := fun z => by rw [List.set_set]
                          have hcc' := (unhide hf).grown.cell (unhide HCC) (by simp)
                          obtain ⟨z, HZ⟩ : ∃ z, Hid (row.getD (fz + m) 0 = z) := ⟨_, rfl⟩
                          rw [unhide HZ] at q1
                          obtain ⟨kk, HKK⟩ : ∃ kk, Hid (fz + m = kk) := ⟨_, rfl⟩
                          rw [unhide HKK] at q1 qf hset hset' hd3 hk64 HZ ⊢
                          have b1 : (0 : Int) ≤ (cj : Int) := by omega
                          have b2 : (cj : Int) < (n : Int) := by omega
                          have b3 : (0 : Int) ≤ (kk : Int) := by omega
                          have b4 : (kk : Int) < 64 := by omega
                          have b5 : (0 : Int) ≤ (j : Int) := by omega
                          have b6 : (kk : Int) ≤ (tz : Int) := by have := unhide HKK; omega
                          have b7 : kk ≤ tz := by omega
                          clear e1 eg hcl2
                          by_cases hzw : z = wt
                          · have hne : (z != wt) = false := by simp [hzw]
                            have hgl : g ∈ F := (unhide hf).own.headL
                            have HF9 : Hid (Lf w (wr.drew.setCell ⟨gi, kk, none⟩ (.int .i64 lo)) #[.int .i64 p, .int .i64 wd, .int .i64 ht, .int .i64 rs, .slice fo n fc] (.slice (some ⟨g, 0, none⟩) n uc) (Y.set cj (row.set kk lo)) F) := by
                              have E := unhide hf
                              have hlo := E.lo gi hgF
                              have gs := grown_set wr.drew gi kk (.int .i64 lo)
                              refine ⟨at_rowS gs E.fr (by simp; omega), ?_, E.nd, E.lo, grown_new (grown_drew E.grown) gs (fun q e => by simp at e; omega)⟩
                              have h9 := hset lo
                              rw [hset'] at h9
                              exact ok2.same _ _ _ _ _ h9 (fun x _ => rfl)
                            have HS9 : Hid ((wr.drew.setCell ⟨gi, kk, none⟩ (.int .i64 lo)).heap[bs]? = some (.cells #[.slice (some ⟨cb, coff, none⟩) cn cc, .int .i64 (fz : Int), .int .i64 (tz : Int), .int .i64 hi', .int .i64 lo] 77 (0, 0))) := at_rowS (grown_set wr.drew gi kk (.int .i64 lo)) (unhide hs) (by have := unhide HDJ gi hgF; simp; omega)
                            have HR9 : Hid (leftRow wt lo fz (m + 1) (Y.getD cj []) = some (row.set kk lo)) := by
                              have := leftRow_next (unhide hR) (by rw [unhide HKK, unhide HZ]; exact hzw)
                              rw [unhide HKK] at this
                              exact this
                            subst hzw
                            clear hset hset' hf hs hR HZ
                            go_wp2
                            refine wp_region_noPanic ?_
                            have d0 : wr.drew.cell? ⟨bs, 0, none⟩ = _ := s0
                            have d4 : wr.drew.cell? ⟨bs, 4, none⟩ = _ := s4
                            have dc : wr.drew.cell? ⟨cb, coff + j, none⟩ = _ := hcc'
                            have dq0 : wr.drew.cell? ⟨g, cj, none⟩ = _ := q0
                            have dq1 : wr.drew.cell? ⟨gi, kk, none⟩ = _ := q1
                            have dqf : wr.drew.frozen? ⟨gi, kk, none⟩ = false := qf
                            clear s0 s1 s2 s3 s4 hcc' q0 q1 qf
                            refine wp_region_tailL 20 (fun W => W = wr.drew) [true, true, true, true, true, true, true, true, true, true, true, false, false] (by kernel_rfl) (fun _ _ _ _ _ h => h) rfl (by decide) (by kernel_rfl) rfl ?_
                            generalize wr.drew = wd' at *
                            iterate 11
                              refine heldF_take (v := ?_) (Or.inl ⟨by rfl, ?_⟩) ?_
                              rotate_left 1
                              · intro w' hSw
                                subst hSw
                                go_simp
                                try with_reducible rfl
                              simp only [Act.put, List.setIfInBounds_toArray, List.set_cons_zero, List.set_cons_succ]
                            refine heldF_skip (heldF_skip (heldF_nil ?_))
                            refine tailL_skip (tailL_skip (tailL_skip (tailL_skip (tailL_skip (tailL_skip (tailL_skip (tailL_skip (tailL_skip (tailL_skip (tailL_skip ?_))))))))))
                            refine tailL_step (fun K hK => ?_)
                            go_simp
                            refine hK.out _ _ (.inr rfl) ?_
                            clear hK K
                            try simp only [Act.put, List.setIfInBounds_toArray, List.set_cons_zero, List.set_cons_succ]
                            refine tailL_step (fun K hK => ?_)
                            go_simp
                            refine hK.out _ _ (.inl rfl) (tailL_nil (NoPanic.normal ?_))
                            clear hK K d0 d4 dc dq0 dq1 dqf
                            generalize wd'.setCell ⟨gi, kk, none⟩ (.int .i64 lo) = w9 at *
                            go_wp2
                            go_roundw
                            case rel => exact ⟨m + 1, row.set kk lo, by omega, by have := unhide HKK; go_num, HF9, HS9, HR9⟩
                            case measure => have := unhide HKK; simp [intOf]; omega
                          · have hne : (z != wt) = true := by simp [hzw]
                            have e := unhide FL4 (leftRow_fails (unhide hR) (by rw [unhide HKK, unhide HZ]; exact hzw) hml)
                            have HEM := hide (unhide EMP wr (unhide hf).grown e)
                            clear hzw hset hset'
                            go_wp2
                            refine bodyPost_ret (v := .tuple #[.slice (some ⟨wr.heap.size, 0, none⟩) 0 0, .bool false]) (by simp [results, Tryz.results63, go_sem]) rfl ?_
                            exact unhide HEM
                        · obtain rfl : m = tz + 1 - fz := by omega
                          have e9 : fz + (tz + 1 - fz) = tz + 1 := by omega
                          rw [e9]
                          have hd3 : decide (((tz + 1 : Nat) : Int) ≤ (tz : Int)) = false := decide_eq_false (by omega)
                          have HC9 := hide (unhide NX4 row (unhide hR))
                          clear e9
                          go_wp2
                          go_roundw
                          case rel => exact ⟨j + 1, Y.set cj row, by omega, by go_num, hf, hs, HC9⟩
                          case measure => simp [intOf]; omega
                    · obtain rfl : j = cn := by omega
                      have hd2 : decide ((j : Int) < (j : Int)) = false := decide_eq_false (by omega)
                      have HA9 : Hid (leftAll true n (S.take (i + 1)) (nothing n) = some Y) := unhide NXT Y (by have h9 := unhide hY; rw [← unhide HCN, List.take_length] at h9; exact h9)
                      go_wp2
                      go_roundw
                      case rel => exact ⟨i + 1, Y, by omega, by go_num, hf, HA9⟩
                      case measure => simp [intOf]; omega
                · have ew : hi' = wt := by rw [← unhide HWT]; unfold wantOf; rw [if_neg h0]
                  have hz : (hi' == 0) = false := by simp [h0]
                  clear h0 HWT
                  subst ew
                  go_wp2
                  clear hz s0 s1 s2 s3 s4
                  go_loopw [13] (fun jv wr => ∃ (j : Nat) (Y : List (List Int)), j ≤ cn ∧ jv = .int .i64 j ∧ Hid (Lf w wr #[.int .i64 p, .int .i64 wd, .int .i64 ht, .int .i64 rs, .slice fo n fc] (.slice uo n uc) Y F) ∧ Hid (wr.heap[bs]? = some (.cells #[.slice (some ⟨cb, coff, none⟩) cn cc, .int .i64 (fz : Int), .int .i64 (tz : Int), .int .i64 hi', .int .i64 lo] 77 (0, 0))) ∧ Hid (leftComps hi' lo fz (tz + 1 - fz) (cs.take j) X = some Y)) (fun jv _ => cn - (intOf jv).toNat)
                  case atStart => exact ⟨0, X, Nat.zero_le _, rfl, HF6, HS6, HY0⟩
                  case round =>
                    clear HF6 HS6 HY0
                    obtain ⟨j, Y, hj, rfl, hf, hs, hY⟩ := hrel
                    obtain ⟨s0, s1, s2, s3, s4⟩ := scanCells (unhide hs)
                    by_cases hjl : j < cn
                    · have hd2 : decide ((j : Int) < (cn : Int)) = true := decide_eq_true (by omega)
                      have hjI : (j : Int) < (cn : Int) := by omega
                      have hjc : j < cs.length := by rw [unhide HCN]; exact hjl
                      have hY64 := (leftComps_step (n := n) (by omega) (unhide HHI) (unhide HLO) (cs.take j) X Y (unhide HR64) (fun c hc => unhide HCIN c (List.mem_of_mem_take hc)) (unhide hY)).1
                      obtain ⟨cb', coff', ecb, hcc⟩ := (unhide HRC').2 j hjl
                      obtain ⟨rfl, rfl⟩ : cb = cb' ∧ coff = coff' := by simpa using ecb
                      obtain ⟨c0, c1⟩ := unhide HCIN (cs.getD j 0) (by rw [List.getD_eq_getElem?_getD, List.getElem?_eq_getElem hjc]; exact List.getElem_mem hjc)
                      obtain ⟨cj, hcj⟩ := Int.eq_ofNat_of_zero_le c0
                      have hcn4 : cj < n := by omega
                      have NX4 : Hid (∀ row, leftRow hi' lo fz (tz + 1 - fz) (Y.getD cj []) = some row → leftComps hi' lo fz (tz + 1 - fz) (cs.take (j + 1)) X = some (Y.set cj row)) := fun row h => by
                        have := leftComps_next (row := row) j hjc (unhide hY) (by rw [hcj, Int.toNat_natCast]; exact h)
                        rw [hcj, Int.toNat_natCast] at this
                        exact this
                      have FL4 : Hid (leftRow hi' lo fz (tz + 1 - fz) (Y.getD cj []) = none → b = false ∧ L = []) := fun h => unhide FLS (leftComps_fails j hjc (unhide hY) (by rw [hcj, Int.toNat_natCast]; exact h))
                      rw [hcj] at hcc
                      have HCC := hide hcc
                      have HYL : Hid (Y.length = n) := hY64.1
                      have HYR : Hid ((Y.getD cj []).length = 64) := hY64.2 cj hcn4
                      have HY1 : Hid (Lf w wr #[.int .i64 p, .int .i64 wd, .int .i64 ht, .int .i64 rs, .slice fo n fc] (.slice uo n uc) (Y.set cj (Y.getD cj [])) F) := by
                        have e9 : Y.set cj (Y.getD cj []) = Y := by
                          have hl : cj < Y.length := by rw [hY64.1]; exact hcn4
                          have e8 : Y.getD cj [] = Y[cj] := by simp [hl]
                          rw [e8, List.set_getElem_self]
                        unfold Hid
                        rw [e9]
                        exact unhide hf
                      have HR0 : Hid (leftRow hi' lo fz 0 (Y.getD cj []) = some (Y.getD cj [])) := rfl
                      clear hcc c0 c1 hcj hY64 hf hjc
                      go_wp2
                      clear s0 s1 s2 s3 s4
                      go_loopw [14] (fun kv wr => ∃ (m : Nat) (row : List Int), m ≤ tz + 1 - fz ∧ kv = .int .i64 ((fz + m : Nat) : Int) ∧ Hid (Lf w wr #[.int .i64 p, .int .i64 wd, .int .i64 ht, .int .i64 rs, .slice fo n fc] (.slice uo n uc) (Y.set cj row) F) ∧ Hid (wr.heap[bs]? = some (.cells #[.slice (some ⟨cb, coff, none⟩) cn cc, .int .i64 (fz : Int), .int .i64 (tz : Int), .int .i64 hi', .int .i64 lo] 77 (0, 0))) ∧ Hid (leftRow hi' lo fz m (Y.getD cj []) = some row)) (fun kv _ => tz + 1 - (intOf kv).toNat)
                      case atStart => exact ⟨0, _, Nat.zero_le _, rfl, HY1, hs, HR0⟩
                      case round =>
                        clear HY1 hs HR0
                        obtain ⟨m, row, hm, rfl, hf, hs, hR⟩ := hrel
                        obtain ⟨s0, s1, s2, s3, s4⟩ := scanCells (unhide hs)
                        by_cases hml : m < tz + 1 - fz
                        · have hd3 : decide (((fz + m : Nat) : Int) ≤ (tz : Int)) = true := decide_eq_true (by omega)
                          have hk64 : fz + m < 64 := by omega
                          have hrl : row.length = 64 := by rw [leftRow_len _ _ _ row (unhide hR)]; exact unhide HYR
                          have hcl2 : cj < (Y.set cj row).length := by rw [List.length_set, unhide HYL]; exact hcn4
                          have eg : (Y.set cj row).getD cj [] = row := getD_set_same _ _ _ _ (by rw [unhide HYL]; exact hcn4)
                          obtain ⟨g, gcap, gi, ci, e1, q0, q1, qf, hgF, hset⟩ := leftL_row2 (unhide hf).own (unhide hf).nd cj hcl2 (fz + m) (by rw [eg, hrl]; exact hk64)
                          rw [eg] at q0 q1 hset
                          rw [hrl] at q0
                          rw [List.length_set, unhide HYL] at e1
                          obtain ⟨rfl, rfl⟩ : uo = some ⟨g, 0, none⟩ ∧ uc = gcap := by simpa using e1
                          have hset' : ∀ z, (Y.set cj row).set cj (row.set (fz + m) z) = Y.set cj (row.set (fz + m) z) := fun z => by rw [List.set_set]
                          have hcc' := (unhide hf).grown.cell (unhide HCC) (by simp)
                          obtain ⟨z, HZ⟩ : ∃ z, Hid (row.getD (fz + m) 0 = z) := ⟨_, rfl⟩
                          rw [unhide HZ] at q1
                          obtain ⟨kk, HKK⟩ : ∃ kk, Hid (fz + m = kk) := ⟨_, rfl⟩
                          rw [unhide HKK] at q1 qf hset hset' hd3 hk64 HZ ⊢
                          have b1 : (0 : Int) ≤ (cj : Int) := by omega
                          have b2 : (cj : Int) < (n : Int) := by omega
                          have b3 : (0 : Int) ≤ (kk : Int) := by omega
                          have b4 : (kk : Int) < 64 := by omega
                          have b5 : (0 : Int) ≤ (j : Int) := by omega
                          have b6 : (kk : Int) ≤ (tz : Int) := by have := unhide HKK; omega
                          have b7 : kk ≤ tz := by omega
                          clear e1 eg hcl2
                          by_cases hzw : z = hi'
                          · have hne : (z != hi') = false := by simp [hzw]
                            have hgl : g ∈ F := (unhide hf).own.headL
                            have HF9 : Hid (Lf w (wr.drew.setCell ⟨gi, kk, none⟩ (.int .i64 lo)) #[.int .i64 p, .int .i64 wd, .int .i64 ht, .int .i64 rs, .slice fo n fc] (.slice (some ⟨g, 0, none⟩) n uc) (Y.set cj (row.set kk lo)) F) := by
                              have E := unhide hf
                              have hlo := E.lo gi hgF
                              have gs := grown_set wr.drew gi kk (.int .i64 lo)
                              refine ⟨at_rowS gs E.fr (by simp; omega), ?_, E.nd, E.lo, grown_new (grown_drew E.grown) gs (fun q e => by simp at e; omega)⟩
                              have h9 := hset lo
                              rw [hset'] at h9
                              exact ok2.same _ _ _ _ _ h9 (fun x _ => rfl)
                            have HS9 : Hid ((wr.drew.setCell ⟨gi, kk, none⟩ (.int .i64 lo)).heap[bs]? = some (.cells #[.slice (some ⟨cb, coff, none⟩) cn cc, .int .i64 (fz : Int), .int .i64 (tz : Int), .int .i64 hi', .int .i64 lo] 77 (0, 0))) := at_rowS (grown_set wr.drew gi kk (.int .i64 lo)) (unhide hs) (by have := unhide HDJ gi hgF; simp; omega)
                            have HR9 : Hid (leftRow hi' lo fz (m + 1) (Y.getD cj []) = some (row.set kk lo)) := by
                              have := leftRow_next (unhide hR) (by rw [unhide HKK, unhide HZ]; exact hzw)
                              rw [unhide HKK] at this
                              exact this
                            subst hzw
                            clear hset hset' hf hs hR HZ
                            go_wp2
                            refine wp_region_noPanic ?_
                            have d0 : wr.drew.cell? ⟨bs, 0, none⟩ = _ := s0
                            have d4 : wr.drew.cell? ⟨bs, 4, none⟩ = _ := s4
                            have dc : wr.drew.cell? ⟨cb, coff + j, none⟩ = _ := hcc'
                            have dq0 : wr.drew.cell? ⟨g, cj, none⟩ = _ := q0
                            have dq1 : wr.drew.cell? ⟨gi, kk, none⟩ = _ := q1
                            have dqf : wr.drew.frozen? ⟨gi, kk, none⟩ = false := qf
                            clear s0 s1 s2 s3 s4 hcc' q0 q1 qf
                            refine wp_region_tailL 20 (fun W => W = wr.drew) [true, true, true, true, true, true, true, true, true, true, true, false, false] (by kernel_rfl) (fun _ _ _ _ _ h => h) rfl (by decide) (by kernel_rfl) rfl ?_
                            generalize wr.drew = wd' at *
                            iterate 11
                              refine heldF_take (v := ?_) (Or.inl ⟨by rfl, ?_⟩) ?_
                              rotate_left 1
                              · intro w' hSw
                                subst hSw
                                go_simp
                                try with_reducible rfl
                              simp only [Act.put, List.setIfInBounds_toArray, List.set_cons_zero, List.set_cons_succ]
                            refine heldF_skip (heldF_skip (heldF_nil ?_))
                            refine tailL_skip (tailL_skip (tailL_skip (tailL_skip (tailL_skip (tailL_skip (tailL_skip (tailL_skip (tailL_skip (tailL_skip (tailL_skip ?_))))))))))
                            refine tailL_step (fun K hK => ?_)
                            go_simp
                            refine hK.out _ _ (.inr rfl) ?_
                            clear hK K
                            try simp only [Act.put, List.setIfInBounds_toArray, List.set_cons_zero, List.set_cons_succ]
                            refine tailL_step (fun K hK => ?_)
                            go_simp
                            refine hK.out _ _ (.inl rfl) (tailL_nil (NoPanic.normal ?_))
                            clear hK K d0 d4 dc dq0 dq1 dqf
                            generalize wd'.setCell ⟨gi, kk, none⟩ (.int .i64 lo) = w9 at *
                            go_wp2
                            go_roundw
                            case rel => exact ⟨m + 1, row.set kk lo, by omega, by have := unhide HKK; go_num, HF9, HS9, HR9⟩
                            case measure => have := unhide HKK; simp [intOf]; omega
                          · have hne : (z != hi') = true := by simp [hzw]
                            have e := unhide FL4 (leftRow_fails (unhide hR) (by rw [unhide HKK, unhide HZ]; exact hzw) hml)
                            have HEM := hide (unhide EMP wr (unhide hf).grown e)
                            clear hzw hset hset'
                            go_wp2
                            refine bodyPost_ret (v := .tuple #[.slice (some ⟨wr.heap.size, 0, none⟩) 0 0, .bool false]) (by simp [results, Tryz.results63, go_sem]) rfl ?_
                            exact unhide HEM
                        · obtain rfl : m = tz + 1 - fz := by omega
                          have e9 : fz + (tz + 1 - fz) = tz + 1 := by omega
                          rw [e9]
                          have hd3 : decide (((tz + 1 : Nat) : Int) ≤ (tz : Int)) = false := decide_eq_false (by omega)
                          have HC9 := hide (unhide NX4 row (unhide hR))
                          clear e9
                          go_wp2
                          go_roundw
                          case rel => exact ⟨j + 1, Y.set cj row, by omega, by go_num, hf, hs, HC9⟩
                          case measure => simp [intOf]; omega
                    · obtain rfl : j = cn := by omega
                      have hd2 : decide ((j : Int) < (j : Int)) = false := decide_eq_false (by omega)
                      have HA9 : Hid (leftAll true n (S.take (i + 1)) (nothing n) = some Y) := unhide NXT Y (by have h9 := unhide hY; rw [← unhide HCN, List.take_length] at h9; exact h9)
                      go_wp2
                      go_roundw
                      case rel => exact ⟨i + 1, Y, by omega, by go_num, hf, HA9⟩
                      case measure => simp [intOf]; omega
            · obtain rfl : i = S.length := by omega
              have hd2 : decide ((S.length : Int) < (S.length : Int)) = false := decide_eq_false (by omega)
              rw [List.take_length] at hX
              have eX : leftO true n S = some X := by rw [unhide LE]; exact unhide hX
              have ebt : b = true ∧ L = X := ⟨by rw [← unhide HB, eX]; rfl, by rw [← unhide HL, leftG, eX]; rfl⟩
              obtain ⟨rfl, rfl⟩ := ebt
              go_wp2
              refine bodyPost_ret (v := .tuple #[.slice uo n uc, .bool true]) (by simp [results, Tryz.results63, go_sem]) rfl ?_
              exact ⟨_, F, rfl, (unhide hf).own, (unhide hf).nd, fun g hg => by have := (unhide hf).lo g hg; omega, (unhide hf).grown⟩
    · have hgt : decide ((S.length : Int) > 40) = true := decide_eq_true (by omega)
      have hlt : (40 : Int) < (S.length : Int) := by omega
      obtain ⟨rfl, rfl⟩ := unhide NIL (by unfold leftO; rw [decide_eq_false h40]; rfl)
      clear h40
      go_wp2
      refine bodyPost_ret (v := .tuple #[.slice (some ⟨w.heap.size + 1, 0, none⟩) 0 0, .bool false]) (by simp [results, Tryz.results63, go_sem]) rfl ?_
      exact ⟨_, _, rfl, (unhide HL3).own, (unhide HL3).nd, fun g hg => by have := (unhide HL3).lo g hg; omega, (unhide HL3).grown⟩

end Go.Proofs.YtjkokbijnaodnaaGreat

namespace Go.Proofs.YtjkokbijnaodnaaGreat
open Go.RowKit

theorem left_short {fb : Bool} {n : Nat} {S : List Scn} {C : Nat → Nat → Int} {p wd ht rs : Int} (HFB : frameB p wd ht rs n C = fb) : (leftG fb n S).length ≤ 4 ∧ ∀ r ∈ leftG fb n S, r.length ≤ 64 := by
  unfold leftG
  cases h : leftO fb n S with
  | none => exact ⟨by simp, fun r hr => by simp at hr⟩
  | some X =>
    have h64 := leftO_rows h
    have hfb : fb = true := by
      unfold leftO at h
      cases fb with
      | true => rfl
      | false => simp at h
    subst hfb
    refine ⟨by show X.length ≤ 4; rw [h64.1]; exact (geo_of HFB).n4, fun r hr => ?_⟩
    obtain ⟨c, hc, rfl⟩ := List.mem_iff_getElem.1 (show r ∈ X from hr)
    have e : X.getD c [] = X[c] := by simp [hc]
    have := h64.2 c (by rw [← h64.1]; exact hc)
    rw [e] at this
    omega

set_option maxRecDepth 20000 in
set_option maxHeartbeats 1600000 in
theorem specScriptOk (p wd ht rs : Int) (fo : Option Addr) (n fc : Nat) (C : Nat → Nat → Int) (w : World) (hr : RdC w fo n C) (hn : n ≤ 4194304) (v : Value) (S : List Scn) (hS : RdSs w v S) (hcs : ∀ a ∈ S, a.cs.length ≤ 4194304) (fb : Bool) (HFB : Hid (frameB p wd ht rs n C = fb)) (t : Bool) (HT : Hid (scriptB fb n S = t)) :
    Calls Tryz.prog 39 #[.agg #[.int .i64 p, .int .i64 wd, .int .i64 ht, .int .i64 rs, .slice fo n fc], v] w fun e w' => e = .returned (.bool t) ∧ w.grownBy w' none := by
  have G0 : w.grownBy (w.alloc (.cells #[.int .i64 p, .int .i64 wd, .int .i64 ht, .int .i64 rs, .slice fo n fc] 37)) none := World.grownBy_alloc _ _ _
  obtain ⟨b, HB⟩ : ∃ b, Hid ((leftO fb n S).isSome = b) := ⟨_, rfl⟩
  obtain ⟨L, HL⟩ : ∃ L, Hid (leftG fb n S = L) := ⟨_, rfl⟩
  have hsh := left_short (S := S) (unhide HFB)
  rw [unhide HL] at hsh
  have HC := hide (specLeft p wd ht rs fo n fc C _ (hr.grown G0) hn v S (RdSs.st _ _ _ _ hS G0) hcs fb HFB L b HL HB)
  have HG := hide G0
  have HTT : Hid ((b && (L.all zeroB)) = t) := by
    unfold Hid
    rw [← unhide HT, ← unhide HB, ← unhide HL]
    unfold scriptB leftG
    cases leftO fb n S with
    | none => rfl
    | some X => rfl
  have HSH := hide hsh
  clear hr hS hcs G0 hsh
  go_enter Tryz.func39, Tryz.ntmps39
  go_wp2_with fail
  refine (unhide HC).mono ?_
  rintro e w1 ⟨u, F, rfl, o1, n1, l1, g1⟩
  obtain ⟨uo, uc, rfl⟩ := o1.form
  have HR1 := hide (OwR.rd (Q := RdI .i64) (fun _ _ _ _ h => h.rd) o1)
  have HG1 := hide (grown_trans (unhide HG) g1)
  obtain ⟨ln, HLN⟩ : ∃ ln, Hid (L.length = ln) := ⟨_, rfl⟩
  rw [unhide HLN] at HR1 ⊢
  clear o1 n1 l1 g1 HC
  go_wp2
  go_loopw [6, 7] (fun bv iv wr => ∃ (i : Nat) (q : Bool), i ≤ ln ∧ iv = .int .i64 i ∧ bv = .bool q ∧ Hid ((b && (L.take i).all zeroB) = q) ∧ wr = w1) (fun _ iv _ => ln - (intOf iv).toNat)
  case atStart => exact ⟨0, b, Nat.zero_le _, rfl, rfl, by unfold Hid; simp, rfl⟩
  case round =>
    obtain ⟨i, q, hi, rfl, rfl, hq, rfl⟩ := hrel
    by_cases hlt : i < ln
    · have hiI : (i : Int) < (ln : Int) := by omega
      have i0 : (0 : Int) ≤ (i : Int) := by omega
      have hl4 := (unhide HSH).1
      have hln : ln ≤ 4 := by rw [← unhide HLN]; exact hl4
      have hil : i < L.length := by rw [unhide HLN]; exact hlt
      obtain ⟨ao, cap, e1, hel⟩ := unhide HR1
      obtain ⟨gb, goff, ui, rfl, cu, ⟨ri, rc, rfl, hri⟩⟩ := hel i hil
      obtain ⟨rfl, rfl⟩ : uo = some ⟨gb, goff, none⟩ ∧ uc = cap := by
        have e2 := e1
        simp only [Value.slice.injEq] at e2
        exact ⟨e2.1, e2.2.2⟩
      obtain ⟨z, HZ⟩ : ∃ z, Hid (zeroB (L.getD i []) = z) := ⟨_, rfl⟩
      have eL : L[i] = L.getD i [] := by simp [hil]
      rw [eL] at hri cu
      have hrl := (unhide HSH).2 (L.getD i []) (by rw [← eL]; exact List.getElem_mem hil)
      have HQ1 : Hid ((b && (L.take (i + 1)).all zeroB) = (q && z)) := by
        unfold Hid
        rw [List.take_succ_eq_append_getElem hil, List.all_append, ← Bool.and_assoc, unhide hq, eL, List.all_cons, List.all_nil, Bool.and_true, unhide HZ]
      obtain ⟨rn, HRN⟩ : ∃ rn, Hid ((L.getD i []).length = rn) := ⟨_, rfl⟩
      rw [unhide HRN] at hri cu hrl
      have HRI := hide hri
      clear e1 hel hri eL hq hil hl4
      cases q with
      | false =>
        go_wp2
        go_roundw
        case rel => exact ⟨i + 1, false, by omega, by go_num, rfl, HQ1, trivial⟩
        case measure => simp [intOf]; omega
      | true =>
        go_wp2_with fail
        refine (specZero ri rn rc _ wr (unhide HRI) (by omega) z HZ).mono ?_
        rintro e w2 ⟨rfl, rfl⟩
        go_wp2
        go_roundw
        case rel => exact ⟨i + 1, z, by omega, by go_num, rfl, (by have := unhide HQ1; rw [Bool.true_and] at this; exact this), trivial⟩
        case measure => simp [intOf]; omega
    · obtain rfl : i = ln := by omega
      have eq : q = t := by
        rw [← unhide HTT, ← unhide hq, ← unhide HLN, List.take_length]
      subst eq
      go_wp2
      go_ret
      exact ⟨rfl, unhide HG1⟩

end Go.Proofs.YtjkokbijnaodnaaGreat

namespace Go.Proofs.YtjkokbijnaodnaaGreat
open Go.RowKit

set_option maxRecDepth 20000 in
set_option maxHeartbeats 800000 in
theorem each (zs : List Int) (hz : zs.length = 64) (f : Nat → Int) (g : Nat) (lb : Array Value) (eg : ∀ args w, (callFunc g args).run Tryz.prog w = .ok (.enter g args) w) (w : World)
    (HC : Hid (∀ k, k < 64 → ∀ W, w.grownBy W none → Calls Tryz.prog g (#[.int .i64 (zs.getD k 0)] ++ lb) W fun e W' => e = .returned (.int .i64 (f k)) ∧ W.grownBy W' none)) :
    Calls Tryz.prog 100 #[.agg (sq zs), .func (.func g) #[] lb] w fun e w' => e = .returned (.agg (sq (made f))) ∧ w.grownBy w' none := by
  have hs : (sq zs).size = 64 := by rw [sq_size, hz]
  obtain ⟨W0, hW0⟩ : ∃ W0, ((w.alloc (.cells (sq zs) 116)).alloc (.cells #[.int .i64 0, .int .i64 0, .int .i64 0, .int .i64 0, .int .i64 0, .int .i64 0, .int .i64 0, .int .i64 0, .int .i64 0, .int .i64 0, .int .i64 0, .int .i64 0, .int .i64 0, .int .i64 0, .int .i64 0, .int .i64 0, .int .i64 0, .int .i64 0, .int .i64 0, .int .i64 0, .int .i64 0, .int .i64 0, .int .i64 0, .int .i64 0, .int .i64 0, .int .i64 0, .int .i64 0, .int .i64 0, .int .i64 0, .int .i64 0, .int .i64 0, .int .i64 0, .int .i64 0, .int .i64 0, .int .i64 0, .int .i64 0, .int .i64 0, .int .i64 0, .int .i64 0, .int .i64 0, .int .i64 0, .int .i64 0, .int .i64 0, .int .i64 0, .int .i64 0, .int .i64 0, .int .i64 0, .int .i64 0, .int .i64 0, .int .i64 0, .int .i64 0, .int .i64 0, .int .i64 0, .int .i64 0, .int .i64 0, .int .i64 0, .int .i64 0, .int .i64 0, .int .i64 0, .int .i64 0, .int .i64 0, .int .i64 0, .int .i64 0, .int .i64 0] 116)) = W0 := ⟨_, rfl⟩
  have b0 : W0.heap[w.heap.size]? = some (.cells (sq zs) 116 (0, 0)) := by
    rw [← hW0, Below.heap_alloc _ _ _ (by simp)]
    exact heap_alloc_new w _
  have b1 : W0.heap[w.heap.size + 1]? = some (.cells (sq zs64) 116 (0, 0)) := by
    rw [← hW0, sq_z64]
    have := heap_alloc_new (w.alloc (.cells (sq zs) 116)) (.cells #[.int .i64 0, .int .i64 0, .int .i64 0, .int .i64 0, .int .i64 0, .int .i64 0, .int .i64 0, .int .i64 0, .int .i64 0, .int .i64 0, .int .i64 0, .int .i64 0, .int .i64 0, .int .i64 0, .int .i64 0, .int .i64 0, .int .i64 0, .int .i64 0, .int .i64 0, .int .i64 0, .int .i64 0, .int .i64 0, .int .i64 0, .int .i64 0, .int .i64 0, .int .i64 0, .int .i64 0, .int .i64 0, .int .i64 0, .int .i64 0, .int .i64 0, .int .i64 0, .int .i64 0, .int .i64 0, .int .i64 0, .int .i64 0, .int .i64 0, .int .i64 0, .int .i64 0, .int .i64 0, .int .i64 0, .int .i64 0, .int .i64 0, .int .i64 0, .int .i64 0, .int .i64 0, .int .i64 0, .int .i64 0, .int .i64 0, .int .i64 0, .int .i64 0, .int .i64 0, .int .i64 0, .int .i64 0, .int .i64 0, .int .i64 0, .int .i64 0, .int .i64 0, .int .i64 0, .int .i64 0, .int .i64 0, .int .i64 0, .int .i64 0, .int .i64 0] 116)
    simpa using this
  have hsz : W0.heap.size = w.heap.size + 2 := by rw [← hW0]; simp
  have G0 : Hid (w.grownBy W0 none) := by rw [← hW0]; exact grown_alloc (grown_alloc (World.grownBy.refl _ _) _) _
  have HW := hide hW0
  have B0 := hide b0
  have B1 := hide b1
  have HS := hide hs
  have HZ := hide hz
  clear hW0 b0 b1 hz
  go_enter Tryz.func100, Tryz.ntmps100
  go_wp2_with (rw [unhide HW]; refine load_row rfl 116 _ rfl w.heap.size rfl (sq zs) 116 (unhide B0) _ Tryz.underlying116 rfl (by rw [unhide HS]; kernel_rfl) ?_)
  clear HW hs
  go_loopw [8] (fun i wr => ∃ k : Nat, k ≤ 64 ∧ i = .int .i64 k ∧ wr.heap[w.heap.size]? = some (.cells (sq (mix f zs k)) 116 (0, 0)) ∧ W0.grownBy wr (some w.heap.size)) (fun i _ => 64 - (intOf i).toNat)
  case atStart => exact ⟨0, Nat.zero_le _, rfl, by rw [mix_zero]; exact unhide B0, World.grownBy.refl _ _⟩
  case round =>
    obtain ⟨k, hk, rfl, hM, hgk⟩ := hrel
    by_cases hlt : k < 64
    · have hat := fun w => idx (unhide HZ) (k : Int) (by omega) (by omega) w
      simp only [Int.toNat_natCast] at hat
      have hl : (mix f zs k).length = 64 := (mix_len f zs k (by have := unhide HZ; omega)).trans (unhide HZ)
      have G1 : Hid (w.grownBy wr none) := grown_new (unhide G0) hgk (fun g e => by simp at e; omega)
      go_wp2_with fail
      refine (unhide HC k hlt wr (unhide G1)).mono ?_
      rintro e W2 ⟨rfl, g2⟩
      have hM2 := (g2.block w.heap.size (by have := hgk.size; omega) (by simp)).trans hM
      have c2 := sq_cell hM2 k (by omega)
      have f2 := sq_frozen hM2 k
      have hM3 := heap_setCell_same W2 w.heap.size k _ _ (.int .i64 (f k)) hM2
      rw [mix_set f zs k (by have := unhide HZ; omega)] at hM3
      have hg3 := grown_trans (grown_trans hgk (grown_any g2)) (grown_set W2 w.heap.size k (.int .i64 (f k)))
      have H3 := hide hM3
      have HG3 := hide hg3
      clear hM hM2 hM3 hg3 hgk g2 hat
      go_wp2
      go_roundw
      case rel => exact ⟨k + 1, by omega, by go_num, unhide H3, unhide HG3⟩
      case measure => simp [intOf]; omega
    · obtain rfl : k = 64 := by omega
      rw [mix_all f zs (unhide HZ)] at hM
      have hbr := (hgk.block (w.heap.size + 1) (by omega) (by simp)).trans (unhide B1)
      have hms : (sq (made f)).size = 64 := by rw [sq_size, made_len]
      have HM := hide hM
      have HBR := hide hbr
      have HMS := hide hms
      clear hM hbr hms
      go_wp2_with (first | (refine load_row rfl 116 _ rfl w.heap.size rfl (sq (made f)) 116 (unhide HM) _ Tryz.underlying116 rfl (by rw [unhide HMS]; kernel_rfl) ?_) | (refine store_row rfl 116 _ _ rfl (w.heap.size + 1) rfl (sq (made f)) rfl (sq zs64) 116 (unhide HBR) (by rw [unhide HMS, sq_size, zs64_len]) (by rw [unhide HMS]; kernel_rfl) (sq_one _) ?_; intro w3 hB3 g3))
      refine bodyPost_ret (v := .agg (sq (made f))) ?_ rfl ⟨rfl, ?_⟩
      · rw [results_c1 rfl]
        exact run_loadVar_row w3 _ 116 116 _ (0, 0) _ hB3 Tryz.underlying116 rfl (by rw [unhide HMS]; kernel_rfl)
      · exact grown_new (grown_new (unhide G0) hgk (fun g e => by simp at e; omega)) g3 (fun g e => by simp at e; omega)

theorem nearestStep (n : Int) (w : World) :
    Calls Tryz.prog 91 #[.int .i64 n] w fun e w' => e = .returned (.int .i64 (min (max n 1) 1023)) ∧ w = w' := by
  go_enter Tryz.func91, Tryz.ntmps91
  go_wp2
  all_goals
    go_ret
    refine ⟨ret_int ?_, rfl⟩
    first | omega | (split at * <;> omega)

theorem ints_one (zs : List Int) : ∀ u ∈ zs.map (Value.int .i64), u.oneCell' = true := by
  intro u hu
  obtain ⟨y, _, rfl⟩ := List.mem_map.1 hu
  rfl
theorem rd_newsI {w : World} {x : Addr} {m : Nat} {zs : List Int} (h : Rd .i64 w (some x) m zs) : ∀ j u, (zs.map (Value.int .i64))[j]? = some u → w.cell? (x.add j) = some u := by
  intro j u hj
  have hl := h.1
  have hjl : j < m := by
    have := (List.getElem?_eq_some_iff.1 hj).1
    simp at this; omega
  obtain ⟨b, off, e, hc⟩ := h.2 j hjl
  simp only [Option.some.injEq] at e
  subst e
  rw [Addr.add_lit, hc]
  rw [List.getElem?_map] at hj
  have hj2 : j < zs.length := by omega
  simp [hj2] at hj ⊢
  exact hj

end Go.Proofs.YtjkokbijnaodnaaGreat

namespace Go.Proofs.YtjkokbijnaodnaaGreat
open Go.RowKit Go.Shelf

theorem z64_one : (#[.int .i64 0, .int .i64 0, .int .i64 0, .int .i64 0, .int .i64 0, .int .i64 0, .int .i64 0, .int .i64 0, .int .i64 0, .int .i64 0, .int .i64 0, .int .i64 0, .int .i64 0, .int .i64 0, .int .i64 0, .int .i64 0, .int .i64 0, .int .i64 0, .int .i64 0, .int .i64 0, .int .i64 0, .int .i64 0, .int .i64 0, .int .i64 0, .int .i64 0, .int .i64 0, .int .i64 0, .int .i64 0, .int .i64 0, .int .i64 0, .int .i64 0, .int .i64 0, .int .i64 0, .int .i64 0, .int .i64 0, .int .i64 0, .int .i64 0, .int .i64 0, .int .i64 0, .int .i64 0, .int .i64 0, .int .i64 0, .int .i64 0, .int .i64 0, .int .i64 0, .int .i64 0, .int .i64 0, .int .i64 0, .int .i64 0, .int .i64 0, .int .i64 0, .int .i64 0, .int .i64 0, .int .i64 0, .int .i64 0, .int .i64 0, .int .i64 0, .int .i64 0, .int .i64 0, .int .i64 0, .int .i64 0, .int .i64 0, .int .i64 0, .int .i64 0] : Array Value).all (·.oneCell') = true := by rw [← sq_z64]; exact sq_one _

set_option maxRecDepth 20000 in
set_option maxHeartbeats 800000 in
/-- A list that is no square. -/
theorem fixSquare_no (ao : Option Addr) (n cap : Nat) (g : Value) (w : World) (h : n ≠ 64) :
    Calls Tryz.prog 90 #[.slice ao n cap, g] w fun e w' => e = .returned (.tuple #[.agg (sq zs64), .bool false]) ∧ w.grownBy w' none := by
  have hne : ((n : Int) != 64) = true := by simp; omega
  clear h
  go_enter Tryz.func90, Tryz.ntmps90
  go_wp2_with (refine store_row rfl 116 _ _ rfl w.heap.size rfl #[.int .i64 0, .int .i64 0, .int .i64 0, .int .i64 0, .int .i64 0, .int .i64 0, .int .i64 0, .int .i64 0, .int .i64 0, .int .i64 0, .int .i64 0, .int .i64 0, .int .i64 0, .int .i64 0, .int .i64 0, .int .i64 0, .int .i64 0, .int .i64 0, .int .i64 0, .int .i64 0, .int .i64 0, .int .i64 0, .int .i64 0, .int .i64 0, .int .i64 0, .int .i64 0, .int .i64 0, .int .i64 0, .int .i64 0, .int .i64 0, .int .i64 0, .int .i64 0, .int .i64 0, .int .i64 0, .int .i64 0, .int .i64 0, .int .i64 0, .int .i64 0, .int .i64 0, .int .i64 0, .int .i64 0, .int .i64 0, .int .i64 0, .int .i64 0, .int .i64 0, .int .i64 0, .int .i64 0, .int .i64 0, .int .i64 0, .int .i64 0, .int .i64 0, .int .i64 0, .int .i64 0, .int .i64 0, .int .i64 0, .int .i64 0, .int .i64 0, .int .i64 0, .int .i64 0, .int .i64 0, .int .i64 0, .int .i64 0, .int .i64 0, .int .i64 0] rfl #[.int .i64 0, .int .i64 0, .int .i64 0, .int .i64 0, .int .i64 0, .int .i64 0, .int .i64 0, .int .i64 0, .int .i64 0, .int .i64 0, .int .i64 0, .int .i64 0, .int .i64 0, .int .i64 0, .int .i64 0, .int .i64 0, .int .i64 0, .int .i64 0, .int .i64 0, .int .i64 0, .int .i64 0, .int .i64 0, .int .i64 0, .int .i64 0, .int .i64 0, .int .i64 0, .int .i64 0, .int .i64 0, .int .i64 0, .int .i64 0, .int .i64 0, .int .i64 0, .int .i64 0, .int .i64 0, .int .i64 0, .int .i64 0, .int .i64 0, .int .i64 0, .int .i64 0, .int .i64 0, .int .i64 0, .int .i64 0, .int .i64 0, .int .i64 0, .int .i64 0, .int .i64 0, .int .i64 0, .int .i64 0, .int .i64 0, .int .i64 0, .int .i64 0, .int .i64 0, .int .i64 0, .int .i64 0, .int .i64 0, .int .i64 0, .int .i64 0, .int .i64 0, .int .i64 0, .int .i64 0, .int .i64 0, .int .i64 0, .int .i64 0, .int .i64 0] 116 (heap_alloc_new _ _) rfl (by kernel_rfl) z64_one ?_; intro w3 hB3 g3)
  rw [← sq_z64] at hB3
  refine bodyPost_ret (v := .tuple #[.agg (sq zs64), .bool false]) ?_ rfl ⟨rfl, ?_⟩
  · exact results_c2 (p := 4) (q := 5) (ty := 116) rfl _ _ _ w.heap.size rfl _ (run_loadVar_row w3 _ 116 116 _ (0, 0) _ hB3 Tryz.underlying116 rfl (by rw [sq_size, zs64_len]; kernel_rfl))
  · exact grown_new (World.grownBy_alloc _ _ _) g3 (fun g e => by simp at e; omega)

set_option maxRecDepth 20000 in
set_option maxHeartbeats 800000 in
/-- A list as a square, and whether f leaves each of its numbers. -/
theorem fixSquare_yes (b off cap : Nat) (zs : List Int) (w : World) (hr : Rd .i64 w (some ⟨b, off, none⟩) 64 zs) (f : Nat → Int) (g : Nat) (lb : Array Value) (eg : ∀ args w, (callFunc g args).run Tryz.prog w = .ok (.enter g args) w)
    (HC : Hid (∀ k, k < 64 → ∀ W, w.grownBy W none → Calls Tryz.prog g (#[.int .i64 (zs.getD k 0)] ++ lb) W fun e W' => e = .returned (.int .i64 (f k)) ∧ W.grownBy W' none)) :
    Calls Tryz.prog 90 #[.slice (some ⟨b, off, none⟩) 64 cap, .func (.func g) #[] lb] w fun e w' => e = .returned (.tuple #[.agg (sq zs), .bool (zs == made f)]) ∧ w.grownBy w' none := by
  have hz : zs.length = 64 := hr.1
  have HR := hide hr
  clear hr
  have HZ := hide hz
  clear hz
  have har : ∀ w, (Instr.arrayAt 116 (.slice (some ⟨b, off, none⟩) 64 cap)).run Tryz.prog w = .ok (.pointer (some ⟨b, off, none⟩)) w := fun w => by kernel_rfl
  have HSL : Hid ((sq zs).size = 64) := by unfold Hid; rw [sq_size, unhide HZ]
  have HLD : ∀ (w : World) (g : Nat), w.heap[g]? = some (.cells (sq zs) 116 (0, 0)) → (loadVar 116 ⟨g, 0, none⟩).run Tryz.prog w = .ok (.agg (sq zs)) w := fun w g h => run_loadVar_row w g 116 116 _ (0, 0) _ h Tryz.underlying116 rfl (by rw [unhide HSL]; kernel_rfl)
  have HLD' := hide HLD
  clear HLD
  obtain ⟨W0, hW0⟩ : ∃ W0, (w.alloc (.cells #[.int .i64 0, .int .i64 0, .int .i64 0, .int .i64 0, .int .i64 0, .int .i64 0, .int .i64 0, .int .i64 0, .int .i64 0, .int .i64 0, .int .i64 0, .int .i64 0, .int .i64 0, .int .i64 0, .int .i64 0, .int .i64 0, .int .i64 0, .int .i64 0, .int .i64 0, .int .i64 0, .int .i64 0, .int .i64 0, .int .i64 0, .int .i64 0, .int .i64 0, .int .i64 0, .int .i64 0, .int .i64 0, .int .i64 0, .int .i64 0, .int .i64 0, .int .i64 0, .int .i64 0, .int .i64 0, .int .i64 0, .int .i64 0, .int .i64 0, .int .i64 0, .int .i64 0, .int .i64 0, .int .i64 0, .int .i64 0, .int .i64 0, .int .i64 0, .int .i64 0, .int .i64 0, .int .i64 0, .int .i64 0, .int .i64 0, .int .i64 0, .int .i64 0, .int .i64 0, .int .i64 0, .int .i64 0, .int .i64 0, .int .i64 0, .int .i64 0, .int .i64 0, .int .i64 0, .int .i64 0, .int .i64 0, .int .i64 0, .int .i64 0, .int .i64 0] 116)).alloc (.cells #[.int .i64 0, .int .i64 0, .int .i64 0, .int .i64 0, .int .i64 0, .int .i64 0, .int .i64 0, .int .i64 0, .int .i64 0, .int .i64 0, .int .i64 0, .int .i64 0, .int .i64 0, .int .i64 0, .int .i64 0, .int .i64 0, .int .i64 0, .int .i64 0, .int .i64 0, .int .i64 0, .int .i64 0, .int .i64 0, .int .i64 0, .int .i64 0, .int .i64 0, .int .i64 0, .int .i64 0, .int .i64 0, .int .i64 0, .int .i64 0, .int .i64 0, .int .i64 0, .int .i64 0, .int .i64 0, .int .i64 0, .int .i64 0, .int .i64 0, .int .i64 0, .int .i64 0, .int .i64 0, .int .i64 0, .int .i64 0, .int .i64 0, .int .i64 0, .int .i64 0, .int .i64 0, .int .i64 0, .int .i64 0, .int .i64 0, .int .i64 0, .int .i64 0, .int .i64 0, .int .i64 0, .int .i64 0, .int .i64 0, .int .i64 0, .int .i64 0, .int .i64 0, .int .i64 0, .int .i64 0, .int .i64 0, .int .i64 0, .int .i64 0, .int .i64 0] 116) = W0 := ⟨_, rfl⟩
  have G0 : w.grownBy W0 none := by rw [← hW0]; exact grown_alloc (World.grownBy_alloc _ _ _) _
  have b0 : W0.heap[w.heap.size]? = some (.cells (sq zs64) 116 (0, 0)) := by rw [← hW0, sq_z64, Below.heap_alloc _ _ _ (by simp)]; exact heap_alloc_new w _
  have b1 : W0.heap[w.heap.size + 1]? = some (.cells (sq zs64) 116 (0, 0)) := by
    rw [← hW0, sq_z64]
    have := heap_alloc_new (w.alloc (.cells #[.int .i64 0, .int .i64 0, .int .i64 0, .int .i64 0, .int .i64 0, .int .i64 0, .int .i64 0, .int .i64 0, .int .i64 0, .int .i64 0, .int .i64 0, .int .i64 0, .int .i64 0, .int .i64 0, .int .i64 0, .int .i64 0, .int .i64 0, .int .i64 0, .int .i64 0, .int .i64 0, .int .i64 0, .int .i64 0, .int .i64 0, .int .i64 0, .int .i64 0, .int .i64 0, .int .i64 0, .int .i64 0, .int .i64 0, .int .i64 0, .int .i64 0, .int .i64 0, .int .i64 0, .int .i64 0, .int .i64 0, .int .i64 0, .int .i64 0, .int .i64 0, .int .i64 0, .int .i64 0, .int .i64 0, .int .i64 0, .int .i64 0, .int .i64 0, .int .i64 0, .int .i64 0, .int .i64 0, .int .i64 0, .int .i64 0, .int .i64 0, .int .i64 0, .int .i64 0, .int .i64 0, .int .i64 0, .int .i64 0, .int .i64 0, .int .i64 0, .int .i64 0, .int .i64 0, .int .i64 0, .int .i64 0, .int .i64 0, .int .i64 0, .int .i64 0] 116)) (.cells #[.int .i64 0, .int .i64 0, .int .i64 0, .int .i64 0, .int .i64 0, .int .i64 0, .int .i64 0, .int .i64 0, .int .i64 0, .int .i64 0, .int .i64 0, .int .i64 0, .int .i64 0, .int .i64 0, .int .i64 0, .int .i64 0, .int .i64 0, .int .i64 0, .int .i64 0, .int .i64 0, .int .i64 0, .int .i64 0, .int .i64 0, .int .i64 0, .int .i64 0, .int .i64 0, .int .i64 0, .int .i64 0, .int .i64 0, .int .i64 0, .int .i64 0, .int .i64 0, .int .i64 0, .int .i64 0, .int .i64 0, .int .i64 0, .int .i64 0, .int .i64 0, .int .i64 0, .int .i64 0, .int .i64 0, .int .i64 0, .int .i64 0, .int .i64 0, .int .i64 0, .int .i64 0, .int .i64 0, .int .i64 0, .int .i64 0, .int .i64 0, .int .i64 0, .int .i64 0, .int .i64 0, .int .i64 0, .int .i64 0, .int .i64 0, .int .i64 0, .int .i64 0, .int .i64 0, .int .i64 0, .int .i64 0, .int .i64 0, .int .i64 0, .int .i64 0] 116)
    simpa using this
  have s0 : W0.heap.size = w.heap.size + 2 := by rw [← hW0]; simp
  have HW := hide hW0
  have B0 := hide b0
  have B1 := hide b1
  have HG0 := hide G0
  clear hW0 b0 b1 G0
  go_enter Tryz.func90, Tryz.ntmps90
  go_wp2_with (first | (refine load_mid rfl 116 _ rfl b off rfl (sq zs) (sq_rd ((unhide HR).grown (World.grownBy_alloc _ _ _))) _ Tryz.underlying116 rfl (by rw [unhide HSL]; kernel_rfl) ?_) | (rw [unhide HW]; clear HW; refine store_row rfl 116 _ _ rfl (w.heap.size + 1) rfl (sq zs) rfl (sq zs64) 116 (unhide B1) (by rw [unhide HSL, sq_size, zs64_len]) (by rw [unhide HSL]; kernel_rfl) (sq_one zs) ?_; intro w3 hB3 g3))
  have hG3 : w.grownBy w3 none := grown_new (unhide HG0) g3 (fun g e => by simp at e; omega)
  have hR3 := (g3.block w.heap.size (by omega) (by simp)).trans (unhide B0)
  have s3 := g3.size
  have HSQ := hide (eqSq (zs := zs) (ys := made f) (unhide HZ) (made_len f))
  refine wp_region_noPanic ?_
  refine wp_region_raw (fun w' => w'.heap[w.heap.size + 1]? = some (.cells (sq zs) 116 (0, 0))) [true, true, true, true, false, false, false, false] (by kernel_rfl) (fun _ _ _ _ _ h => h) rfl (by kernel_rfl) hB3 ?_
  iterate 3
    refine heldF_take (v := .agg (sq zs)) (Or.inl ⟨by rfl, ?_⟩) ?_
    · intro w' hSw
      exact exec_row 116 _ rfl (w.heap.size + 1) rfl (sq zs) 116 hSw _ Tryz.underlying116 rfl (by rw [unhide HSL]; kernel_rfl)
    simp only [Act.put, List.setIfInBounds_toArray, List.set_cons_zero, List.set_cons_succ]
  refine heldF_take (v := ?_) (Or.inl ⟨by rfl, ?_⟩) ?_
  rotate_left 1
  · intro w' hSw
    go_simp
    try with_reducible rfl
  simp only [Act.put, List.setIfInBounds_toArray, List.set_cons_zero, List.set_cons_succ]
  refine heldF_skip (heldF_skip (heldF_skip (heldF_skip (heldF_nil ?_))))
  refine anyH_step1 (i := 4) rfl (by kernel_rfl) (fun K hK => ?_)
  go_simp
  refine (each zs (unhide HZ) f g lb eg _ (fun k hk W hW => unhide HC k hk W (grown_trans (grown_drew hG3) hW))).mono ?_
  rintro e w4 ⟨rfl, g4⟩
  have hB4 := (g4.block (w.heap.size + 1) (by show w.heap.size + 1 < w3.heap.size; omega) (by simp)).trans hB3
  have hR4 := (g4.block w.heap.size (by show w.heap.size < w3.heap.size; omega) (by simp)).trans hR3
  have hG4 : w.grownBy w4 none := grown_trans (grown_drew hG3) g4
  refine hK.out _ _ hB4 ?_
  clear hK K
  try simp only [Act.put, List.setIfInBounds_toArray, List.set_cons_zero, List.set_cons_succ]
  refine anyH_step2 (i := 5) (j := 6) rfl rfl (by kernel_rfl) (fun K hK => ?_) (fun K hK => ?_)
  · have hsq := unhide HSQ
    go_simp
    refine hK.out _ _ hB4 ?_
    clear hK K hsq
    try simp only [Act.put, List.setIfInBounds_toArray, List.set_cons_zero, List.set_cons_succ]
    refine anyH_step1 (i := 6) rfl (by kernel_rfl) (fun K hK => ?_)
    refine step_store_row (by rfl) 116 _ _ rfl w.heap.size rfl (sq zs) rfl (sq zs64) 116 hR4 (by rw [unhide HSL, sq_size, zs64_len]) (by rw [unhide HSL]; kernel_rfl) (sq_one zs) ?_
    intro w5 hB5 g5
    have hB5' := (g5.block (w.heap.size + 1) (Array.getElem?_eq_some_iff.1 hB4).1 (by simp)).trans hB4
    refine hK.out _ _ hB5' ?_
    clear hK K
    try simp only [Act.put]
    refine anyH_step1 (i := 7) rfl (by kernel_rfl) (fun K hK => ?_)
    go_simp
    refine hK.out _ _ hB5' ?_
    clear hK K
    try simp only [Act.put, List.setIfInBounds_toArray, List.set_cons_zero, List.set_cons_succ]
    refine wpAnyH_done (by kernel_rfl) (NoPanic.normal ?_) _
    go_wp2
    refine bodyPost_ret (v := .tuple #[.agg (sq zs), .bool (zs == made f)]) ?_ rfl ⟨rfl, ?_⟩
    · exact results_c2 (p := 4) (q := 5) (ty := 116) rfl _ _ _ w.heap.size rfl _ (unhide HLD' _ _ hB5)
    · exact grown_new hG4 g5 (fun g e => by simp at e; omega)
  · refine step_store_row (by rfl) 116 _ _ rfl w.heap.size rfl (sq zs) rfl (sq zs64) 116 hR4 (by rw [unhide HSL, sq_size, zs64_len]) (by rw [unhide HSL]; kernel_rfl) (sq_one zs) ?_
    intro w5 hB5 g5
    have hB5' := (g5.block (w.heap.size + 1) (Array.getElem?_eq_some_iff.1 hB4).1 (by simp)).trans hB4
    refine hK.out _ _ hB5' ?_
    clear hK K
    try simp only [Act.put]
    refine anyH_step1 (i := 5) rfl (by kernel_rfl) (fun K hK => ?_)
    have hsq := unhide HSQ
    go_simp
    refine hK.out _ _ hB5' ?_
    clear hK K hsq
    try simp only [Act.put, List.setIfInBounds_toArray, List.set_cons_zero, List.set_cons_succ]
    refine anyH_step1 (i := 7) rfl (by kernel_rfl) (fun K hK => ?_)
    go_simp
    refine hK.out _ _ hB5' ?_
    clear hK K
    try simp only [Act.put, List.setIfInBounds_toArray, List.set_cons_zero, List.set_cons_succ]
    refine wpAnyH_done (by kernel_rfl) (NoPanic.normal ?_) _
    go_wp2
    refine bodyPost_ret (v := .tuple #[.agg (sq zs), .bool (zs == made f)]) ?_ rfl ⟨rfl, ?_⟩
    · exact results_c2 (p := 4) (q := 5) (ty := 116) rfl _ _ _ w.heap.size rfl _ (unhide HLD' _ _ hB5)
    · exact grown_new hG4 g5 (fun g e => by simp at e; omega)

/-- A block that is ok, a table that is ok. -/
def numsB (lo hi : Int) (zs : List Int) : Bool := decide (zs.length = 64) && zs.all (fun n => decide (lo ≤ n ∧ n ≤ hi))
theorem clip_same {lo hi : Int} (h : lo ≤ hi) (zs : List Int) (hz : zs.length = 64) : (zs == made (fun k => min (max (zs.getD k 0) lo) hi)) = numsB lo hi zs := by
  rw [Bool.eq_iff_iff]
  simp only [numsB, hz, decide_true, Bool.true_and, beq_iff_eq, List.all_eq_true, decide_eq_true_eq]
  constructor
  · intro e n hn
    obtain ⟨i, hi', rfl⟩ := List.getElem_of_mem hn
    have h1 : zs.getD i 0 = (made (fun k => min (max (zs.getD k 0) lo) hi)).getD i 0 := by rw [← e]
    rw [made_at _ i (by omega)] at h1
    have h2 : zs.getD i 0 = zs[i] := by simp [hi']
    rw [h2] at h1
    omega
  · intro hall
    apply List.ext_getElem?
    intro i
    by_cases hi' : i < zs.length
    · have h1 := hall zs[i] (List.getElem_mem hi')
      rw [List.getElem?_eq_getElem hi', List.getElem?_eq_getElem (by rw [made_len]; omega)]
      simp only [made, List.getElem_map, List.getElem_range, Option.some.injEq]
      have h2 : zs.getD i 0 = zs[i] := by simp [hi']
      rw [h2]
      omega
    · rw [List.getElem?_eq_none (by omega), List.getElem?_eq_none (by rw [made_len]; omega)]

set_option maxRecDepth 20000 in
set_option maxHeartbeats 400000 in
theorem fixTable (ao : Option Addr) (n cap : Nat) (zs : List Int) (w : World) (hr : Rd .i64 w ao n zs) (b : Bool) (hb : Hid (numsB 1 1023 zs = b)) :
    Calls Tryz.prog 77 #[.slice ao n cap] w fun e w' => (∃ ys, e = .returned (.tuple #[.agg (sq ys), .bool b]) ∧ ys.length = 64 ∧ (n = 64 → ys = zs)) ∧ w.grownBy w' none := by
  by_cases h : n = 64
  · subst h
    obtain ⟨bb, off, rfl, _⟩ := hr.2 0 (by omega)
    have e : (zs == made (fun k => min (max (zs.getD k 0) 1) 1023)) = b := by rw [clip_same (by omega) zs hr.1]; exact unhide hb
    have HZ := hide hr.1
    have HR := hide (hr.grown (World.grownBy_alloc w (.cells #[.int .i64 0, .int .i64 0, .int .i64 0, .int .i64 0, .int .i64 0, .int .i64 0, .int .i64 0, .int .i64 0, .int .i64 0, .int .i64 0, .int .i64 0, .int .i64 0, .int .i64 0, .int .i64 0, .int .i64 0, .int .i64 0, .int .i64 0, .int .i64 0, .int .i64 0, .int .i64 0, .int .i64 0, .int .i64 0, .int .i64 0, .int .i64 0, .int .i64 0, .int .i64 0, .int .i64 0, .int .i64 0, .int .i64 0, .int .i64 0, .int .i64 0, .int .i64 0, .int .i64 0, .int .i64 0, .int .i64 0, .int .i64 0, .int .i64 0, .int .i64 0, .int .i64 0, .int .i64 0, .int .i64 0, .int .i64 0, .int .i64 0, .int .i64 0, .int .i64 0, .int .i64 0, .int .i64 0, .int .i64 0, .int .i64 0, .int .i64 0, .int .i64 0, .int .i64 0, .int .i64 0, .int .i64 0, .int .i64 0, .int .i64 0, .int .i64 0, .int .i64 0, .int .i64 0, .int .i64 0, .int .i64 0, .int .i64 0, .int .i64 0, .int .i64 0] 116) none))
    clear hr
    go_enter Tryz.func77, Tryz.ntmps77
    go_wp2_with fail
    refine (fixSquare_yes bb off cap zs _ (unhide HR) (fun k => min (max (zs.getD k 0) 1) 1023) 91 #[] (enters_of Tryz.func91 (by kernel_rfl) rfl) (fun k hk W hW => (nearestStep (zs.getD k 0) W).mono ?_)).mono ?_
    · rintro e w' ⟨rfl, rfl⟩
      exact ⟨rfl, World.grownBy.refl _ _⟩
    · rintro e' w' ⟨rfl, g⟩
      rw [e]
      clear HR hb e
      have hB := (g.block w.heap.size (by simp) (by simp)).trans (heap_alloc_new w _)
      have HB := hide hB
      clear hB
      go_wp2_with (refine store_row rfl 116 _ _ rfl w.heap.size rfl (sq zs) rfl #[.int .i64 0, .int .i64 0, .int .i64 0, .int .i64 0, .int .i64 0, .int .i64 0, .int .i64 0, .int .i64 0, .int .i64 0, .int .i64 0, .int .i64 0, .int .i64 0, .int .i64 0, .int .i64 0, .int .i64 0, .int .i64 0, .int .i64 0, .int .i64 0, .int .i64 0, .int .i64 0, .int .i64 0, .int .i64 0, .int .i64 0, .int .i64 0, .int .i64 0, .int .i64 0, .int .i64 0, .int .i64 0, .int .i64 0, .int .i64 0, .int .i64 0, .int .i64 0, .int .i64 0, .int .i64 0, .int .i64 0, .int .i64 0, .int .i64 0, .int .i64 0, .int .i64 0, .int .i64 0, .int .i64 0, .int .i64 0, .int .i64 0, .int .i64 0, .int .i64 0, .int .i64 0, .int .i64 0, .int .i64 0, .int .i64 0, .int .i64 0, .int .i64 0, .int .i64 0, .int .i64 0, .int .i64 0, .int .i64 0, .int .i64 0, .int .i64 0, .int .i64 0, .int .i64 0, .int .i64 0, .int .i64 0, .int .i64 0, .int .i64 0, .int .i64 0] 116 (unhide HB) (by rw [sq_size, unhide HZ]; rfl) (by rw [sq_size, unhide HZ]; kernel_rfl) (sq_one _) ?_; intro w3 hB3 g3)
      refine bodyPost_ret (v := .tuple #[.agg (sq zs), .bool b]) ?_ rfl ⟨⟨_, rfl, (by first | exact unhide HZ | exact zs64_len), ?_⟩, ?_⟩
      · exact results_c2 (p := 2) (q := 3) (ty := 116) rfl _ _ _ w.heap.size rfl _ (run_loadVar_row w3 _ 116 116 _ (0, 0) _ hB3 Tryz.underlying116 rfl (by rw [sq_size, unhide HZ]; kernel_rfl))
      · intro hh; first | rfl | exact absurd hh h
      · exact grown_new (grown_new (World.grownBy_alloc _ _ _) g (fun g e => by simp at e)) g3 (fun g e => by simp at e; omega)
  · have hb' : b = false := by rw [← unhide hb]; simp [numsB, hr.1, h]
    subst hb'
    clear hr hb
    go_enter Tryz.func77, Tryz.ntmps77
    go_wp2_with fail
    refine (fixSquare_no ao n cap _ _ h).mono ?_
    rintro e' w' ⟨rfl, g⟩
    have hB := (g.block w.heap.size (by simp) (by simp)).trans (heap_alloc_new w _)
    have HB := hide hB
    clear hB
    go_wp2_with (refine store_row rfl 116 _ _ rfl w.heap.size rfl (sq zs64) rfl #[.int .i64 0, .int .i64 0, .int .i64 0, .int .i64 0, .int .i64 0, .int .i64 0, .int .i64 0, .int .i64 0, .int .i64 0, .int .i64 0, .int .i64 0, .int .i64 0, .int .i64 0, .int .i64 0, .int .i64 0, .int .i64 0, .int .i64 0, .int .i64 0, .int .i64 0, .int .i64 0, .int .i64 0, .int .i64 0, .int .i64 0, .int .i64 0, .int .i64 0, .int .i64 0, .int .i64 0, .int .i64 0, .int .i64 0, .int .i64 0, .int .i64 0, .int .i64 0, .int .i64 0, .int .i64 0, .int .i64 0, .int .i64 0, .int .i64 0, .int .i64 0, .int .i64 0, .int .i64 0, .int .i64 0, .int .i64 0, .int .i64 0, .int .i64 0, .int .i64 0, .int .i64 0, .int .i64 0, .int .i64 0, .int .i64 0, .int .i64 0, .int .i64 0, .int .i64 0, .int .i64 0, .int .i64 0, .int .i64 0, .int .i64 0, .int .i64 0, .int .i64 0, .int .i64 0, .int .i64 0, .int .i64 0, .int .i64 0, .int .i64 0, .int .i64 0] 116 (unhide HB) (by rw [sq_size, zs64_len]; rfl) (by rw [sq_size, zs64_len]; kernel_rfl) (sq_one _) ?_; intro w3 hB3 g3)
    refine bodyPost_ret (v := .tuple #[.agg (sq zs64), .bool false]) ?_ rfl ⟨⟨_, rfl, (by first | exact unhide HZ | exact zs64_len), ?_⟩, ?_⟩
    · exact results_c2 (p := 2) (q := 3) (ty := 116) rfl _ _ _ w.heap.size rfl _ (run_loadVar_row w3 _ 116 116 _ (0, 0) _ hB3 Tryz.underlying116 rfl (by rw [sq_size, zs64_len]; kernel_rfl))
    · intro hh; first | rfl | exact absurd hh h
    · exact grown_new (grown_new (World.grownBy_alloc _ _ _) g (fun g e => by simp at e)) g3 (fun g e => by simp at e; omega)

set_option maxRecDepth 20000 in
set_option maxHeartbeats 400000 in
theorem implTableOk (ao : Option Addr) (n cap : Nat) (zs : List Int) (w : World) (hr : Rd .i64 w ao n zs) (b : Bool) (hb : Hid (numsB 1 1023 zs = b)) :
    Calls Tryz.prog 67 #[.slice ao n cap] w fun e w' => e = .returned (.bool b) ∧ w.grownBy w' none := by
  have HR := hide hr
  clear hr
  go_enter Tryz.func67, Tryz.ntmps67
  go_wp2_with fail
  refine (fixTable ao n cap zs _ (unhide HR) b hb).mono ?_
  rintro e w1 ⟨⟨ys, rfl, hy, _⟩, g⟩
  have HY := hide hy
  clear hy
  go_wp2_with (refine store_row rfl 116 _ _ rfl w1.heap.size rfl (sq ys) rfl #[.int .i64 0, .int .i64 0, .int .i64 0, .int .i64 0, .int .i64 0, .int .i64 0, .int .i64 0, .int .i64 0, .int .i64 0, .int .i64 0, .int .i64 0, .int .i64 0, .int .i64 0, .int .i64 0, .int .i64 0, .int .i64 0, .int .i64 0, .int .i64 0, .int .i64 0, .int .i64 0, .int .i64 0, .int .i64 0, .int .i64 0, .int .i64 0, .int .i64 0, .int .i64 0, .int .i64 0, .int .i64 0, .int .i64 0, .int .i64 0, .int .i64 0, .int .i64 0, .int .i64 0, .int .i64 0, .int .i64 0, .int .i64 0, .int .i64 0, .int .i64 0, .int .i64 0, .int .i64 0, .int .i64 0, .int .i64 0, .int .i64 0, .int .i64 0, .int .i64 0, .int .i64 0, .int .i64 0, .int .i64 0, .int .i64 0, .int .i64 0, .int .i64 0, .int .i64 0, .int .i64 0, .int .i64 0, .int .i64 0, .int .i64 0, .int .i64 0, .int .i64 0, .int .i64 0, .int .i64 0, .int .i64 0, .int .i64 0, .int .i64 0, .int .i64 0] 116 (heap_alloc_new _ _) (by rw [sq_size, unhide HY]; rfl) (by rw [sq_size, unhide HY]; kernel_rfl) (sq_one _) ?_; intro w3 hB3 g3)
  go_ret
  exact ⟨rfl, grown_new (grown_alloc g _) g3 (fun g' e => by simp at e; have := g.size; omega)⟩

end Go.Proofs.YtjkokbijnaodnaaGreat

namespace Go.Proofs.YtjkokbijnaodnaaGreat
open Go.RowKit

theorem nums_all {lo hi : Int} {zs : List Int} (hz : zs.length = 64) (h : ∀ j, j < 64 → lo ≤ zs.getD j 0 ∧ zs.getD j 0 ≤ hi) : numsB lo hi zs = true := by
  simp only [numsB, hz, decide_true, Bool.true_and, List.all_eq_true, decide_eq_true_eq]
  intro n hn
  obtain ⟨i, hi', rfl⟩ := List.getElem_of_mem hn
  have h2 : zs.getD i 0 = zs[i] := by simp [hi']
  rw [← h2]
  exact h i (by omega)
theorem nums_at {lo hi : Int} {zs : List Int} (h : numsB lo hi zs = true) : zs.length = 64 ∧ ∀ j, j < 64 → lo ≤ zs.getD j 0 ∧ zs.getD j 0 ≤ hi := by
  simp only [numsB, Bool.and_eq_true, decide_eq_true_eq, List.all_eq_true] at h
  refine ⟨h.1, fun j hj => ?_⟩
  have hj' : j < zs.length := by omega
  have h2 : zs.getD j 0 = zs[j] := by simp [hj']
  rw [h2]
  exact h.2 _ (List.getElem_mem hj')

set_option maxHeartbeats 800000 in
theorem specNums (ao : Option Addr) (n cap : Nat) (zs : List Int) (lo hi : Int) (w : World) (hr : Rd .i64 w ao n zs) (b : Bool) (hb : Hid (numsB lo hi zs = b)) :
    Calls Tryz.prog 64 #[.slice ao n cap, .int .i64 lo, .int .i64 hi] w fun e w' => e = .returned (.bool b) ∧ w.grownBy w' none := by
  by_cases h : n = 64
  · subst h
    have HR := hide hr
    have HZ := hide hr.1
    clear hr
    go_enter Tryz.func64, Tryz.ntmps64
    go_wp2
    go_loopw [7] (fun i wr => ∃ k : Nat, k ≤ 64 ∧ i = .int .i64 k ∧ (Hid (∀ j, j < k → lo ≤ zs.getD j 0 ∧ zs.getD j 0 ≤ hi)) ∧ w.grownBy wr none) (fun i _ => 64 - (intOf i).toNat)
    case atStart => exact ⟨0, Nat.zero_le _, rfl, fun j hj => absurd hj (by omega), World.grownBy.refl _ _⟩
    case round =>
      obtain ⟨k, hk, rfl, HK, hgk⟩ := hrel
      by_cases hlt : k < 64
      · obtain ⟨bb, off, rfl, hc⟩ := (unhide HR).2 k hlt
        have hcell := hgk.cell hc (by simp)
        obtain ⟨t, HT⟩ : ∃ t, Hid (decide (lo ≤ zs.getD k 0 ∧ zs.getD k 0 ≤ hi) = t) := ⟨_, rfl⟩
        clear hc
        obtain ⟨z, HX⟩ : ∃ z, Hid (zs.getD k 0 = z) := ⟨_, rfl⟩
        rw [unhide HX] at hcell HT
        go_wp2_with fail
        refine (between z lo hi t HT wr).mono ?_
        rintro e w2 ⟨rfl, rfl⟩
        cases t with
        | true =>
          go_wp2
          go_roundw
          case rel =>
            refine ⟨k + 1, by omega, by go_num, fun j hj => ?_, hgk⟩
            by_cases e : j = k
            · subst e; rw [unhide HX]; have := unhide HT; simpa using this
            · exact unhide HK j (by omega)
          case measure => simp [intOf]; omega
        | false =>
          have hf : b = false := by
            cases hbb : b with
            | false => rfl
            | true =>
              have h1 := (nums_at ((unhide hb).trans hbb)).2 k hlt
              rw [unhide HX] at h1
              have := unhide HT
              simp at this
              omega
          subst hf
          go_wp2
          go_ret
          exact ⟨rfl, hgk⟩
      · obtain rfl : k = 64 := by omega
        have ht : b = true := by rw [← unhide hb]; exact nums_all (unhide HZ) (unhide HK)
        subst ht
        go_wp2
        go_ret
        exact ⟨rfl, hgk⟩
  · have hb' : b = false := by rw [← unhide hb]; simp [numsB, hr.1, h]
    subst hb'
    have hne : ((n : Int) != 64) = true := by simp; omega
    clear hr hb
    go_enter Tryz.func64, Tryz.ntmps64
    go_wp2
    go_ret
    exact ⟨rfl, World.grownBy.refl _ _⟩

set_option maxHeartbeats 400000 in
theorem specTableOk (ao : Option Addr) (n cap : Nat) (zs : List Int) (w : World) (hr : Rd .i64 w ao n zs) (b : Bool) (hb : Hid (numsB 1 1023 zs = b)) :
    Calls Tryz.prog 40 #[.slice ao n cap] w fun e w' => e = .returned (.bool b) ∧ w.grownBy w' none := by
  have HR := hide hr
  clear hr
  go_enter Tryz.func40, Tryz.ntmps40
  go_wp2_with fail
  refine (specNums ao n cap zs _ _ _ (unhide HR) b hb).mono ?_
  rintro e w1 ⟨rfl, g⟩
  go_wp2
  go_ret
  exact ⟨rfl, g⟩

end Go.Proofs.YtjkokbijnaodnaaGreat

namespace Go.Proofs.YtjkokbijnaodnaaGreat
open Go.RowKit Go.Shelf

/-- All blocks lie as they lay, but those of O. -/
structure But (O : Nat → Prop) (W W' : World) : Prop where
  os : W'.os = W.os
  tape : W'.tape = W.tape
  output : W'.output = W.output
  size : W.heap.size ≤ W'.heap.size
  block : ∀ k, k < W.heap.size → ¬ O k → W'.heap[k]? = W.heap[k]?
theorem But.refl (O : Nat → Prop) (W : World) : But O W W := ⟨rfl, rfl, rfl, Nat.le_refl _, fun _ _ _ => rfl⟩
theorem But.trans {O : Nat → Prop} {A B C : World} (h : But O A B) (g : But O B C) : But O A C :=
  ⟨g.os.trans h.os, g.tape.trans h.tape, g.output.trans h.output, Nat.le_trans h.size g.size, fun k hk ho => (g.block k (Nat.lt_of_lt_of_le hk h.size) ho).trans (h.block k hk ho)⟩
theorem But.of_grown {O : Nat → Prop} {W W' : World} {row : Option Nat} (h : W.grownBy W' row) (hr : ∀ g, row = some g → O g) : But O W W' :=
  ⟨h.os, h.tape, h.output, h.size, fun k hk ho => h.block k hk (fun e => ho (hr k e.symm))⟩
theorem But.mono {O O' : Nat → Prop} {W W' : World} (h : But O W W') (ho : ∀ k, O k → O' k) : But O' W W' := ⟨h.os, h.tape, h.output, h.size, fun k hk hn => h.block k hk (fun e => hn (ho k e))⟩
theorem But.putObj {O : Nat → Prop} (W : World) (l : Nat) (o : Obj) (hl : O l) : But O W (W.putObj l o) := But.of_grown (grownBy_putObj' W l o) (fun g e => by cases e; exact hl)

/-- What speaks of the blocks of O alone. -/
def LocalJ {α : Type} (O : Nat → Prop) (J : List α → World → Prop) : Prop := ∀ pre W W', J pre W → (∀ k, O k → W'.heap[k]? = W.heap[k]?) → J pre W'

/-- What an iterator gives a loop whose body always goes on and writes into the blocks of O alone: all of S, in its order. -/
def Gives {α : Type} (P : Program) (g : Nat) (lb : Array Value) (encs : α → Array Value) (S : List α) (O : Nat → Prop) (w : World) : Prop :=
  ∀ (n l : Nat) (J : List α → World → Prop) (W : World), But O w W → (∀ k, O k → k < W.heap.size) → l < W.heap.size → ¬ O l → w.heap.size ≤ l → LocalJ (fun k => O k ∨ k = l) J →
    (∀ pre x W1 m, J pre W1 → But (fun k => O k ∨ k = l) W W1 → pre ++ [x] <+: S → YieldAt Fence.wide m P l (encs x) W1 fun e W' => e = .returned (.bool true) ∧ J (pre ++ [x]) W' ∧ But (fun k => O k ∨ k = l) W1 W') → J [] W →
    CallsIn Fence.wide n P g (#[.func (.yield l) #[] #[]] ++ lb) W fun e W' => (∃ v, e = .returned v) ∧ J S W' ∧ But (fun k => O k ∨ k = l) W W'

/-- How the body of a round is left. -/
def goesOn (R : World → Prop) : Exit → Act → World → Prop
  | .normal, _, W' => R W'
  | _, _, _ => False

theorem rangeFunc_gives {α : Type} {n : Nat} {P : Program} {g : Operand} {ps : Array Tmp} {assign body : Code} {Q : Exit → Act → World → Prop} {a : Act} {w : World}
    {gf : Nat} {lb : Array Value} (hg : a.eval g = .func (.func gf) #[] lb) (eg : ∀ args w, (callFunc gf args).run P w = .ok (.enter gf args) w)
    {encs : α → Array Value} {S : List α} {O : Nat → Prop} (hO : ∀ k, O k → k < w.heap.size) (hG : Gives P gf lb encs S O w) (hps : ∀ x, (encs x).size = ps.size)
    (I : List α → World → Prop) (hI : LocalJ O I) (h0 : I [] w) (a₁ : α → Act)
    (hassign : ∀ (l m : Nat) (x : α) (W : World) (K : Act → World → Prop), K (a₁ x) W →
      assign.wpIn (Fence.wide.inRound l) m P (Exit.then K (fun _ _ _ => False)) { tmps := (ps.zip (encs x)).foldl (fun t (p, v) => t.setIfInBounds p v) a.tmps, defers := [] } W)
    (hbody : ∀ (l m : Nat) (pre : List α) (x : α) (W : World), I pre W → But O w W → pre ++ [x] <+: S → body.wpIn (Fence.wide.inRound l) m P (goesOn fun W' => I (pre ++ [x]) W' ∧ But O W W') (a₁ x) W)
    (hdone : ∀ (D : Nat) (W : World), w.heap.size ≤ D → I S W → But O w W → W.heap[D]? = some (.deferred (some [])) → Q .normal { a with defers := { target := .collected D, args := #[] } :: a.defers } W) :
    (Code.rangeFunc g ps assign body).wpIn Fence.wide n P Q a w := by
  refine wpIn_rangeFunc ?_
  intro fn hfn
  obtain ⟨R, hR⟩ : ∃ R : LoopState → Loop, R = fun st => { state := st, pending := none, fn, tmps := a.tmps, params := ps, assign, body, defers := w.heap.size } := ⟨_, rfl⟩
  obtain ⟨l, hl⟩ : ∃ l, w.heap.size + 1 = l := ⟨_, rfl⟩
  obtain ⟨W1, hW1⟩ : ∃ W1, (w.alloc (.deferred (some []))).alloc (.loop (R .ready)) = W1 := ⟨_, rfl⟩
  have hs1 : W1.heap.size = w.heap.size + 2 := by rw [← hW1]; simp
  have hOl : ¬ O l := fun e => by have := hO l e; omega
  have hOD : ¬ O w.heap.size := fun e => by have := hO _ e; omega
  have hL1 : W1.heap[l]? = some (.loop (R .ready)) := by
    rw [← hW1, ← hl]; have := World.alloc_heap_new (w.alloc (.deferred (some []))) (.loop (R .ready)); rwa [World.size_alloc] at this
  have hD1 : W1.heap[w.heap.size]? = some (.deferred (some [])) := by
    rw [← hW1]; exact (Below.heap_alloc _ _ _ (by simp)).trans (World.alloc_heap_new w _)
  have b1 : ∀ O', But O' w W1 := fun O' => by
    rw [← hW1]; exact But.of_grown (grown_alloc (grown_alloc (World.grownBy.refl w none) _) _) (fun g e => by cases e)
  have hI1 : I [] W1 := hI _ _ _ h0 (fun k hk => (b1 (fun _ => False)).block k (hO k hk) (fun e => e))
  refine ⟨l, [{ target := .collected w.heap.size, args := #[] }], W1, { target := .fn (.func gf) lb, args := #[.func (.yield l) #[] #[]] }, W1, gf, #[.func (.yield l) #[] #[]] ++ lb, W1, ?_, ?_, fun _ _ => trivial, ?_, (fun h => by simp [Fence.wide] at h), ?_⟩
  · rw [← hW1, ← hl, hR]; exact run_enterLoop_outer _ _ _ _ _
  · simp only [resolve, hg]
    simp [go_sem]
  · simp [invoke, go_sem, eg]
  · have loc : LocalJ (fun k => O k ∨ k = l) (fun pre W => I pre W ∧ W.heap[l]? = some (.loop (R .ready))) := fun pre W W' h hk => ⟨hI _ _ _ h.1 (fun k ok => hk k (.inl ok)), (hk l (.inr rfl)).trans h.2⟩
    refine (hG (n - 1) l _ W1 (b1 O) (fun k hk => by have := hO k hk; omega) (by omega) hOl (by omega) loc ?_ ⟨hI1, hL1⟩).mono ?_
    · rintro pre x W m ⟨hi, hlW⟩ bW hlen
      have hlt : l < W.heap.size := (Array.getElem?_eq_some_iff.1 hlW).1
      have hy := run_yield (P := P) (args := encs x) hlW (by rw [hR]; exact hps x)
      rw [hR] at hy
      refine ⟨fn, _, assign, body, hy, roundIn_of_wpIn hfn (hassign l m x W _ ⟨_, run_beginRound hlW (by rw [hR]), ?_⟩)⟩
      clear hy
      obtain ⟨W2, hW2⟩ : ∃ W2, W.putObj l (.loop { R .ready with state := .busy }) = W2 := ⟨_, rfl⟩
      rw [hW2]
      have hl2 : W2.heap[l]? = some (.loop { R .ready with state := .busy }) := by rw [← hW2]; exact World.putObj_heap_same hlt
      have b2 : But (fun k => O k ∨ k = l) W W2 := by rw [← hW2]; exact But.putObj W l _ (.inr rfl)
      have hi2 : I pre W2 := hI _ _ _ hi (fun k hk => by rw [← hW2]; exact World.putObj_heap_other (fun e => hOl (by rw [← e]; exact hk)))
      have bw2 : But O w W2 := by
        have h := bW.trans b2
        exact ⟨h.os.trans (b1 O).os, h.tape.trans (b1 O).tape, h.output.trans (b1 O).output, Nat.le_trans (b1 O).size h.size, fun k hk ho => (h.block k (by omega) (fun e => by rcases e with e | e; exact ho e; omega)).trans ((b1 O).block k hk ho)⟩
      refine wpIn_mono (hbody l m pre x W2 hi2 bw2 hlen) ?_
      rintro e a3 W3 hp
      cases e with
      | normal =>
        obtain ⟨hi3, b3⟩ := hp
        have hl3 : W3.heap[l]? = some (.loop { R .ready with state := .busy }) := (b3.block l (Array.getElem?_eq_some_iff.1 hl2).1 hOl).trans hl2
        have hlt3 : l < W3.heap.size := (Array.getElem?_eq_some_iff.1 hl3).1
        have he := run_endRound (P := P) none hl3
        have hi4 : I (pre ++ [x]) (W3.putObj l (.loop (R .ready))) := hI _ _ _ hi3 (fun k hk => World.putObj_heap_other (fun e => hOl (by rw [← e]; exact hk)))
        have hl4 : (W3.putObj l (.loop (R .ready))).heap[l]? = some (.loop (R .ready)) := World.putObj_heap_same hlt3
        refine ⟨_, _, ?_, rfl, ⟨hi4, hl4⟩, (b2.trans (b3.mono (fun k hk => .inl hk))).trans (But.putObj W3 l _ (.inr rfl))⟩
        rw [hR] at he ⊢
        exact he
      | ret => exact hp.elim
      | exit id => exact hp.elim
      | goto t => exact hp.elim
      | panic ch => exact hp.elim
      | outgrown => exact hp.elim
    · rintro e W5 ⟨⟨v, rfl⟩, ⟨hi5, hl5⟩, b5⟩
      have hD5 : W5.heap[w.heap.size]? = some (.deferred (some [])) := (b5.block w.heap.size (by omega) (fun e => by rcases e with e | e; exact hOD e; omega)).trans hD1
      have he := run_endLoop (P := P) hl5 (by rw [hR]; simp)
      refine ⟨none, _, by rw [hR] at he; exact he, hdone w.heap.size _ (Nat.le_refl _) (hI _ _ _ hi5 (fun k hk => World.putObj_heap_other (fun e => hOl (by rw [← e]; exact hk)))) ?_ ((World.putObj_heap_other (by omega)).trans hD5)⟩
      have b6 : ∀ o, But (fun k => O k ∨ k = l) W1 (W5.putObj l o) := fun o => b5.trans (But.putObj W5 l o (.inr rfl))
      exact ⟨(b6 _).os.trans (b1 O).os, (b6 _).tape.trans (b1 O).tape, (b6 _).output.trans (b1 O).output, Nat.le_trans (b1 O).size (b6 _).size, fun k hk ho => ((b6 _).block k (by omega) (fun e => by rcases e with e | e; exact ho e; omega)).trans ((b1 O).block k hk ho)⟩

/-- The same inside a round of another loop. -/
theorem rangeFunc_gives_in {α : Type} {n : Nat} {P : Program} {g : Operand} {ps : Array Tmp} {assign body : Code} {Q : Exit → Act → World → Prop} {a : Act} {w : World} {l₀ : Nat} {r₀ : Loop} (hl₀ : w.heap[l₀]? = some (.loop r₀))
    {gf : Nat} {lb : Array Value} (hg : a.eval g = .func (.func gf) #[] lb) (eg : ∀ args w, (callFunc gf args).run P w = .ok (.enter gf args) w)
    {encs : α → Array Value} {S : List α} {O : Nat → Prop} (hO : ∀ k, O k → k < w.heap.size) (hG : Gives P gf lb encs S O w) (hps : ∀ x, (encs x).size = ps.size)
    (I : List α → World → Prop) (hI : LocalJ O I) (h0 : I [] w) (a₁ : α → Act)
    (hassign : ∀ (l m : Nat) (x : α) (W : World) (K : Act → World → Prop), K (a₁ x) W →
      assign.wpIn ((Fence.wide.inRound l₀).inRound l) m P (Exit.then K (fun _ _ _ => False)) { tmps := (ps.zip (encs x)).foldl (fun t (p, v) => t.setIfInBounds p v) a.tmps, defers := [] } W)
    (hbody : ∀ (l m : Nat) (pre : List α) (x : α) (W : World), I pre W → But O w W → pre ++ [x] <+: S → body.wpIn ((Fence.wide.inRound l₀).inRound l) m P (goesOn fun W' => I (pre ++ [x]) W' ∧ But O W W') (a₁ x) W)
    (hdone : ∀ (W : World), I S W → But O w W → Q .normal a W) :
    (Code.rangeFunc g ps assign body).wpIn (Fence.wide.inRound l₀) n P Q a w := by
  refine wpIn_rangeFunc ?_
  intro fn hfn
  obtain ⟨R, hR⟩ : ∃ R : LoopState → Loop, R = fun st => { state := st, pending := none, fn, tmps := a.tmps, params := ps, assign, body, defers := r₀.defers } := ⟨_, rfl⟩
  obtain ⟨l, hl⟩ : ∃ l, w.heap.size = l := ⟨_, rfl⟩
  obtain ⟨W1, hW1⟩ : ∃ W1, w.alloc (.loop (R .ready)) = W1 := ⟨_, rfl⟩
  have hs1 : W1.heap.size = w.heap.size + 1 := by rw [← hW1]; simp
  have hOl : ¬ O l := fun e => by have := hO l e; omega
  have hL1 : W1.heap[l]? = some (.loop (R .ready)) := by rw [← hW1, ← hl]; exact World.alloc_heap_new w _
  have b1 : ∀ O', But O' w W1 := fun O' => by
    rw [← hW1]; exact But.of_grown (grown_alloc (World.grownBy.refl w none) _) (fun g e => by cases e)
  have hI1 : I [] W1 := hI _ _ _ h0 (fun k hk => (b1 (fun _ => False)).block k (hO k hk) (fun e => e))
  refine ⟨l, [], W1, { target := .fn (.func gf) lb, args := #[.func (.yield l) #[] #[]] }, W1, gf, #[.func (.yield l) #[] #[]] ++ lb, W1, ?_, ?_, fun _ _ => trivial, ?_, (fun h => by simp [Fence.wide, Fence.inRound] at h), ?_⟩
  · rw [← hW1, ← hl, hR]; exact run_enterLoop_inner hl₀ _ _ _ _ _
  · simp only [resolve, hg]
    simp [go_sem]
  · simp [invoke, go_sem, eg]
  · have loc : LocalJ (fun k => O k ∨ k = l) (fun pre W => I pre W ∧ W.heap[l]? = some (.loop (R .ready))) := fun pre W W' h hk => ⟨hI _ _ _ h.1 (fun k ok => hk k (.inl ok)), (hk l (.inr rfl)).trans h.2⟩
    refine (CallsIn.inRound l₀ (hG (n - 1) l _ W1 (b1 O) (fun k hk => by have := hO k hk; omega) (by omega) hOl (by omega) loc ?_ ⟨hI1, hL1⟩)).mono ?_
    · rintro pre x W m ⟨hi, hlW⟩ bW hlen
      have hlt : l < W.heap.size := (Array.getElem?_eq_some_iff.1 hlW).1
      have hy := run_yield (P := P) (args := encs x) hlW (by rw [hR]; exact hps x)
      rw [hR] at hy
      refine ⟨fn, _, assign, body, hy, roundIn_of_wpIn (F := Fence.wide.inRound l₀) hfn (hassign l m x W _ ⟨_, run_beginRound hlW (by rw [hR]), ?_⟩)⟩
      clear hy
      obtain ⟨W2, hW2⟩ : ∃ W2, W.putObj l (.loop { R .ready with state := .busy }) = W2 := ⟨_, rfl⟩
      rw [hW2]
      have hl2 : W2.heap[l]? = some (.loop { R .ready with state := .busy }) := by rw [← hW2]; exact World.putObj_heap_same hlt
      have b2 : But (fun k => O k ∨ k = l) W W2 := by rw [← hW2]; exact But.putObj W l _ (.inr rfl)
      have hi2 : I pre W2 := hI _ _ _ hi (fun k hk => by rw [← hW2]; exact World.putObj_heap_other (fun e => hOl (by rw [← e]; exact hk)))
      have bw2 : But O w W2 := by
        have h := bW.trans b2
        exact ⟨h.os.trans (b1 O).os, h.tape.trans (b1 O).tape, h.output.trans (b1 O).output, Nat.le_trans (b1 O).size h.size, fun k hk ho => (h.block k (by omega) (fun e => by rcases e with e | e; exact ho e; omega)).trans ((b1 O).block k hk ho)⟩
      refine wpIn_mono (hbody l m pre x W2 hi2 bw2 hlen) ?_
      rintro e a3 W3 hp
      cases e with
      | normal =>
        obtain ⟨hi3, b3⟩ := hp
        have hl3 : W3.heap[l]? = some (.loop { R .ready with state := .busy }) := (b3.block l (Array.getElem?_eq_some_iff.1 hl2).1 hOl).trans hl2
        have hlt3 : l < W3.heap.size := (Array.getElem?_eq_some_iff.1 hl3).1
        have he := run_endRound (P := P) none hl3
        have hi4 : I (pre ++ [x]) (W3.putObj l (.loop (R .ready))) := hI _ _ _ hi3 (fun k hk => World.putObj_heap_other (fun e => hOl (by rw [← e]; exact hk)))
        have hl4 : (W3.putObj l (.loop (R .ready))).heap[l]? = some (.loop (R .ready)) := World.putObj_heap_same hlt3
        refine ⟨_, _, ?_, rfl, ⟨hi4, hl4⟩, (b2.trans (b3.mono (fun k hk => .inl hk))).trans (But.putObj W3 l _ (.inr rfl))⟩
        rw [hR] at he ⊢
        exact he
      | ret => exact hp.elim
      | exit id => exact hp.elim
      | goto t => exact hp.elim
      | panic ch => exact hp.elim
      | outgrown => exact hp.elim
    · rintro e W5 ⟨⟨v, rfl⟩, ⟨hi5, hl5⟩, b5⟩
      have he := run_endLoop (P := P) hl5 (by rw [hR]; simp)
      have b6 : ∀ o, But (fun k => O k ∨ k = l) W1 (W5.putObj l o) := fun o => b5.trans (But.putObj W5 l o (.inr rfl))
      exact ⟨none, _, by rw [hR] at he; exact he, hdone _ (hI _ _ _ hi5 (fun k hk => World.putObj_heap_other (fun e => hOl (by rw [← e]; exact hk))))
        ⟨(b6 _).os.trans (b1 O).os, (b6 _).tape.trans (b1 O).tape, (b6 _).output.trans (b1 O).output, Nat.le_trans (b1 O).size (b6 _).size, fun k hk ho => ((b6 _).block k (by omega) (fun e => by rcases e with e | e; exact ho e; omega)).trans ((b1 O).block k hk ho)⟩⟩

end Go.Proofs.YtjkokbijnaodnaaGreat
