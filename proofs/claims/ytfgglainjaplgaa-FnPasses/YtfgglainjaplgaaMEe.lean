/-
  LeftSpec, CoefPure, ZeroSpec, LeftOk, ScanTo, ScriptFor.
-/
import Derived.Test.YtfgglainjaplgaaMEd

namespace Go.Proofs.Ytfgglainjaplgaa
open Go.RowKit

/-- Rows while they are made, or written: beside the frame. -/
structure Lf (w wr : World) (fx : Array Value) (u : Value) (X : List (List Int)) (F : List Nat) : Prop where
  fr : wr.heap[w.heap.size]? = some (.cells fx 33 (0, 0))
  own : Ow2 wr u X F
  nd : F.Nodup
  lo : ∀ g ∈ F, w.heap.size + 1 ≤ g
  grown : w.grownBy wr none
theorem Lf.new {w wr w' : World} {fx : Array Value} {u : Value} {X : List (List Int)} {F : List Nat} (h : Lf w wr fx u X F) (g : wr.grownBy w' none) : Lf w w' fx u X F :=
  ⟨at_rowS g h.fr (by simp), ok2.keep h.own g, h.nd, h.lo, grown_trans h.grown g⟩
theorem Lf.size {w wr : World} {fx : Array Value} {u : Value} {X : List (List Int)} {F : List Nat} (h : Lf w wr fx u X F) : w.heap.size + 1 ≤ wr.heap.size := (Array.getElem?_eq_some_iff.1 h.fr).1
theorem nothing_next (i : Nat) : nothing i ++ [List.replicate 64 (-1)] = nothing (i + 1) := by
  unfold nothing
  generalize List.replicate 64 (-1 : Int) = r
  rw [List.replicate_succ']
theorem minus_next (k : Nat) : List.replicate k (-1 : Int) ++ [-1] = List.replicate (k + 1) (-1) := by rw [List.replicate_succ']
theorem leftL_row2 {w : World} {u : Value} {X : List (List Int)} {F : List Nat} (h : Ow2 w u X F) (hF : F.Nodup) (c : Nat) (hc : c < X.length) (k : Nat) (hk : k < (X.getD c []).length) : ∃ g cap gi ci, u = .slice (some ⟨g, 0, none⟩) X.length cap ∧ w.cell? ⟨g, c, none⟩ = some (.slice (some ⟨gi, 0, none⟩) (X.getD c []).length ci) ∧ w.cell? ⟨gi, k, none⟩ = some (.int .i64 ((X.getD c []).getD k 0)) ∧ w.frozen? ⟨gi, k, none⟩ = false ∧ gi ∈ F ∧
    ∀ z : Int, Ow2 (w.setCell ⟨gi, k, none⟩ (.int .i64 z)) u (X.set c ((X.getD c []).set k z)) F := by
  have e : X.getD c [] = X[c] := by simp [hc]
  rw [e] at hk ⊢
  obtain ⟨g, cap, ui, Fi, rfl, hg, cu, hP, hn, hgi, hsub, hset⟩ := OwR.at ok1 h hF c hc
  obtain ⟨ho, rfl⟩ := hP
  obtain ⟨ao, ci, rfl⟩ := own_form ho
  obtain ⟨gi, rfl, _, _⟩ := own_at ho (by omega)
  refine ⟨g, cap, gi, ci, rfl, cu, ?_, ho.frozenAt k, hsub gi (mem_blk.2 rfl), fun z => ?_⟩
  · rw [ho.cellAt k (by omega)]
    simp [hk]
  · have st := ho.stored k (.int .i64 z)
    refine hset _ _ (Wr.ofRow st.2 (fun x hx => by have := Option.some.inj hx; subst this; exact mem_blk.2 rfl)) ⟨?_, rfl⟩
    rw [List.length_set, List.map_set]
    exact st.1

theorem OwR.headL {α : Type} {e : TypeId} {P : World → Value → α → List Nat → Prop} {w : World} {g n cap : Nat} {L : List α} {F : List Nat} (h : OwR e P w (.slice (some ⟨g, 0, none⟩) n cap) L F) : g ∈ F := by
  obtain ⟨us, Fs, _, _, _, _, rfl⟩ := h
  exact List.mem_append_left _ (mem_blk.2 rfl)
/-- A new row of numbers beside the rows. -/
structure Lr (w wr : World) (F : List Nat) (rv : Value) (A : List Int) : Prop where
  own : wr.ownsRow (w.heap.size + 1) 3 1 rv A.length (A.map (Value.int .i64))
  na : ∀ g, rv.ownBlock = some g → g ∉ F

set_option maxRecDepth 20000 in
set_option maxHeartbeats 6400000 in
theorem specLeft (p wd ht rs : Int) (fo : Option Addr) (n fc : Nat) (C : Nat → Nat → Int) (w : World) (hr : RdC w fo n C) (hn : n ≤ 4194304) (v : Value) (S : List Scn) (hS : RdSs w v S) (hcs : ∀ a ∈ S, a.cs.length ≤ 4194304) (fb : Bool) (HFB : Hid (frameB p wd ht rs n C = fb)) (L : List (List Int)) (b : Bool) (HL : Hid (leftG fb n S = L)) (HB : Hid ((leftO fb n S).isSome = b)) :
    Calls Try.prog 43 #[.agg #[.int .i64 p, .int .i64 wd, .int .i64 ht, .int .i64 rs, .slice fo n fc], v] w fun e w' => ∃ u F, e = .returned (.tuple #[u, .bool b]) ∧ Ow2 w' u L F ∧ F.Nodup ∧ (∀ g ∈ F, w.heap.size ≤ g) ∧ w.grownBy w' none := by
  have hn4 : fb = true → n ≤ 4 := fun e => by have := unhide HFB; rw [e] at this; exact (geo_of this).n4
  obtain ⟨vo, vc, rfl, hSr⟩ := hS
  obtain ⟨W2, HW2⟩ : ∃ W2, Hid ((w.alloc (.cells #[.int .i64 p, .int .i64 wd, .int .i64 ht, .int .i64 rs, .slice fo n fc] 33)).alloc (.cells #[] 24) = W2) := ⟨_, rfl⟩
  have G0 : w.grownBy W2 none := by rw [← unhide HW2]; exact grown_alloc (grown_alloc (World.grownBy.refl _ _) _) _
  have B0 : W2.heap[w.heap.size]? = some (.cells #[.int .i64 p, .int .i64 wd, .int .i64 ht, .int .i64 rs, .slice fo n fc] 33 (0, 0)) := by
    rw [← unhide HW2]
    exact at_rowS (World.grownBy_alloc _ _ none) (heap_alloc_new w _) (by simp)
  have O0 : W2.ownsRow (w.heap.size + 1) 24 1 (.slice (some ⟨w.heap.size + 1, 0, none⟩) 0 0) 0 [] := by
    rw [← unhide HW2]
    have := World.ownsRow_lit (w.alloc (.cells #[.int .i64 p, .int .i64 wd, .int .i64 ht, .int .i64 rs, .slice fo n fc] 33)) (e := 24) (size := 1) (base := w.heap.size + 1) #[] 0 (by simp) (by unfold maxLen; omega) rfl
    simpa using this
  have HRC := hide hr
  have HFR := hide (specFrameOk p wd ht rs fo n fc C W2 (hr.grown G0) fb HFB)
  have HL0 : Hid (Lf w W2 #[.int .i64 p, .int .i64 wd, .int .i64 ht, .int .i64 rs, .slice fo n fc] (.slice (some ⟨w.heap.size + 1, 0, none⟩) 0 0) (nothing 0) [w.heap.size + 1]) := ⟨B0, ⟨[], [], rfl, rfl, own_base O0 (Nat.zero_le _), fun i hi => absurd hi (by simp [nothing]), rfl⟩, by simp, fun g hg => by simp at hg; omega, G0⟩
  rw [← unhide HW2] at B0
  obtain ⟨f0, f1, f2, f3, f4⟩ := frameCells' B0
  have HN4 := hide hn4
  have HSR := hide hSr
  have HCS := hide hcs
  clear hr G0 B0 O0 hn4 hSr hcs
  go_enter Try.func43, Try.ntmps43
  go_wp2_with fail
  rw [unhide HW2]
  clear HW2 f0 f1 f2 f3 f4
  refine (unhide HFR).mono ?_
  rintro e w3 ⟨rfl, g3⟩
  have HL3 := hide ((unhide HL0).new g3)
  clear g3 HFR HL0
  have NIL : Hid (leftO fb n S = none → b = false ∧ L = []) := fun e => ⟨by rw [← unhide HB, e]; rfl, by rw [← unhide HL, leftG, e]; rfl⟩
  cases fb with
  | false =>
    obtain ⟨rfl, rfl⟩ := unhide NIL (by unfold leftO; rfl)
    go_wp2
    refine bodyPost_ret (v := .tuple #[.slice (some ⟨w.heap.size + 1, 0, none⟩) 0 0, .bool false]) (by simp [results, Try.results43, go_sem]) rfl ?_
    exact ⟨_, _, rfl, (unhide HL3).own, (unhide HL3).nd, fun g hg => by have := (unhide HL3).lo g hg; omega, (unhide HL3).grown⟩
  | true =>
    have hn4 := unhide HN4 rfl
    by_cases h40 : S.length ≤ 40
    · have hgt : decide ((S.length : Int) > 40) = false := decide_eq_false (by omega)
      have hle : ¬ ((40 : Int) < (S.length : Int)) := by omega
      have LE : Hid (leftO true n S = leftAll true n S (nothing n)) := by unfold Hid leftO; rw [decide_eq_true h40]; rfl
      have EMP : Hid (∀ wq : World, w.grownBy wq none → b = false ∧ L = [] → ∃ u F, (Ending.returned (.tuple #[.slice (some ⟨wq.heap.size, 0, none⟩) 0 0, .bool false])) = .returned (.tuple #[u, .bool b]) ∧ Ow2 (wq.alloc (.cells #[] 24)) u L F ∧ F.Nodup ∧ (∀ g ∈ F, w.heap.size ≤ g) ∧ w.grownBy (wq.alloc (.cells #[] 24)) none) := fun wq gq e => by
        obtain ⟨rfl, rfl⟩ := e
        have hq := gq.size
        exact ⟨_, [wq.heap.size], rfl, ⟨[], [], rfl, rfl, World.ownsRow_lit wq #[] 0 (Nat.zero_le _) (by unfold maxLen; omega) rfl, fun i hi => absurd hi (by simp), rfl⟩, by simp, fun g hg => by simp at hg; omega, grown_alloc gq _⟩
      have HSL : Hid (S.length ≤ 40) := h40
      clear h40
      have c4 : w3.cell? ⟨w.heap.size, 4, none⟩ = some (.slice fo n fc) := (frameCells' (unhide HL3).fr).2.2.2.2
      go_wp2
      clear c4 hgt hle
      go_loopw [6, 7] (fun uv iv wr => ∃ (i : Nat) (uo : Option Addr) (uc : Nat) (F : List Nat), i ≤ n ∧ iv = .int .i64 i ∧ uv = .slice uo i uc ∧ Hid (Lf w wr #[.int .i64 p, .int .i64 wd, .int .i64 ht, .int .i64 rs, .slice fo n fc] (.slice uo i uc) (nothing i) F)) (fun _ iv _ => n - (intOf iv).toNat)
      case atStart => exact ⟨0, _, _, _, Nat.zero_le _, rfl, rfl, HL3⟩
      case round =>
        clear HL3
        obtain ⟨i, uo, uc, F, hin, rfl, rfl, hf⟩ := hrel
        have c4 : wr.cell? ⟨w.heap.size, 4, none⟩ = some (.slice fo n fc) := (frameCells' (unhide hf).fr).2.2.2.2
        by_cases hlt : i < n
        · have hd : decide ((i : Int) < (n : Int)) = true := decide_eq_true (by omega)
          have gA : wr.grownBy (wr.alloc (.cells #[] 3)) none := World.grownBy_alloc _ _ _
          have HF1 := hide ((unhide hf).new gA)
          have hs1 := (unhide hf).size
          have HR1 : Hid (Lr w (wr.alloc (.cells #[] 3)) F (.slice (some ⟨wr.heap.size, 0, none⟩) 0 0) (List.replicate 0 (-1))) := by
            refine ⟨World.ownsRow_lit wr #[] 0 hs1 (by unfold maxLen; omega) rfl, fun g e hx => ?_⟩
            have e9 : wr.heap.size = g := Option.some.inj e
            have := ok2.lt _ _ _ _ (unhide hf).own g hx
            omega
          clear gA hf
          go_wp2
          clear c4
          go_loopw [8, 9] (fun rv kv wr => ∃ (k : Nat) (ro : Option Addr) (rc : Nat), k ≤ 64 ∧ kv = .int .i64 k ∧ rv = .slice ro k rc ∧ Hid (Lf w wr #[.int .i64 p, .int .i64 wd, .int .i64 ht, .int .i64 rs, .slice fo n fc] (.slice uo i uc) (nothing i) F) ∧ Hid (Lr w wr F (.slice ro k rc) (List.replicate k (-1)))) (fun _ kv _ => 64 - (intOf kv).toNat)
          case atStart => exact ⟨0, _, _, Nat.zero_le _, rfl, rfl, HF1, HR1⟩
          case round =>
            clear HF1 HR1
            obtain ⟨k, ro, rc, hk, rfl, rfl, hf, hr1⟩ := hrel
            by_cases hk64 : k < 64
            · have hkI : (k : Int) < 64 := by omega
              obtain ⟨T, HTT⟩ : ∃ T, Hid (List.replicate k (-1 : Int) = T) := ⟨_, rfl⟩
              obtain ⟨R, HRR⟩ : ∃ R, Hid (List.replicate (k + 1) (-1 : Int) = R) := ⟨_, rfl⟩
              have HTL : Hid (T.length = k) := by unfold Hid; rw [← unhide HTT, List.length_replicate]
              have HRL : Hid (R.length = k + 1) := by unfold Hid; rw [← unhide HRR, List.length_replicate]
              have HNX : Hid (T ++ [(-1 : Int)] = R) := by unfold Hid; rw [← unhide HTT, ← unhide HRR]; exact minus_next k
              rw [unhide HTT] at hr1
              go_wp2_with (at_builtin; (refine append_intS rfl _ _ rfl (w.heap.size + 1) (.slice ro k rc) T rfl (unhide hr1).own (-1) rfl (by rw [unhide HTL]; omega) (unhide hf).size R (unhide HNX) ?_))
              intro v5 w5 o5 g5 hat5
              have HF5 : Hid (Lf w w5 #[.int .i64 p, .int .i64 wd, .int .i64 ht, .int .i64 rs, .slice fo n fc] (.slice uo i uc) (nothing i) F) := by
                have E := unhide hf
                refine ⟨at_rowS g5 E.fr (fun e => by have := ((unhide hr1).own.lt _ e).1; omega), ok2.wr E.own (Wr.ofRow (F := blk (.slice ro k rc)) g5 (fun x e => mem_blk.2 e)) (fun x hx e => (unhide hr1).na x (mem_blk.1 e) hx), E.nd, E.lo, grown_new E.grown g5 (fun q e => by have := ((unhide hr1).own.lt _ e).1; omega)⟩
              have HR5 : Hid (Lr w w5 F v5 R) := ⟨o5, fun g e hx => by
                rcases hat5 with h | h
                · exact (unhide hr1).na g (by rw [← h]; exact e) hx
                · have h2 := h g e
                  have h3 := ok2.lt _ _ _ _ (unhide hf).own g hx
                  omega⟩
              rw [unhide HRL] at o5
              obtain ⟨ro5, rc5, rfl⟩ := own_form o5
              rw [← unhide HRR] at HR5
              clear o5 g5 hat5 hf hr1 HTT HTL HRL HNX
              go_wp2
              go_roundw
              case rel => exact ⟨k + 1, ro5, rc5, by omega, by go_num, rfl, HF5, HR5⟩
              case measure => simp [intOf]; omega
            · obtain rfl : k = 64 := by omega
              obtain ⟨T, HTT⟩ : ∃ T, Hid (List.replicate 64 (-1 : Int) = T) := ⟨_, rfl⟩
              have HTL : Hid (T.length = 64) := by unfold Hid; rw [← unhide HTT, List.length_replicate]
              rw [unhide HTT] at hr1
              have HU : Hid (OwI .i64 3 wr (.slice ro 64 rc) T (blk (.slice ro 64 rc))) := ⟨own_base (unhide hr1).own (Nat.zero_le _), rfl⟩
              have HNE : Hid (nothing i ++ [T] = nothing (i + 1)) := by unfold Hid; rw [← unhide HTT]; exact nothing_next i
              have HLN : Hid ((nothing i).length ≤ 1000000) := by unfold Hid nothing; rw [List.length_replicate]; omega
              go_wp2_with (at_builtin; refine append_rowR ok1 Try.underlying40 infoIntSS rfl _ _ rfl (.slice uo i uc) (nothing i) F rfl (unhide hf).own (unhide hf).nd _ T _ (unhide HU) (blk_nodup _) (fun x hx => (unhide hr1).na x (mem_blk.1 hx)) rfl (unhide HLN) _ (unhide HNE) ?_)
              intro v5 w5 F5 o5 n5 m5 g5
              have HF5 : Hid (Lf w w5 #[.int .i64 p, .int .i64 wd, .int .i64 ht, .int .i64 rs, .slice fo n fc] v5 (nothing (i + 1)) F5) := by
                have E := unhide hf
                have hsub : ∀ x ∈ blk (.slice uo i uc), x ∈ F := by
                  obtain ⟨us, Fs, _, _, _, _, e9⟩ := E.own
                  intro x hx
                  rw [e9]
                  simp [hx]
                have hE := E.size
                refine ⟨(g5.block _ (by omega) (fun e => by have := E.lo _ (hsub _ e); omega)).trans E.fr, o5, n5, fun x hx => ?_, Wr.new E.grown g5 (fun x hx => by have := E.lo _ (hsub _ hx); omega)⟩
                rcases m5 x hx with h | h | h
                · exact E.lo x h
                · exact ((unhide hr1).own.lt x (mem_blk.1 h)).1
                · omega
              obtain ⟨uo5, uc5, rfl⟩ := o5.form
              have e5 : (nothing (i + 1)).length = i + 1 := by unfold nothing; rw [List.length_replicate]
              rw [e5] at HF5 ⊢
              clear o5 n5 m5 g5 hf hr1 HU HNE HLN HTT HTL e5
              go_wp2
              go_roundw
              case rel => exact ⟨i + 1, uo5, uc5, F5, by omega, by go_num, rfl, HF5⟩
              case measure => simp [intOf]; omega
        · obtain rfl : n = i := by omega
          have hd : decide ((n : Int) < (n : Int)) = false := decide_eq_false (by omega)
          go_wp2
          clear c4 hd
          have HX0 : Hid (leftAll true n (S.take 0) (nothing n) = some (nothing n)) := rfl
          go_loopw [10] (fun iv wr => ∃ (i : Nat) (X : List (List Int)), i ≤ S.length ∧ iv = .int .i64 i ∧ Hid (Lf w wr #[.int .i64 p, .int .i64 wd, .int .i64 ht, .int .i64 rs, .slice fo n fc] (.slice uo n uc) X F) ∧ Hid (leftAll true n (S.take i) (nothing n) = some X)) (fun iv _ => S.length - (intOf iv).toNat)
          case atStart => exact ⟨0, _, Nat.zero_le _, rfl, hf, HX0⟩
          case round =>
            clear hf HX0
            obtain ⟨i, X, hi, rfl, hf, hX⟩ := hrel
            by_cases hlt : i < S.length
            · have hltI : (i : Int) < (S.length : Int) := by omega
              have i0 : (0 : Int) ≤ (i : Int) := by omega
              obtain ⟨sb, soff, cf, rfl, hcell, hsc, hrd⟩ := unhide HSR i hlt
              obtain ⟨a, HA⟩ : ∃ a, Hid (S.getD i Scn.zero = a) := ⟨_, rfl⟩
              have ea : S[i] = a := by rw [← unhide HA]; simp [hlt]
              have hcl := unhide HCS S[i] (List.getElem_mem hlt)
              have NEXT : Hid (∀ Z, scanB true n a = true → leftScan a X = some Z → leftAll true n (S.take (i + 1)) (nothing n) = some Z) := fun Z h1 h2 => leftAll_next i hlt (unhide hX) (by rw [ea]; exact h1) (by rw [ea]; exact h2)
              have FAIL : Hid (scanB true n a = false ∨ leftScan a X = none → b = false ∧ L = []) := fun h => unhide NIL (by rw [unhide LE]; exact leftAll_fails i hlt (unhide hX) (by rw [ea]; exact h))
              have HR64 := hide (leftAll_step _ _ X (nothing_rows n) (unhide hX)).1
              rw [ea] at hsc hrd hcl
              clear ea
              obtain ⟨cs, fr, to, hi', lo⟩ := a
              obtain ⟨co, cc, ec, hrc⟩ := hrd
              dsimp only at hsc hrc hcl ec
              obtain ⟨cn, HCN⟩ : ∃ cn, Hid (cs.length = cn) := ⟨_, rfl⟩
              rw [unhide HCN] at ec hrc hcl
              obtain ⟨k0, k1, k2, k3, k4⟩ := rowScan (fun j hj => (unhide hf).grown.cell (hcell j hj) (by simp)) hsc
              rw [ec] at k0
              dsimp only at k1 k2 k3 k4
              have B5 := at_rowS (World.grownBy_alloc wr (.cells #[.slice co cn cc, .int .i64 fr, .int .i64 to, .int .i64 hi', .int .i64 lo] 26) none) (unhide hf).fr (by simp)
              have S5 := heap_alloc_new wr (.cells #[.slice co cn cc, .int .i64 fr, .int .i64 to, .int .i64 hi', .int .i64 lo] 26)
              obtain ⟨f0, f1, f2, f3, f4⟩ := frameCells' B5
              obtain ⟨s0, s1, s2, s3, s4⟩ := scanCells S5
              have HS5 := hide S5
              have HF5 := hide ((unhide hf).new (World.grownBy_alloc wr (.cells #[.slice co cn cc, .int .i64 fr, .int .i64 to, .int .i64 hi', .int .i64 lo] 26) none))
              have HRC' := hide hrc
              have HWS := (unhide hf).size
              have HDJ : Hid (∀ g ∈ F, g < wr.heap.size) := fun g hg => ok2.lt _ _ _ _ (unhide hf).own g hg
              obtain ⟨t, HT⟩ : ∃ t, Hid (scanB true n ⟨cs, fr, to, hi', lo⟩ = t) := ⟨_, rfl⟩
              clear hcell hsc hrc ec B5 S5 hf
              go_wp2_with fail
              clear f0 f1 f2 f3 f4 s0 s1 s2 s3 s4 k0 k1 k2 k3 k4
              generalize wr.alloc (.cells #[.slice co cn cc, .int .i64 fr, .int .i64 to, .int .i64 hi', .int .i64 lo] 26) = w5 at *
              generalize wr.heap.size = bs at *
              refine (specScanOk p wd ht rs fo n fc C w5 ((unhide HRC).grown (unhide HF5).grown) hn co cn cc ⟨cs, fr, to, hi', lo⟩ ((unhide HRC').grown (unhide HF5).grown) hcl true t HFB HT).mono ?_
              rintro e w6 ⟨rfl, g6⟩
              have HF6 := hide ((unhide HF5).new g6)
              have HS6 := hide (at_rowS g6 (unhide HS5) (by simp))
              clear HF5 HS5 g6
              cases t with
              | false =>
                have e := unhide FAIL (.inl (unhide HT))
                have HEM := hide (unhide EMP w6 (unhide HF6).grown e)
                go_wp2
                refine bodyPost_ret (v := .tuple #[.slice (some ⟨w6.heap.size, 0, none⟩) 0 0, .bool false]) (by simp [results, Try.results43, go_sem]) rfl ?_
                exact unhide HEM
              | true =>
                have hb := unhide HT
                simp only [scanB, Bool.and_eq_true] at hb
                obtain ⟨⟨_, hoc⟩, hpb⟩ := hb
                have hpi := passB_in hpb
                dsimp only at hpi hoc
                obtain ⟨p1, p2, p3, p4, p5⟩ := hpi
                have hcin := okComps_in hoc
                obtain ⟨fz, rfl⟩ := Int.eq_ofNat_of_zero_le p1
                obtain ⟨tz, rfl⟩ := Int.eq_ofNat_of_zero_le (Int.le_trans p1 p2)
                obtain ⟨wt, HWT⟩ : ∃ wt, Hid (wantOf ⟨cs, (fz : Int), (tz : Int), hi', lo⟩ = wt) := ⟨_, rfl⟩
                have HLS : Hid (leftScan ⟨cs, (fz : Int), (tz : Int), hi', lo⟩ X = leftComps wt lo fz (tz + 1 - fz) cs X) := by
                  unfold Hid leftScan
                  dsimp only
                  rw [unhide HWT]
                  have e1 : ((tz : Int) - (fz : Int) + 1).toNat = tz + 1 - fz := by omega
                  rw [e1, Int.toNat_natCast]
                have hft : fz ≤ tz := by omega
                have htz : tz ≤ 63 := by omega
                have HHI : Hid (wt = -1 ∨ lo ≤ wt) := by
                  unfold Hid
                  rw [← unhide HWT]
                  unfold wantOf
                  dsimp only
                  split
                  · exact .inl rfl
                  · right; omega
                have HLO := hide p4
                have HCIN := hide hcin
                have NXT : Hid (∀ Z, leftComps wt lo fz (tz + 1 - fz) cs X = some Z → leftAll true n (S.take (i + 1)) (nothing n) = some Z) := fun Z h => unhide NEXT Z (unhide HT) (by rw [unhide HLS]; exact h)
                have FLS : Hid (leftComps wt lo fz (tz + 1 - fz) cs X = none → b = false ∧ L = []) := fun h => unhide FAIL (.inr (by rw [unhide HLS]; exact h))
                have HY0 : Hid (leftComps wt lo fz (tz + 1 - fz) (cs.take 0) X = some X) := rfl
                have hc0 : 0 < cn := by
                  simp only [okComps, Bool.and_eq_true, decide_eq_true_eq] at hoc
                  rw [← unhide HCN]
                  exact hoc.2
                obtain ⟨cb, coff, rfl, _⟩ := (unhide HRC').2 0 hc0
                have h40 := unhide HSL
                obtain ⟨s0, s1, s2, s3, s4⟩ := scanCells (unhide HS6)
                clear hoc hpb hcin p1 p2 p3 p4 p5 NEXT FAIL HT HLS
                by_cases h0 : hi' = 0
                · have ew : (-1 : Int) = wt := by rw [← unhide HWT]; unfold wantOf; rw [if_pos h0]
                  have hz : (hi' == 0) = true := by simp [h0]
                  clear h0 HWT
                  go_wp2
                  rw [ew]
                  clear ew hz s0 s1 s2 s3 s4
                  go_loopw [13] (fun jv wr => ∃ (j : Nat) (Y : List (List Int)), j ≤ cn ∧ jv = .int .i64 j ∧ Hid (Lf w wr #[.int .i64 p, .int .i64 wd, .int .i64 ht, .int .i64 rs, .slice fo n fc] (.slice uo n uc) Y F) ∧ Hid (wr.heap[bs]? = some (.cells #[.slice (some ⟨cb, coff, none⟩) cn cc, .int .i64 (fz : Int), .int .i64 (tz : Int), .int .i64 hi', .int .i64 lo] 26 (0, 0))) ∧ Hid (leftComps wt lo fz (tz + 1 - fz) (cs.take j) X = some Y)) (fun jv _ => cn - (intOf jv).toNat)
                  case atStart => exact ⟨0, X, Nat.zero_le _, rfl, HF6, HS6, HY0⟩
                  case round =>
                    clear HF6 HS6 HY0
                    obtain ⟨j, Y, hj, rfl, hf, hs, hY⟩ := hrel
                    obtain ⟨s0, s1, s2, s3, s4⟩ := scanCells (unhide hs)
                    by_cases hjl : j < cn
                    · have hd2 : decide ((j : Int) < (cn : Int)) = true := decide_eq_true (by omega)
                      have hjI : (j : Int) < (cn : Int) := by omega
                      have hjc : j < cs.length := by rw [unhide HCN]; exact hjl
                      have hY64 := (leftComps_step (n := n) (by omega) (unhide HHI) (unhide HLO) (cs.take j) X Y (unhide HR64) (fun c hc => unhide HCIN c (List.mem_of_mem_take hc)) (unhide hY)).1
                      obtain ⟨cb', coff', ecb, hcc⟩ := (unhide HRC').2 j hjl
                      obtain ⟨rfl, rfl⟩ : cb = cb' ∧ coff = coff' := by simpa using ecb
                      obtain ⟨c0, c1⟩ := unhide HCIN (cs.getD j 0) (by rw [List.getD_eq_getElem?_getD, List.getElem?_eq_getElem hjc]; exact List.getElem_mem hjc)
                      obtain ⟨cj, hcj⟩ := Int.eq_ofNat_of_zero_le c0
                      have hcn4 : cj < n := by omega
                      have NX4 : Hid (∀ row, leftRow wt lo fz (tz + 1 - fz) (Y.getD cj []) = some row → leftComps wt lo fz (tz + 1 - fz) (cs.take (j + 1)) X = some (Y.set cj row)) := fun row h => by
                        have := leftComps_next (row := row) j hjc (unhide hY) (by rw [hcj, Int.toNat_natCast]; exact h)
                        rw [hcj, Int.toNat_natCast] at this
                        exact this
                      have FL4 : Hid (leftRow wt lo fz (tz + 1 - fz) (Y.getD cj []) = none → b = false ∧ L = []) := fun h => unhide FLS (leftComps_fails j hjc (unhide hY) (by rw [hcj, Int.toNat_natCast]; exact h))
                      rw [hcj] at hcc
                      have HCC := hide hcc
                      have HYL : Hid (Y.length = n) := hY64.1
                      have HYR : Hid ((Y.getD cj []).length = 64) := hY64.2 cj hcn4
                      have HY1 : Hid (Lf w wr #[.int .i64 p, .int .i64 wd, .int .i64 ht, .int .i64 rs, .slice fo n fc] (.slice uo n uc) (Y.set cj (Y.getD cj [])) F) := by
                        have e9 : Y.set cj (Y.getD cj []) = Y := by
                          have hl : cj < Y.length := by rw [hY64.1]; exact hcn4
                          have e8 : Y.getD cj [] = Y[cj] := by simp [hl]
                          rw [e8, List.set_getElem_self]
                        unfold Hid
                        rw [e9]
                        exact unhide hf
                      have HR0 : Hid (leftRow wt lo fz 0 (Y.getD cj []) = some (Y.getD cj [])) := rfl
                      clear hcc c0 c1 hcj hY64 hf hjc
                      go_wp2
                      clear s0 s1 s2 s3 s4
                      go_loopw [14] (fun kv wr => ∃ (m : Nat) (row : List Int), m ≤ tz + 1 - fz ∧ kv = .int .i64 ((fz + m : Nat) : Int) ∧ Hid (Lf w wr #[.int .i64 p, .int .i64 wd, .int .i64 ht, .int .i64 rs, .slice fo n fc] (.slice uo n uc) (Y.set cj row) F) ∧ Hid (wr.heap[bs]? = some (.cells #[.slice (some ⟨cb, coff, none⟩) cn cc, .int .i64 (fz : Int), .int .i64 (tz : Int), .int .i64 hi', .int .i64 lo] 26 (0, 0))) ∧ Hid (leftRow wt lo fz m (Y.getD cj []) = some row)) (fun kv _ => tz + 1 - (intOf kv).toNat)
                      case atStart => exact ⟨0, _, Nat.zero_le _, rfl, HY1, hs, HR0⟩
                      case round =>
                        clear HY1 hs HR0
                        obtain ⟨m, row, hm, rfl, hf, hs, hR⟩ := hrel
                        obtain ⟨s0, s1, s2, s3, s4⟩ := scanCells (unhide hs)
                        by_cases hml : m < tz + 1 - fz
                        · have hd3 : decide (((fz + m : Nat) : Int) ≤ (tz : Int)) = true := decide_eq_true (by omega)
                          have hk64 : fz + m < 64 := by omega
                          have hrl : row.length = 64 := by rw [leftRow_len _ _ _ row (unhide hR)]; exact unhide HYR
                          have hcl2 : cj < (Y.set cj row).length := by rw [List.length_set, unhide HYL]; exact hcn4
                          have eg : (Y.set cj row).getD cj [] = row := getD_set_same _ _ _ _ (by rw [unhide HYL]; exact hcn4)
                          obtain ⟨g, gcap, gi, ci, e1, q0, q1, qf, hgF, hset⟩ := leftL_row2 (unhide hf).own (unhide hf).nd cj hcl2 (fz + m) (by rw [eg, hrl]; exact hk64)
                          rw [eg] at q0 q1 hset
                          rw [hrl] at q0
                          rw [List.length_set, unhide HYL] at e1
                          obtain ⟨rfl, rfl⟩ : uo = some ⟨g, 0, none⟩ ∧ uc = gcap := by simpa using e1
                          have hset' : ∀ z, (Y.set cj row).set cj (row.set (fz + m) z) = Y.set cj (row.set (fz + m) z) := fun z => by rw [List.set_set]
                          have hcc' := (unhide hf).grown.cell (unhide HCC) (by simp)
                          obtain ⟨z, HZ⟩ : ∃ z, Hid (row.getD (fz + m) 0 = z) := ⟨_, rfl⟩
                          rw [unhide HZ] at q1
                          obtain ⟨kk, HKK⟩ : ∃ kk, Hid (fz + m = kk) := ⟨_, rfl⟩
                          rw [unhide HKK] at q1 qf hset hset' hd3 hk64 HZ ⊢
                          have b1 : (0 : Int) ≤ (cj : Int) := by omega
                          have b2 : (cj : Int) < (n : Int) := by omega
                          have b3 : (0 : Int) ≤ (kk : Int) := by omega
                          have b4 : (kk : Int) < 64 := by omega
                          have b5 : (0 : Int) ≤ (j : Int) := by omega
                          have b6 : (kk : Int) ≤ (tz : Int) := by have := unhide HKK; omega
                          have b7 : kk ≤ tz := by omega
                          clear e1 eg hcl2
                          by_cases hzw : z = wt
                          · have hne : (z != wt) = false := by simp [hzw]
                            have hgl : g ∈ F := (unhide hf).own.headL
                            have HF9 : Hid (Lf w (wr.drew.setCell ⟨gi, kk, none⟩ (.int .i64 lo)) #[.int .i64 p, .int .i64 wd, .int .i64 ht, .int .i64 rs, .slice fo n fc] (.slice (some ⟨g, 0, none⟩) n uc) (Y.set cj (row.set kk lo)) F) := by
                              have E := unhide hf
                              have hlo := E.lo gi hgF
                              have gs := grown_set wr.drew gi kk (.int .i64 lo)
                              refine ⟨at_rowS gs E.fr (by simp; omega), ?_, E.nd, E.lo, grown_new (grown_drew E.grown) gs (fun q e => by simp at e; omega)⟩
                              have h9 := hset lo
                              rw [hset'] at h9
                              exact ok2.same _ _ _ _ _ h9 (fun x _ => rfl)
                            have HS9 : Hid ((wr.drew.setCell ⟨gi, kk, none⟩ (.int .i64 lo)).heap[bs]? = some (.cells #[.slice (some ⟨cb, coff, none⟩) cn cc, .int .i64 (fz : Int), .int .i64 (tz : Int), .int .i64 hi', .int .i64 lo] 26 (0, 0))) := at_rowS (grown_set wr.drew gi kk (.int .i64 lo)) (unhide hs) (by have := unhide HDJ gi hgF; simp; omega)
                            have HR9 : Hid (leftRow wt lo fz (m + 1) (Y.getD cj []) = some (row.set kk lo)) := by
                              have := leftRow_next (unhide hR) (by rw [unhide HKK, unhide HZ]; exact hzw)
                              rw [unhide HKK] at this
                              exact this
                            subst hzw
                            clear hset hset' hf hs hR HZ
                            go_wp2
                            refine wp_region_noPanic ?_
                            have d0 : wr.drew.cell? ⟨bs, 0, none⟩ = _ := s0
                            have d4 : wr.drew.cell? ⟨bs, 4, none⟩ = _ := s4
                            have dc : wr.drew.cell? ⟨cb, coff + j, none⟩ = _ := hcc'
                            have dq0 : wr.drew.cell? ⟨g, cj, none⟩ = _ := q0
                            have dq1 : wr.drew.cell? ⟨gi, kk, none⟩ = _ := q1
                            have dqf : wr.drew.frozen? ⟨gi, kk, none⟩ = false := qf
                            clear s0 s1 s2 s3 s4 hcc' q0 q1 qf
                            refine wp_region_tailL 20 (fun W => W = wr.drew) [true, true, true, true, true, true, true, true, true, true, true, false, false] (by kernel_rfl) (fun _ _ _ _ _ h => h) rfl (by decide) (by kernel_rfl) rfl ?_
                            generalize wr.drew = wd' at *
                            iterate 11
                              refine heldF_take (v := ?_) (Or.inl ⟨by rfl, ?_⟩) ?_
                              rotate_left 1
                              · intro w' hSw
                                subst hSw
                                go_simp
                                try with_reducible rfl
                              simp only [Act.put, List.setIfInBounds_toArray, List.set_cons_zero, List.set_cons_succ]
                            refine heldF_skip (heldF_skip (heldF_nil ?_))
                            refine tailL_skip (tailL_skip (tailL_skip (tailL_skip (tailL_skip (tailL_skip (tailL_skip (tailL_skip (tailL_skip (tailL_skip (tailL_skip ?_))))))))))
                            refine tailL_step (fun K hK => ?_)
                            go_simp
                            refine hK.out _ _ (.inr rfl) ?_
                            clear hK K
                            try simp only [Act.put, List.setIfInBounds_toArray, List.set_cons_zero, List.set_cons_succ]
                            refine tailL_step (fun K hK => ?_)
                            go_simp
                            refine hK.out _ _ (.inl rfl) (tailL_nil (NoPanic.normal ?_))
                            clear hK K d0 d4 dc dq0 dq1 dqf
                            generalize wd'.setCell ⟨gi, kk, none⟩ (.int .i64 lo) = w9 at *
                            go_wp2
                            go_roundw
                            case rel => exact ⟨m + 1, row.set kk lo, by omega, by have := unhide HKK; go_num, HF9, HS9, HR9⟩
                            case measure => have := unhide HKK; simp [intOf]; omega
                          · have hne : (z != wt) = true := by simp [hzw]
                            have e := unhide FL4 (leftRow_fails (unhide hR) (by rw [unhide HKK, unhide HZ]; exact hzw) hml)
                            have HEM := hide (unhide EMP wr (unhide hf).grown e)
                            clear hzw hset hset'
                            go_wp2
                            refine bodyPost_ret (v := .tuple #[.slice (some ⟨wr.heap.size, 0, none⟩) 0 0, .bool false]) (by simp [results, Try.results43, go_sem]) rfl ?_
                            exact unhide HEM
                        · obtain rfl : m = tz + 1 - fz := by omega
                          have e9 : fz + (tz + 1 - fz) = tz + 1 := by omega
                          rw [e9]
                          have hd3 : decide (((tz + 1 : Nat) : Int) ≤ (tz : Int)) = false := decide_eq_false (by omega)
                          have HC9 := hide (unhide NX4 row (unhide hR))
                          clear e9
                          go_wp2
                          go_roundw
                          case rel => exact ⟨j + 1, Y.set cj row, by omega, by go_num, hf, hs, HC9⟩
                          case measure => simp [intOf]; omega
                    · obtain rfl : j = cn := by omega
                      have hd2 : decide ((j : Int) < (j : Int)) = false := decide_eq_false (by omega)
                      have HA9 : Hid (leftAll true n (S.take (i + 1)) (nothing n) = some Y) := unhide NXT Y (by have h9 := unhide hY; rw [← unhide HCN, List.take_length] at h9; exact h9)
                      go_wp2
                      go_roundw
                      case rel => exact ⟨i + 1, Y, by omega, by go_num, hf, HA9⟩
                      case measure => simp [intOf]; omega
                · have ew : hi' = wt := by rw [← unhide HWT]; unfold wantOf; rw [if_neg h0]
                  have hz : (hi' == 0) = false := by simp [h0]
                  clear h0 HWT
                  subst ew
                  go_wp2
                  clear hz s0 s1 s2 s3 s4
                  go_loopw [13] (fun jv wr => ∃ (j : Nat) (Y : List (List Int)), j ≤ cn ∧ jv = .int .i64 j ∧ Hid (Lf w wr #[.int .i64 p, .int .i64 wd, .int .i64 ht, .int .i64 rs, .slice fo n fc] (.slice uo n uc) Y F) ∧ Hid (wr.heap[bs]? = some (.cells #[.slice (some ⟨cb, coff, none⟩) cn cc, .int .i64 (fz : Int), .int .i64 (tz : Int), .int .i64 hi', .int .i64 lo] 26 (0, 0))) ∧ Hid (leftComps hi' lo fz (tz + 1 - fz) (cs.take j) X = some Y)) (fun jv _ => cn - (intOf jv).toNat)
                  case atStart => exact ⟨0, X, Nat.zero_le _, rfl, HF6, HS6, HY0⟩
                  case round =>
                    clear HF6 HS6 HY0
                    obtain ⟨j, Y, hj, rfl, hf, hs, hY⟩ := hrel
                    obtain ⟨s0, s1, s2, s3, s4⟩ := scanCells (unhide hs)
                    by_cases hjl : j < cn
                    · have hd2 : decide ((j : Int) < (cn : Int)) = true := decide_eq_true (by omega)
                      have hjI : (j : Int) < (cn : Int) := by omega
                      have hjc : j < cs.length := by rw [unhide HCN]; exact hjl
                      have hY64 := (leftComps_step (n := n) (by omega) (unhide HHI) (unhide HLO) (cs.take j) X Y (unhide HR64) (fun c hc => unhide HCIN c (List.mem_of_mem_take hc)) (unhide hY)).1
                      obtain ⟨cb', coff', ecb, hcc⟩ := (unhide HRC').2 j hjl
                      obtain ⟨rfl, rfl⟩ : cb = cb' ∧ coff = coff' := by simpa using ecb
                      obtain ⟨c0, c1⟩ := unhide HCIN (cs.getD j 0) (by rw [List.getD_eq_getElem?_getD, List.getElem?_eq_getElem hjc]; exact List.getElem_mem hjc)
                      obtain ⟨cj, hcj⟩ := Int.eq_ofNat_of_zero_le c0
                      have hcn4 : cj < n := by omega
                      have NX4 : Hid (∀ row, leftRow hi' lo fz (tz + 1 - fz) (Y.getD cj []) = some row → leftComps hi' lo fz (tz + 1 - fz) (cs.take (j + 1)) X = some (Y.set cj row)) := fun row h => by
                        have := leftComps_next (row := row) j hjc (unhide hY) (by rw [hcj, Int.toNat_natCast]; exact h)
                        rw [hcj, Int.toNat_natCast] at this
                        exact this
                      have FL4 : Hid (leftRow hi' lo fz (tz + 1 - fz) (Y.getD cj []) = none → b = false ∧ L = []) := fun h => unhide FLS (leftComps_fails j hjc (unhide hY) (by rw [hcj, Int.toNat_natCast]; exact h))
                      rw [hcj] at hcc
                      have HCC := hide hcc
                      have HYL : Hid (Y.length = n) := hY64.1
                      have HYR : Hid ((Y.getD cj []).length = 64) := hY64.2 cj hcn4
                      have HY1 : Hid (Lf w wr #[.int .i64 p, .int .i64 wd, .int .i64 ht, .int .i64 rs, .slice fo n fc] (.slice uo n uc) (Y.set cj (Y.getD cj [])) F) := by
                        have e9 : Y.set cj (Y.getD cj []) = Y := by
                          have hl : cj < Y.length := by rw [hY64.1]; exact hcn4
                          have e8 : Y.getD cj [] = Y[cj] := by simp [hl]
                          rw [e8, List.set_getElem_self]
                        unfold Hid
                        rw [e9]
                        exact unhide hf
                      have HR0 : Hid (leftRow hi' lo fz 0 (Y.getD cj []) = some (Y.getD cj [])) := rfl
                      clear hcc c0 c1 hcj hY64 hf hjc
                      go_wp2
                      clear s0 s1 s2 s3 s4
                      go_loopw [14] (fun kv wr => ∃ (m : Nat) (row : List Int), m ≤ tz + 1 - fz ∧ kv = .int .i64 ((fz + m : Nat) : Int) ∧ Hid (Lf w wr #[.int .i64 p, .int .i64 wd, .int .i64 ht, .int .i64 rs, .slice fo n fc] (.slice uo n uc) (Y.set cj row) F) ∧ Hid (wr.heap[bs]? = some (.cells #[.slice (some ⟨cb, coff, none⟩) cn cc, .int .i64 (fz : Int), .int .i64 (tz : Int), .int .i64 hi', .int .i64 lo] 26 (0, 0))) ∧ Hid (leftRow hi' lo fz m (Y.getD cj []) = some row)) (fun kv _ => tz + 1 - (intOf kv).toNat)
                      case atStart => exact ⟨0, _, Nat.zero_le _, rfl, HY1, hs, HR0⟩
                      case round =>
                        clear HY1 hs HR0
                        obtain ⟨m, row, hm, rfl, hf, hs, hR⟩ := hrel
                        obtain ⟨s0, s1, s2, s3, s4⟩ := scanCells (unhide hs)
                        by_cases hml : m < tz + 1 - fz
                        · have hd3 : decide (((fz + m : Nat) : Int) ≤ (tz : Int)) = true := decide_eq_true (by omega)
                          have hk64 : fz + m < 64 := by omega
                          have hrl : row.length = 64 := by rw [leftRow_len _ _ _ row (unhide hR)]; exact unhide HYR
                          have hcl2 : cj < (Y.set cj row).length := by rw [List.length_set, unhide HYL]; exact hcn4
                          have eg : (Y.set cj row).getD cj [] = row := getD_set_same _ _ _ _ (by rw [unhide HYL]; exact hcn4)
                          obtain ⟨g, gcap, gi, ci, e1, q0, q1, qf, hgF, hset⟩ := leftL_row2 (unhide hf).own (unhide hf).nd cj hcl2 (fz + m) (by rw [eg, hrl]; exact hk64)
                          rw [eg] at q0 q1 hset
                          rw [hrl] at q0
                          rw [List.length_set, unhide HYL] at e1
                          obtain ⟨rfl, rfl⟩ : uo = some ⟨g, 0, none⟩ ∧ uc = gcap := by simpa using e1
                          have hset' : ∀ z, (Y.set cj row).set cj (row.set (fz + m) z) = Y.set cj (row.set (fz + m) z) := fun z => by rw [List.set_set]
                          have hcc' := (unhide hf).grown.cell (unhide HCC) (by simp)
                          obtain ⟨z, HZ⟩ : ∃ z, Hid (row.getD (fz + m) 0 = z) := ⟨_, rfl⟩
                          rw [unhide HZ] at q1
                          obtain ⟨kk, HKK⟩ : ∃ kk, Hid (fz + m = kk) := ⟨_, rfl⟩
                          rw [unhide HKK] at q1 qf hset hset' hd3 hk64 HZ ⊢
                          have b1 : (0 : Int) ≤ (cj : Int) := by omega
                          have b2 : (cj : Int) < (n : Int) := by omega
                          have b3 : (0 : Int) ≤ (kk : Int) := by omega
                          have b4 : (kk : Int) < 64 := by omega
                          have b5 : (0 : Int) ≤ (j : Int) := by omega
                          have b6 : (kk : Int) ≤ (tz : Int) := by have := unhide HKK; omega
                          have b7 : kk ≤ tz := by omega
                          clear e1 eg hcl2
                          by_cases hzw : z = hi'
                          · have hne : (z != hi') = false := by simp [hzw]
                            have hgl : g ∈ F := (unhide hf).own.headL
                            have HF9 : Hid (Lf w (wr.drew.setCell ⟨gi, kk, none⟩ (.int .i64 lo)) #[.int .i64 p, .int .i64 wd, .int .i64 ht, .int .i64 rs, .slice fo n fc] (.slice (some ⟨g, 0, none⟩) n uc) (Y.set cj (row.set kk lo)) F) := by
                              have E := unhide hf
                              have hlo := E.lo gi hgF
                              have gs := grown_set wr.drew gi kk (.int .i64 lo)
                              refine ⟨at_rowS gs E.fr (by simp; omega), ?_, E.nd, E.lo, grown_new (grown_drew E.grown) gs (fun q e => by simp at e; omega)⟩
                              have h9 := hset lo
                              rw [hset'] at h9
                              exact ok2.same _ _ _ _ _ h9 (fun x _ => rfl)
                            have HS9 : Hid ((wr.drew.setCell ⟨gi, kk, none⟩ (.int .i64 lo)).heap[bs]? = some (.cells #[.slice (some ⟨cb, coff, none⟩) cn cc, .int .i64 (fz : Int), .int .i64 (tz : Int), .int .i64 hi', .int .i64 lo] 26 (0, 0))) := at_rowS (grown_set wr.drew gi kk (.int .i64 lo)) (unhide hs) (by have := unhide HDJ gi hgF; simp; omega)
                            have HR9 : Hid (leftRow hi' lo fz (m + 1) (Y.getD cj []) = some (row.set kk lo)) := by
                              have := leftRow_next (unhide hR) (by rw [unhide HKK, unhide HZ]; exact hzw)
                              rw [unhide HKK] at this
                              exact this
                            subst hzw
                            clear hset hset' hf hs hR HZ
                            go_wp2
                            refine wp_region_noPanic ?_
                            have d0 : wr.drew.cell? ⟨bs, 0, none⟩ = _ := s0
                            have d4 : wr.drew.cell? ⟨bs, 4, none⟩ = _ := s4
                            have dc : wr.drew.cell? ⟨cb, coff + j, none⟩ = _ := hcc'
                            have dq0 : wr.drew.cell? ⟨g, cj, none⟩ = _ := q0
                            have dq1 : wr.drew.cell? ⟨gi, kk, none⟩ = _ := q1
                            have dqf : wr.drew.frozen? ⟨gi, kk, none⟩ = false := qf
                            clear s0 s1 s2 s3 s4 hcc' q0 q1 qf
                            refine wp_region_tailL 20 (fun W => W = wr.drew) [true, true, true, true, true, true, true, true, true, true, true, false, false] (by kernel_rfl) (fun _ _ _ _ _ h => h) rfl (by decide) (by kernel_rfl) rfl ?_
                            generalize wr.drew = wd' at *
                            iterate 11
                              refine heldF_take (v := ?_) (Or.inl ⟨by rfl, ?_⟩) ?_
                              rotate_left 1
                              · intro w' hSw
                                subst hSw
                                go_simp
                                try with_reducible rfl
                              simp only [Act.put, List.setIfInBounds_toArray, List.set_cons_zero, List.set_cons_succ]
                            refine heldF_skip (heldF_skip (heldF_nil ?_))
                            refine tailL_skip (tailL_skip (tailL_skip (tailL_skip (tailL_skip (tailL_skip (tailL_skip (tailL_skip (tailL_skip (tailL_skip (tailL_skip ?_))))))))))
                            refine tailL_step (fun K hK => ?_)
                            go_simp
                            refine hK.out _ _ (.inr rfl) ?_
                            clear hK K
                            try simp only [Act.put, List.setIfInBounds_toArray, List.set_cons_zero, List.set_cons_succ]
                            refine tailL_step (fun K hK => ?_)
                            go_simp
                            refine hK.out _ _ (.inl rfl) (tailL_nil (NoPanic.normal ?_))
                            clear hK K d0 d4 dc dq0 dq1 dqf
                            generalize wd'.setCell ⟨gi, kk, none⟩ (.int .i64 lo) = w9 at *
                            go_wp2
                            go_roundw
                            case rel => exact ⟨m + 1, row.set kk lo, by omega, by have := unhide HKK; go_num, HF9, HS9, HR9⟩
                            case measure => have := unhide HKK; simp [intOf]; omega
                          · have hne : (z != hi') = true := by simp [hzw]
                            have e := unhide FL4 (leftRow_fails (unhide hR) (by rw [unhide HKK, unhide HZ]; exact hzw) hml)
                            have HEM := hide (unhide EMP wr (unhide hf).grown e)
                            clear hzw hset hset'
                            go_wp2
                            refine bodyPost_ret (v := .tuple #[.slice (some ⟨wr.heap.size, 0, none⟩) 0 0, .bool false]) (by simp [results, Try.results43, go_sem]) rfl ?_
                            exact unhide HEM
                        · obtain rfl : m = tz + 1 - fz := by omega
                          have e9 : fz + (tz + 1 - fz) = tz + 1 := by omega
                          rw [e9]
                          have hd3 : decide (((tz + 1 : Nat) : Int) ≤ (tz : Int)) = false := decide_eq_false (by omega)
                          have HC9 := hide (unhide NX4 row (unhide hR))
                          clear e9
                          go_wp2
                          go_roundw
                          case rel => exact ⟨j + 1, Y.set cj row, by omega, by go_num, hf, hs, HC9⟩
                          case measure => simp [intOf]; omega
                    · obtain rfl : j = cn := by omega
                      have hd2 : decide ((j : Int) < (j : Int)) = false := decide_eq_false (by omega)
                      have HA9 : Hid (leftAll true n (S.take (i + 1)) (nothing n) = some Y) := unhide NXT Y (by have h9 := unhide hY; rw [← unhide HCN, List.take_length] at h9; exact h9)
                      go_wp2
                      go_roundw
                      case rel => exact ⟨i + 1, Y, by omega, by go_num, hf, HA9⟩
                      case measure => simp [intOf]; omega
            · obtain rfl : i = S.length := by omega
              have hd2 : decide ((S.length : Int) < (S.length : Int)) = false := decide_eq_false (by omega)
              rw [List.take_length] at hX
              have eX : leftO true n S = some X := by rw [unhide LE]; exact unhide hX
              have ebt : b = true ∧ L = X := ⟨by rw [← unhide HB, eX]; rfl, by rw [← unhide HL, leftG, eX]; rfl⟩
              obtain ⟨rfl, rfl⟩ := ebt
              go_wp2
              refine bodyPost_ret (v := .tuple #[.slice uo n uc, .bool true]) (by simp [results, Try.results43, go_sem]) rfl ?_
              exact ⟨_, F, rfl, (unhide hf).own, (unhide hf).nd, fun g hg => by have := (unhide hf).lo g hg; omega, (unhide hf).grown⟩
    · have hgt : decide ((S.length : Int) > 40) = true := decide_eq_true (by omega)
      have hlt : (40 : Int) < (S.length : Int) := by omega
      obtain ⟨rfl, rfl⟩ := unhide NIL (by unfold leftO; rw [decide_eq_false h40]; rfl)
      clear h40
      go_wp2
      refine bodyPost_ret (v := .tuple #[.slice (some ⟨w.heap.size + 1, 0, none⟩) 0 0, .bool false]) (by simp [results, Try.results43, go_sem]) rfl ?_
      exact ⟨_, _, rfl, (unhide HL3).own, (unhide HL3).nd, fun g hg => by have := (unhide HL3).lo g hg; omega, (unhide HL3).grown⟩

end Go.Proofs.Ytfgglainjaplgaa

namespace Go.Proofs.Ytfgglainjaplgaa

/-- How many blocks a component's plane has beside and below one another, and how many of them are needed. -/
def bwG (wd : Int) (n : Nat) (C : Nat → Nat → Int) (c : Nat) : Nat := (upI wd (8 * mostA 1 C 1 n) * C c 1).toNat
def bhG (ht : Int) (n : Nat) (C : Nat → Nat → Int) (c : Nat) : Nat := (upI ht (8 * mostA 1 C 2 n) * C c 2).toNat
def nwG (wd : Int) (n : Nat) (C : Nat → Nat → Int) (c : Nat) : Nat := (upI (upI (wd * C c 1) (mostA 1 C 1 n)) 8).toNat
def nhG (ht : Int) (n : Nat) (C : Nat → Nat → Int) (c : Nat) : Nat := (upI (upI (ht * C c 2) (mostA 1 C 2 n)) 8).toNat
theorem up_le32 {n d : Int} (hn : 1 ≤ n ∧ n ≤ 256) (hd : 1 ≤ d ∧ d ≤ 4) : 1 ≤ upI n (8 * d) ∧ upI n (8 * d) ≤ 32 := by
  unfold upI
  rw [Int.tdiv_eq_ediv_of_nonneg (by omega)]
  have : d = 1 ∨ d = 2 ∨ d = 3 ∨ d = 4 := by omega
  rcases this with rfl | rfl | rfl | rfl <;> omega
theorem mul_in {a b : Int} (ha : 1 ≤ a ∧ a ≤ 32) (hb : 1 ≤ b ∧ b ≤ 4) : 1 ≤ a * b ∧ a * b ≤ 128 := by
  obtain ⟨b0, b1⟩ := hb
  have : b = 1 ∨ b = 2 ∨ b = 3 ∨ b = 4 := by omega
  rcases this with rfl | rfl | rfl | rfl <;> omega
structure Dims (wd ht : Int) (n : Nat) (C : Nat → Nat → Int) (c : Nat) : Prop where
  bw : upI wd (8 * mostA 1 C 1 n) * C c 1 = (bwG wd n C c : Int)
  bh : upI ht (8 * mostA 1 C 2 n) * C c 2 = (bhG ht n C c : Int)
  bw1 : 1 ≤ bwG wd n C c ∧ bwG wd n C c ≤ 128
  bh1 : 1 ≤ bhG ht n C c ∧ bhG ht n C c ≤ 128
  sw : 1 ≤ upI (wd * C c 1) (mostA 1 C 1 n) ∧ upI (wd * C c 1) (mostA 1 C 1 n) ≤ 1024
  sh : 1 ≤ upI (ht * C c 2) (mostA 1 C 2 n) ∧ upI (ht * C c 2) (mostA 1 C 2 n) ≤ 1024
  nw : upI (upI (wd * C c 1) (mostA 1 C 1 n)) 8 = (nwG wd n C c : Int)
  nh : upI (upI (ht * C c 2) (mostA 1 C 2 n)) 8 = (nhG ht n C c : Int)
  nw1 : nwG wd n C c ≤ 1024
  nh1 : nhG ht n C c ≤ 1024
theorem side_mul {a b : Int} (ha : 1 ≤ a ∧ a ≤ 256) (hb : 1 ≤ b ∧ b ≤ 4) : 1 ≤ a * b ∧ a * b ≤ 1024 := by
  obtain ⟨b0, b1⟩ := hb
  have : b = 1 ∨ b = 2 ∨ b = 3 ∨ b = 4 := by omega
  rcases this with rfl | rfl | rfl | rfl <;> omega
theorem dims_of {wd ht : Int} {n : Nat} {C : Nat → Nat → Int} (hg : Geo wd ht n C (mostA 1 C 1 n) (mostA 1 C 2 n)) (c : Nat) (hc : c < n) : Dims wd ht n C c := by
  have h1 := mul_in (up_le32 hg.wd hg.hb) (hg.ch c hc)
  have h2 := mul_in (up_le32 hg.ht hg.vb) (hg.cv c hc)
  have h3 := side_mul hg.wd (hg.ch c hc)
  have h4 := side_mul hg.ht (hg.cv c hc)
  have h5 := upI_pos h3.1 hg.hb.1
  have h6 := upI_pos h4.1 hg.vb.1
  have h7 := upI_pos h5.1 (show (1 : Int) ≤ 8 by omega)
  have h8 := upI_pos h6.1 (show (1 : Int) ≤ 8 by omega)
  refine ⟨?_, ?_, ?_, ?_, ⟨h5.1, by omega⟩, ⟨h6.1, by omega⟩, ?_, ?_, ?_, ?_⟩
  · unfold bwG; omega
  · unfold bhG; omega
  · unfold bwG; omega
  · unfold bhG; omega
  · unfold nwG; omega
  · unfold nhG; omega
  · unfold nwG; omega
  · unfold nhG; omega

/-- Blocks of noughts, and what is so of coefficients that are ok. -/
def noughts : List Int := List.replicate 64 0
def emptyG (n : Nat) (bn : Nat → Nat) : List (List (List Int)) := (List.range n).map fun c => List.replicate (bn c) noughts
def emptyF (b : Bool) (wd ht : Int) (n : Nat) (C : Nat → Nat → Int) : List (List (List Int)) := if b then emptyG n (fun c => bwG wd n C c * bhG ht n C c) else []
def zeroB (xs : List Int) : Bool := xs.all (fun x => x == 0)
def hidB (bw nw nh k : Nat) : Bool := decide (nh ≤ k / bw) || decide (nw ≤ k % bw)
def blockB (hid : Bool) (xs : List Int) : Bool := levB (-16383) 16383 xs && (!hid || zeroB xs)
def planeB (bw bh nw nh : Nat) (P : List (List Int)) : Bool := decide (P.length = bw * bh) && (List.range P.length).all (fun k => blockB (hidB bw nw nh k) (P.getD k []))
def coefsOkB (wd ht : Int) (n : Nat) (C : Nat → Nat → Int) (X : List (List (List Int))) : Bool := decide (X.length = n) && (List.range X.length).all (fun c => planeB (bwG wd n C c) (bhG ht n C c) (nwG wd n C c) (nhG ht n C c) (X.getD c []))
def coefsOkF (b : Bool) (wd ht : Int) (n : Nat) (C : Nat → Nat → Int) (X : List (List (List Int))) : Bool := b && coefsOkB wd ht n C X
/-- Where a place lies in its plane, if it is one. -/
def placeO (wd ht : Int) (n : Nat) (C : Nat → Nat → Int) (co ro cl : Int) : Option Nat :=
  if 0 ≤ co ∧ co ≤ (n : Int) - 1 then (if (0 ≤ ro ∧ ro ≤ (bhG ht n C co.toNat : Int) - 1) ∧ 0 ≤ cl ∧ cl ≤ (bwG wd n C co.toNat : Int) - 1 then some (ro.toNat * bwG wd n C co.toNat + cl.toNat) else none) else none
def hiddenI (wd ht : Int) (n : Nat) (C : Nat → Nat → Int) (c : Nat) (ro cl : Int) : Bool := decide ((nhG ht n C c : Int) ≤ ro) || decide ((nwG wd n C c : Int) ≤ cl)
def blockAtF (b : Bool) (wd ht : Int) (n : Nat) (C : Nat → Nat → Int) (X : List (List (List Int))) (co ro cl : Int) : List Int :=
  if coefsOkF b wd ht n C X then (match placeO wd ht n C co ro cl with | some k => (X.getD co.toNat []).getD k [] | none => []) else []
def withBlockF (b : Bool) (wd ht : Int) (n : Nat) (C : Nat → Nat → Int) (X : List (List (List Int))) (co ro cl : Int) (bl : List Int) : List (List (List Int)) :=
  if coefsOkF b wd ht n C X && levB (-16383) 16383 bl then (match placeO wd ht n C co ro cl with | some k => if hiddenI wd ht n C co.toNat ro cl then [] else X.set co.toNat ((X.getD co.toNat []).set k bl) | none => []) else []

end Go.Proofs.Ytfgglainjaplgaa

namespace Go.Proofs.Ytfgglainjaplgaa
open Go.RowKit

theorem zero_take {xs : List Int} {k : Nat} (hk : k < xs.length) : zeroB (xs.take (k + 1)) = (zeroB (xs.take k) && (xs.getD k 0 == 0)) := by
  unfold zeroB
  rw [List.take_succ_eq_append_getElem hk, List.all_append]
  simp [hk]
theorem zero_no {xs : List Int} {k : Nat} (hk : k < xs.length) (h : (xs.getD k 0 == 0) = false) : zeroB xs = false := by
  cases hx : zeroB xs with
  | false => rfl
  | true =>
    have e : xs.getD k 0 = xs[k] := by simp [hk]
    rw [e, List.all_eq_true.1 hx _ (List.getElem_mem hk)] at h
    exact h

end Go.Proofs.Ytfgglainjaplgaa

namespace Go.Proofs.Ytfgglainjaplgaa
open Go.RowKit

set_option maxRecDepth 20000 in
set_option maxHeartbeats 1600000 in
theorem specLeftOf (p wd ht rs : Int) (fo : Option Addr) (n fc : Nat) (C : Nat → Nat → Int) (w : World) (hr : RdC w fo n C) (hn : n ≤ 4194304) (v : Value) (S : List Scn) (hS : RdSs w v S) (hcs : ∀ a ∈ S, a.cs.length ≤ 4194304) (fb : Bool) (HFB : Hid (frameB p wd ht rs n C = fb)) (L : List (List Int)) (HL : Hid (leftG fb n S = L)) :
    Calls Try.prog 19 #[.agg #[.int .i64 p, .int .i64 wd, .int .i64 ht, .int .i64 rs, .slice fo n fc], v] w fun e w' => ∃ u F, e = .returned u ∧ Ow2 w' u L F ∧ F.Nodup ∧ (∀ g ∈ F, w.heap.size ≤ g) ∧ w.grownBy w' none := by
  have G0 : w.grownBy (w.alloc (.cells #[.int .i64 p, .int .i64 wd, .int .i64 ht, .int .i64 rs, .slice fo n fc] 33)) none := World.grownBy_alloc _ _ _
  obtain ⟨b, HB⟩ : ∃ b, Hid ((leftO fb n S).isSome = b) := ⟨_, rfl⟩
  have HC := hide (specLeft p wd ht rs fo n fc C _ (hr.grown G0) hn v S (RdSs.st _ _ _ _ hS G0) hcs fb HFB L b HL HB)
  have HG := hide G0
  clear hr hS hcs G0
  go_enter Try.func19, Try.ntmps19
  go_wp2_with fail
  refine (unhide HC).mono ?_
  rintro e w1 ⟨u, F, rfl, o1, n1, l1, g1⟩
  obtain ⟨uo, uc, rfl⟩ := o1.form
  have HF : Hid (Ow2 w1 (.slice uo L.length uc) L F ∧ F.Nodup ∧ (∀ g ∈ F, w.heap.size ≤ g) ∧ w.grownBy w1 none) := ⟨o1, n1, fun g hg => by have := l1 g hg; simp at this; omega, grown_trans (unhide HG) g1⟩
  clear o1 n1 l1 g1 HC
  go_wp2
  go_ret
  exact ⟨_, F, rfl, unhide HF⟩

theorem left_short {fb : Bool} {n : Nat} {S : List Scn} {C : Nat → Nat → Int} {p wd ht rs : Int} (HFB : frameB p wd ht rs n C = fb) : (leftG fb n S).length ≤ 4 ∧ ∀ r ∈ leftG fb n S, r.length ≤ 64 := by
  unfold leftG
  cases h : leftO fb n S with
  | none => exact ⟨by simp, fun r hr => by simp at hr⟩
  | some X =>
    have h64 := leftO_rows h
    have hfb : fb = true := by
      unfold leftO at h
      cases fb with
      | true => rfl
      | false => simp at h
    subst hfb
    refine ⟨by show X.length ≤ 4; rw [h64.1]; exact (geo_of HFB).n4, fun r hr => ?_⟩
    obtain ⟨c, hc, rfl⟩ := List.mem_iff_getElem.1 (show r ∈ X from hr)
    have e : X.getD c [] = X[c] := by simp [hc]
    have := h64.2 c (by rw [← h64.1]; exact hc)
    rw [e] at this
    omega

end Go.Proofs.Ytfgglainjaplgaa

namespace Go.Proofs.Ytfgglainjaplgaa
open Go.RowKit

set_option maxRecDepth 20000 in
set_option maxHeartbeats 1600000 in
theorem toScanC : ToC 24 RdSc OwSc szSc := by
  intro w u a hq hs
  obtain ⟨v, rfl, hv⟩ := hq
  obtain ⟨cs, fr, to, hi, lo⟩ := a
  obtain ⟨vo, vc, rfl, hr⟩ := id hv
  clear hr
  dsimp only at hv ⊢
  obtain ⟨vn, HVN⟩ : ∃ vn, Hid (cs.length = vn) := ⟨_, rfl⟩
  rw [unhide HVN] at hv ⊢
  obtain ⟨W3, HW3⟩ : ∃ W3, Hid (((w.alloc (.cells #[.slice vo vn vc, .int .i64 fr, .int .i64 to, .int .i64 hi, .int .i64 lo] 45)).alloc (.cells #[.slice none 0 0, .int .i64 0, .int .i64 0, .int .i64 0, .int .i64 0] 26)).alloc (.cells #[.slice none 0 0, .int .i64 0, .int .i64 0, .int .i64 0, .int .i64 0] 26) = W3) := ⟨_, rfl⟩
  have G0 : w.grownBy W3 none := by rw [← unhide HW3]; exact grown_alloc (grown_alloc (grown_alloc (World.grownBy.refl _ _) _) _) _
  have B0 : W3.heap[w.heap.size]? = some (.cells #[.slice vo vn vc, .int .i64 fr, .int .i64 to, .int .i64 hi, .int .i64 lo] 45 (0, 0)) := by
    rw [← unhide HW3]
    exact at_rowS (World.grownBy_alloc _ _ none) (at_rowS (World.grownBy_alloc _ _ none) (heap_alloc_new w _) (by simp)) (by simp)
  have B1 : W3.heap[w.heap.size + 1]? = some (.cells #[.slice none 0 0, .int .i64 0, .int .i64 0, .int .i64 0, .int .i64 0] 26 (0, 0)) := by
    rw [← unhide HW3]
    refine at_rowS (World.grownBy_alloc _ _ none) ?_ (by simp)
    have := heap_alloc_new (w.alloc (.cells #[.slice vo vn vc, .int .i64 fr, .int .i64 to, .int .i64 hi, .int .i64 lo] 45)) (.cells #[.slice none 0 0, .int .i64 0, .int .i64 0, .int .i64 0, .int .i64 0] 26)
    simpa using this
  have B2 : W3.heap[w.heap.size + 1 + 1]? = some (.cells #[.slice none 0 0, .int .i64 0, .int .i64 0, .int .i64 0, .int .i64 0] 26 (0, 0)) := by
    rw [← unhide HW3]
    have := heap_alloc_new ((w.alloc (.cells #[.slice vo vn vc, .int .i64 fr, .int .i64 to, .int .i64 hi, .int .i64 lo] 45)).alloc (.cells #[.slice none 0 0, .int .i64 0, .int .i64 0, .int .i64 0, .int .i64 0] 26)) (.cells #[.slice none 0 0, .int .i64 0, .int .i64 0, .int .i64 0, .int .i64 0] 26)
    simpa using this
  have HTO := hide (toIntSC W3 (.slice vo vn vc) cs (RdI.st .i64 _ _ _ _ hv G0) hs)
  have HB0 := hide B0
  have HB1 := hide B1
  have HB2 := hide B2
  have HG0 := hide G0
  rw [← unhide HW3] at B0
  obtain ⟨c0, c1, c2, c3, c4⟩ := scanCells B0
  clear hv hs G0 B0 B1 B2
  unfold scV
  dsimp only
  go_enter Try.func24, Try.ntmps24
  go_wp2_with fail
  rw [unhide HW3]
  clear HW3 c0 c1 c2 c3 c4
  refine (unhide HTO).mono ?_
  rintro e w4 ⟨u4, F4, rfl, o4, n4, l4, g4⟩
  obtain ⟨o4', rfl⟩ := o4
  obtain ⟨uo, uc, rfl⟩ := own_form o4'
  rw [unhide HVN] at o4' l4 n4 ⊢
  have B0 := at_rowS g4 (unhide HB0) (by simp)
  have B1 := at_rowS g4 (unhide HB1) (by simp)
  have B2 := at_rowS g4 (unhide HB2) (by simp)
  have HS3 : Hid (w.heap.size + 3 ≤ W3.heap.size) := by have := (Array.getElem?_eq_some_iff.1 (unhide HB2)).1; unfold Hid; omega
  have HB1' := hide B1
  have HB2' := hide B2
  obtain ⟨c0, c1, c2, c3, c4⟩ := scanCells B0
  obtain ⟨d0, d1, d2, d3, d4⟩ := scanCells B1
  obtain ⟨e0, e1, e2, e3, e4⟩ := scanCells B2
  have fd : ∀ j, w4.frozen? ⟨w.heap.size + 1, j, none⟩ = false := fun j => frozen_of_row w4 _ j _ _ B1
  have fe : ∀ j, w4.frozen? ⟨w.heap.size + 1 + 1, j, none⟩ = false := fun j => frozen_of_row w4 _ j _ _ B2
  have q0 := fd 0
  have q1 := fd 1
  have q2 := fd 2
  have q3 := fd 3
  have q4 := fd 4
  have r0 := fe 0
  have r1 := fe 1
  have r2 := fe 2
  have r3 := fe 3
  have r4 := fe 4
  have HO4 := hide o4'
  have HL4 := hide l4
  have HN4 := hide n4
  have HG4 := hide (grown_trans (unhide HG0) g4)
  have HS4 := hide g4.size
  clear B0 B1 B2 o4' l4 n4 g4 fd fe HB0 HB1 HB2 HG0 HTO
  go_wp2
  have G5 := grown_trans (grown_trans (grown_trans (grown_trans (grown_set w4 (w.heap.size + 1 + 1) 0 (.slice uo vn uc)) (grown_set _ (w.heap.size + 1 + 1) 1 (.int .i64 fr))) (grown_set _ (w.heap.size + 1 + 1) 2 (.int .i64 to))) (grown_set _ (w.heap.size + 1 + 1) 3 (.int .i64 hi))) (grown_set _ (w.heap.size + 1 + 1) 4 (.int .i64 lo))
  obtain ⟨X5, hX5⟩ : ∃ X5, ((((w4.setCell ⟨w.heap.size + 1 + 1, 0, none⟩ (.slice uo vn uc)).setCell ⟨w.heap.size + 1 + 1, 1, none⟩ (.int .i64 fr)).setCell ⟨w.heap.size + 1 + 1, 2, none⟩ (.int .i64 to)).setCell ⟨w.heap.size + 1 + 1, 3, none⟩ (.int .i64 hi)).setCell ⟨w.heap.size + 1 + 1, 4, none⟩ (.int .i64 lo) = X5 := ⟨_, rfl⟩
  rw [hX5] at G5 ⊢
  have E1 := at_rowS G5 (unhide HB1') (by simp)
  have D0 := heap_setCell_same X5 (w.heap.size + 1) 0 _ _ (.slice uo vn uc) E1
  have D1 := heap_setCell_same _ (w.heap.size + 1) 1 _ _ (.int .i64 fr) D0
  have D2 := heap_setCell_same _ (w.heap.size + 1) 2 _ _ (.int .i64 to) D1
  have D3 := heap_setCell_same _ (w.heap.size + 1) 3 _ _ (.int .i64 hi) D2
  have D4 := heap_setCell_same _ (w.heap.size + 1) 4 _ _ (.int .i64 lo) D3
  simp only [List.setIfInBounds_toArray, List.set_cons_zero, List.set_cons_succ] at D4
  have G10 := grown_trans (grown_trans (grown_trans (grown_trans (grown_set X5 (w.heap.size + 1) 0 (.slice uo vn uc)) (grown_set _ (w.heap.size + 1) 1 (.int .i64 fr))) (grown_set _ (w.heap.size + 1) 2 (.int .i64 to))) (grown_set _ (w.heap.size + 1) 3 (.int .i64 hi))) (grown_set _ (w.heap.size + 1) 4 (.int .i64 lo))
  obtain ⟨X10, hX10⟩ : ∃ X10, ((((X5.setCell ⟨w.heap.size + 1, 0, none⟩ (.slice uo vn uc)).setCell ⟨w.heap.size + 1, 1, none⟩ (.int .i64 fr)).setCell ⟨w.heap.size + 1, 2, none⟩ (.int .i64 to)).setCell ⟨w.heap.size + 1, 3, none⟩ (.int .i64 hi)).setCell ⟨w.heap.size + 1, 4, none⟩ (.int .i64 lo) = X10 := ⟨_, rfl⟩
  rw [hX10] at D4 G10 ⊢
  obtain ⟨s0, s1, s2, s3, s4⟩ := scanCells D4
  clear hX5 hX10 D0 D1 D2 D3 E1
  have hb := fun g e => ((unhide HO4).lt g e).1
  have hbl : ∀ g, (Value.slice uo vn uc).ownBlock = some g → W3.heap.size ≤ g := fun g e => unhide HL4 g (mem_blk.2 e)
  have o5 := own_beneath (unhide HO4) G5 (fun a b h1 h2 => by have := hbl a h1; have := unhide HS3; simp at h2; omega)
  have o10 := own_beneath o5 G10 (fun a b h1 h2 => by have := hbl a h1; have := unhide HS3; simp at h2; omega)
  refine bodyPost_ret (v := .agg #[.slice uo vn uc, .int .i64 fr, .int .i64 to, .int .i64 hi, .int .i64 lo]) (by simp [results, Try.results24, go_sem, s0, s1, s2, s3, s4]) rfl ?_
  refine ⟨_, _, rfl, ⟨_, rfl, ?_, rfl⟩, blk_nodup _, fun g hg => ?_, grown_new (grown_new (unhide HG4) G5 (fun k e => by simp at e; omega)) G10 (fun k e => by simp at e; omega)⟩
  · rw [unhide HVN]; exact own_base o10 (Nat.zero_le _)
  · have := hbl g (mem_blk.1 hg); have := unhide HS3; omega

theorem info_scan : (Try.prog.info? 26).map (fun i => (i.zero, i.size, i.bytes)) = some (some (.agg #[.slice none 0 0, .int .i64 0, .int .i64 0, .int .i64 0, .int .i64 0]), 5, 56) := by kernel_rfl

def five (v a b c d : Value) (q : Nat) : Value := if q = 0 then v else if q = 1 then a else if q = 2 then b else if q = 3 then c else d
theorem own5 {w : World} {g cap n base : Nat} {e : TypeId} {U : Nat → Nat → Value} (h : w.ownsRow base e 5 (.slice (some ⟨g, 0, none⟩) n cap) n (rowsK n 5 U)) (i : Nat) (v a b c d : Value) :
    (((((w.setCell ⟨g, i * 5, none⟩ v).setCell ⟨g, i * 5 + 1, none⟩ a).setCell ⟨g, i * 5 + 2, none⟩ b).setCell ⟨g, i * 5 + 3, none⟩ c).setCell ⟨g, i * 5 + 4, none⟩ d).ownsRow base e 5 (.slice (some ⟨g, 0, none⟩) n cap) n (rowsK n 5 (fun p q => if p = i then five v a b c d q else U p q)) := by
  have s0 := (h.stored (i * 5 + 0) v).1
  rw [rowsK_set n 5 U i 0 v (by omega)] at s0
  have s1 := (s0.stored (i * 5 + 1) a).1
  rw [rowsK_set n 5 _ i 1 a (by omega)] at s1
  have s2 := (s1.stored (i * 5 + 2) b).1
  rw [rowsK_set n 5 _ i 2 b (by omega)] at s2
  have s3 := (s2.stored (i * 5 + 3) c).1
  rw [rowsK_set n 5 _ i 3 c (by omega)] at s3
  have s4 := (s3.stored (i * 5 + 4) d).1
  rw [rowsK_set n 5 _ i 4 d (by omega)] at s4
  rw [Nat.add_zero] at s4
  have e9 : rowsK n 5 (fun p q => if p = i then five v a b c d q else U p q) = rowsK n 5 (fun p q => if p = i ∧ q = 4 then d else if p = i ∧ q = 3 then c else if p = i ∧ q = 2 then b else if p = i ∧ q = 1 then a else if p = i ∧ q = 0 then v else U p q) := by
    apply rowsK_congr
    intro p q _ hq
    by_cases ep : p = i
    · subst ep
      have : q = 0 ∨ q = 1 ∨ q = 2 ∨ q = 3 ∨ q = 4 := by omega
      rcases this with rfl | rfl | rfl | rfl | rfl <;> simp [five]
    · simp [ep]
  rw [e9]
  exact s4
theorem fillZ {α : Type} (z : α) (a : List α) (i : Nat) (h : i < a.length) : (a.take i ++ List.replicate (a.length - i) z).set i a[i] = a.take (i + 1) ++ List.replicate (a.length - (i + 1)) z := by
  rw [List.set_append_right _ _ (by simp; omega)]
  have e1 : i - (a.take i).length = 0 := by simp; omega
  rw [e1, show a.length - i = (a.length - (i + 1)) + 1 by omega, List.replicate_succ, List.set_cons_zero, List.take_succ_eq_append_getElem h, List.append_assoc]
  rfl

end Go.Proofs.Ytfgglainjaplgaa

namespace Go.Proofs.Ytfgglainjaplgaa
open Go.RowKit

/-- A script while it is made, beside the frame and the list of all components. -/
structure Sf (w wr : World) (fx : Array Value) (v av : Value) (X : List Scn) (A : List Int) (F : List Nat) : Prop where
  own : OwSs wr v X F
  nd : F.Nodup
  lo : ∀ g ∈ F, w.heap.size + 1 ≤ g
  al : wr.ownsRow (w.heap.size + 1) 3 1 av A.length (A.map (Value.int .i64))
  na : ∀ g, av.ownBlock = some g → g ∉ F
  fr : wr.heap[w.heap.size]? = some (.cells fx 33 (0, 0))
  grown : w.grownBy wr none
theorem Sf.new {w wr w' : World} {fx : Array Value} {v av : Value} {X : List Scn} {A : List Int} {F : List Nat} (h : Sf w wr fx v av X A F) (g : wr.grownBy w' none) : Sf w w' fx v av X A F :=
  ⟨OwSs.ok.keep h.own g, h.nd, h.lo, own_grown h.al g, h.na, at_rowS g h.fr (by simp), grown_trans h.grown g⟩
theorem Sf.size {w wr : World} {fx : Array Value} {v av : Value} {X : List Scn} {A : List Int} {F : List Nat} (h : Sf w wr fx v av X A F) : w.heap.size + 1 ≤ wr.heap.size := (Array.getElem?_eq_some_iff.1 h.fr).1
theorem Sf.blkF {w wr : World} {fx : Array Value} {v av : Value} {X : List Scn} {A : List Int} {F : List Nat} (h : Sf w wr fx v av X A F) : ∀ g, v.ownBlock = some g → g ∈ F := fun g e => by
  obtain ⟨U, Fs, _, _, _, e9⟩ := h.own
  rw [e9]; simp [mem_blk.2 e]
/-- Scans come behind. -/
theorem Sf.push {w wr wn w' : World} {fx : Array Value} {v v' av : Value} {X R : List Scn} {A : List Int} {F F' G : List Nat} (h : Sf w wr fx v av X A F) (gn : wr.grownBy wn none) (o : OwSs w' v' R F') (nd : F'.Nodup) (hm : ∀ x ∈ F', x ∈ F ∨ x ∈ G ∨ wn.heap.size ≤ x) (hG : ∀ x ∈ G, wr.heap.size ≤ x) (g : Wr (blk v) wn w') : Sf w w' fx v' av R A F' := by
  have hs := h.size
  have gs := gn.size
  have hr : wn.grownBy w' v.ownBlock := ⟨g.os, g.tape, g.output, g.size, fun k hk hne => g.block k hk (fun e => hne (mem_blk.1 e).symm)⟩
  have hk := h.new gn
  refine ⟨o, nd, fun x hx => ?_, own_beneath hk.al hr (fun p q h1 h2 e => by subst e; exact h.na p h1 (h.blkF p h2)), fun x hx hx2 => ?_, at_rowS hr hk.fr (fun e => by have := h.lo _ (h.blkF _ e); omega), grown_new hk.grown hr (fun k e => by have := h.lo _ (h.blkF _ e); omega)⟩
  · rcases hm x hx with h1 | h1 | h1
    · exact h.lo x h1
    · have := hG x h1; omega
    · omega
  · have hl := (h.al.lt x hx).2
    rcases hm x hx2 with h1 | h1 | h1
    · exact h.na x hx h1
    · have := hG x h1; omega
    · omega

theorem row1 (u a b c d : Value) : (#[u, a, b, c, d] : Array Value).toList = rowsK 1 5 (fun _ => five u a b c d) := rfl

theorem Sf.more {w wr w' : World} {fx : Array Value} {v av av' : Value} {X : List Scn} {A A' : List Int} {F : List Nat} (h : Sf w wr fx v av X A F) (o : w'.ownsRow (w.heap.size + 1) 3 1 av' A'.length (A'.map (Value.int .i64))) (g : wr.grownBy w' av.ownBlock) (hat : av'.ownBlock = av.ownBlock ∨ ∀ g, av'.ownBlock = some g → wr.heap.size ≤ g) : Sf w w' fx v av' X A' F := by
  refine ⟨OwSs.ok.wr h.own (Wr.ofRow (F := blk av) g (fun x e => mem_blk.2 e)) (fun x hx e => h.na x (mem_blk.1 e) hx), h.nd, h.lo, o, fun x hx hx2 => ?_, at_rowS g h.fr (fun e => by have := (h.al.lt _ e).1; omega), grown_new h.grown g (fun k e => by have := (h.al.lt _ e).1; omega)⟩
  rcases hat with h1 | h1
  · exact h.na x (by rw [← h1]; exact hx) hx2
  · have h2 := h1 x hx
    have h3 := OwSs.ok.lt _ _ _ _ h.own x hx2
    omega
theorem allC_next (n i : Nat) (h : i < n) : (allC n).take i ++ [(i : Int)] = (allC n).take (i + 1) := by
  have hl : i < (allC n).length := by simp [allC]; exact h
  rw [List.take_succ_eq_append_getElem hl]
  simp [allC]
theorem eachC_next (n i : Nat) (h : i < n) (f : Int → List Scn) : ((allC n).take i).flatMap f ++ f (i : Int) = ((allC n).take (i + 1)).flatMap f := by
  rw [← allC_next n i h, List.flatMap_append]
  simp

set_option maxRecDepth 20000 in
set_option maxHeartbeats 3200000 in
theorem specScript01 (p wd ht rs : Int) (fo : Option Addr) (n fc : Nat) (C : Nat → Nat → Int) (w : World) (hr : RdC w fo n C) (kind : Int) (fb : Bool) (HFB : Hid (frameB p wd ht rs n C = fb)) (L : List Scn) (HL : Hid (scriptG fb n kind = L)) (hk2 : Hid (kind ≠ 2)) :
    Calls Try.prog 10 #[.agg #[.int .i64 p, .int .i64 wd, .int .i64 ht, .int .i64 rs, .slice fo n fc], .int .i64 kind] w fun e w' => ∃ u F, e = .returned u ∧ OwSs w' u L F ∧ F.Nodup ∧ (∀ g ∈ F, w.heap.size ≤ g) ∧ w.grownBy w' none := by
  have hn4 : fb = true → n ≤ 4 := fun e => by have := unhide HFB; rw [e] at this; exact (geo_of this).n4
  obtain ⟨W2, HW2⟩ : ∃ W2, Hid ((w.alloc (.cells #[.int .i64 p, .int .i64 wd, .int .i64 ht, .int .i64 rs, .slice fo n fc] 33)).alloc (.cells #[] 26) = W2) := ⟨_, rfl⟩
  have G0 : w.grownBy W2 none := by rw [← unhide HW2]; exact grown_alloc (grown_alloc (World.grownBy.refl _ _) _) _
  have B0 : W2.heap[w.heap.size]? = some (.cells #[.int .i64 p, .int .i64 wd, .int .i64 ht, .int .i64 rs, .slice fo n fc] 33 (0, 0)) := by
    rw [← unhide HW2]
    exact at_rowS (World.grownBy_alloc _ _ none) (heap_alloc_new w _) (by simp)
  have O0 : W2.ownsRow (w.heap.size + 1) 26 5 (.slice (some ⟨w.heap.size + 1, 0, none⟩) 0 0) 0 [] := by
    rw [← unhide HW2]
    have := World.ownsRow_lit (w.alloc (.cells #[.int .i64 p, .int .i64 wd, .int .i64 ht, .int .i64 rs, .slice fo n fc] 33)) (e := 26) (size := 5) (base := w.heap.size + 1) #[] 0 (by simp) (by unfold maxLen; omega) rfl
    simpa using this
  have OS : OwSs W2 (.slice (some ⟨w.heap.size + 1, 0, none⟩) 0 0) [] [w.heap.size + 1] := ⟨fun _ _ => .slice none 0 0, [], rfl, own_base O0 (Nat.zero_le _), fun i hi => absurd hi (by simp), rfl⟩
  have HFR := hide (specFrameOk p wd ht rs fo n fc C W2 (hr.grown G0) fb HFB)
  have HB0 := hide B0
  have HG0 := hide G0
  have HOS := hide OS
  rw [← unhide HW2] at B0
  obtain ⟨f0, f1, f2, f3, f4⟩ := frameCells' B0
  have HN4 := hide hn4
  clear hr G0 B0 O0 OS hn4
  go_enter Try.func10, Try.ntmps10
  go_wp2_with fail
  rw [unhide HW2]
  clear HW2 f0 f1 f2 f3 f4
  refine (unhide HFR).mono ?_
  rintro e w3 ⟨rfl, g3⟩
  have HG3 := hide (grown_trans (unhide HG0) g3)
  have HO3 := hide (OwSs.ok.keep (unhide HOS) g3)
  have HB3 := hide (at_rowS g3 (unhide HB0) (by simp))
  have HNIL : Hid (∀ W, w3.grownBy W none → L = [] → OwSs W (.slice (some ⟨w.heap.size + 1, 0, none⟩) 0 0) L [w.heap.size + 1] ∧ w.grownBy W none) := fun W g e => by subst e; exact ⟨OwSs.ok.keep (unhide HO3) g, grown_trans (unhide HG3) g⟩
  clear g3 HFR HG0 HOS HB0
  cases fb with
  | false =>
    have e : L = [] := by rw [← unhide HL]; rfl
    have HF := hide (unhide HNIL w3 (World.grownBy.refl _ _) e)
    go_wp2
    go_ret
    exact ⟨_, _, rfl, (unhide HF).1, by simp, fun g hg => by simp at hg; omega, (unhide HF).2⟩
  | true =>
    have hn := unhide HN4 rfl
    obtain ⟨b, HB⟩ : ∃ b, Hid (decide (0 ≤ kind ∧ kind ≤ 2) = b) := ⟨_, rfl⟩
    go_wp2_with fail
    refine (between kind 0 2 b HB w3).mono ?_
    rintro e w3 ⟨rfl, rfl⟩
    cases b with
    | false =>
      have e : L = [] := by
        have := of_decide_eq_false (unhide HB)
        rw [← unhide HL, scriptG, if_pos rfl, if_neg (by omega), if_neg (by omega), if_neg (unhide hk2)]
      have HF := hide (unhide HNIL w3 (World.grownBy.refl _ _) e)
      go_wp2
      go_ret
      exact ⟨_, _, rfl, (unhide HF).1, by simp, fun g hg => by simp at hg; omega, (unhide HF).2⟩
    | true =>
      have hk := of_decide_eq_true (unhide HB)
      have HS0 : Hid (Sf w (w3.alloc (.cells #[] 3)) #[.int .i64 p, .int .i64 wd, .int .i64 ht, .int .i64 rs, .slice fo n fc] (.slice (some ⟨w.heap.size + 1, 0, none⟩) 0 0) (.slice (some ⟨w3.heap.size, 0, none⟩) 0 0) [] ((allC n).take 0) [w.heap.size + 1]) := by
        have gA : w3.grownBy (w3.alloc (.cells #[] 3)) none := World.grownBy_alloc _ _ _
        have hlt := OwSs.ok.lt _ _ _ _ (unhide HO3) (w.heap.size + 1) (by simp)
        refine ⟨OwSs.ok.keep (unhide HO3) gA, by simp, fun g hg => by simp at hg; omega, ?_, fun g e hx => ?_, at_rowS gA (unhide HB3) (by simp), grown_trans (unhide HG3) gA⟩
        · exact World.ownsRow_lit w3 #[] 0 (by omega) (by unfold maxLen; omega) rfl
        · have e9 : w3.heap.size = g := Option.some.inj e
          simp at hx; omega
      clear HNIL HG3 HO3 HB3 HFB HN4
      have c4 : (w3.alloc (.cells #[] 3)).cell? ⟨w.heap.size, 4, none⟩ = some (.slice fo n fc) := (frameCells' (unhide HS0).fr).2.2.2.2
      go_wp2
      clear c4
      go_loopw [6, 7] (fun av iv wr => ∃ (i : Nat) (ao : Option Addr) (ac : Nat) (F : List Nat), i ≤ n ∧ iv = .int .i64 i ∧ av = .slice ao i ac ∧ Hid (Sf w wr #[.int .i64 p, .int .i64 wd, .int .i64 ht, .int .i64 rs, .slice fo n fc] (.slice (some ⟨w.heap.size + 1, 0, none⟩) 0 0) (.slice ao i ac) [] ((allC n).take i) F)) (fun _ iv _ => n - (intOf iv).toNat)
      case atStart => exact ⟨0, _, _, _, Nat.zero_le _, rfl, rfl, HS0⟩
      case round =>
        clear HS0
        obtain ⟨i, ao, ac, F, hin, rfl, rfl, hS⟩ := hrel
        have c4 : wr.cell? ⟨w.heap.size, 4, none⟩ = some (.slice fo n fc) := (frameCells' (unhide hS).fr).2.2.2.2
        have hli : ((allC n).take i).length = i := by simp [allC]; omega
        by_cases hlt : i < n
        · have hd : decide ((i : Int) < (n : Int)) = true := decide_eq_true (by omega)
          obtain ⟨T, HTT⟩ : ∃ T, Hid ((allC n).take i = T) := ⟨_, rfl⟩
          obtain ⟨R, HRR⟩ : ∃ R, Hid ((allC n).take (i + 1) = R) := ⟨_, rfl⟩
          rw [unhide HTT] at hS hli
          have HLI := hide hli
          have HNX : Hid (T ++ [(i : Int)] = R) := by unfold Hid; rw [← unhide HTT, ← unhide HRR]; exact allC_next n i hlt
          have HLR : Hid (R.length = i + 1) := by unfold Hid; rw [← unhide HRR]; simp [allC]; omega
          clear hli
          go_wp2_with (at_builtin; refine append_intS rfl _ _ rfl (w.heap.size + 1) (.slice ao i ac) T rfl (unhide hS).al (i : Int) rfl (by rw [unhide HLI]; omega) (unhide hS).size R (unhide HNX) ?_)
          intro v5 w5 o5 g5 hat5
          have HS5 := hide ((unhide hS).more o5 g5 hat5)
          rw [unhide HLR] at o5
          obtain ⟨ao5, ac5, rfl⟩ := own_form o5
          rw [← unhide HRR] at HS5
          clear o5 g5 hat5 hS HLI c4 HNX HLR HTT
          go_wp2
          go_roundw
          case rel => exact ⟨i + 1, ao5, ac5, F, by omega, by go_num, rfl, HS5⟩
          case measure => simp [intOf]; omega
        · obtain rfl : n = i := by omega
          have hd : decide ((n : Int) < (n : Int)) = false := decide_eq_false (by omega)
          have hta : (allC n).take n = allC n := List.take_of_length_le (by simp [allC])
          rw [hta] at hS
          have HLA : Hid ((allC n).length = n) := by unfold Hid; simp [allC]
          clear hta hli c4
          by_cases hk0 : kind = 0
          · subst hk0
            have HLE : Hid (([] : List Scn) ++ [⟨allC n, 0, 63, 0, 0⟩] = L) := by unfold Hid; rw [← unhide HL]; rfl
            have c4 : wr.cell? ⟨w.heap.size, 4, none⟩ = some (.slice fo n fc) := (frameCells' (unhide hS).fr).2.2.2.2
            have HU : Hid (∀ i (h : i < [(⟨allC n, 0, 63, 0, 0⟩ : Scn)].length), OwScE wr (five (.slice ao n ac) (.int .i64 0) (.int .i64 63) (.int .i64 0) (.int .i64 0)) [(⟨allC n, 0, 63, 0, 0⟩ : Scn)][i] ([blk (.slice ao n ac)].getD i [])) := fun i h => by
              obtain rfl : i = 0 := by simpa using h
              exact ⟨⟨rfl, rfl, rfl, rfl⟩, own_base (unhide hS).al (Nat.zero_le _), rfl⟩
            go_wp2_with (at_builtin; refine append_rowsG OwScE.ok Try.underlying34 info_scan rfl (by decide) (by decide) rfl _ _ rfl (.slice (some ⟨w.heap.size + 1, 0, none⟩) 0 0) [] F rfl (unhide hS).own (unhide hS).nd #[.slice ao n ac, .int .i64 0, .int .i64 63, .int .i64 0, .int .i64 0] 1 (fun _ => five (.slice ao n ac) (.int .i64 0) (.int .i64 63) (.int .i64 0) (.int .i64 0)) rfl [⟨allC n, 0, 63, 0, 0⟩] rfl [blk (.slice ao n ac)] rfl (unhide HU) (by simp [blk_nodup]) (fun x hx => (unhide hS).na x (mem_blk.1 (by simpa using hx))) (by intro u hu; simp at hu; rcases hu with rfl | rfl | rfl | rfl <;> rfl) wr.heap.size rfl rfl (by simp) L (unhide HLE) ?_)
            intro v5 w5 F5 o5 n5 m5 wr5
            have HF : Hid (OwSs w5 v5 L F5 ∧ F5.Nodup ∧ (∀ g ∈ F5, w.heap.size ≤ g) ∧ w.grownBy w5 none) := by
              have hs := (unhide hS).size
              refine ⟨o5, n5, fun x hx => ?_, ?_⟩
              · rcases m5 x hx with h | h | h
                · have := (unhide hS).lo x h; omega
                · have := ((unhide hS).al.lt x (mem_blk.1 (by simpa using h))).1; omega
                · omega
              · exact Wr.new (unhide hS).grown wr5 (fun x hx => by have : w.heap.size + 1 = x := Option.some.inj (mem_blk.1 hx); omega)
            clear o5 n5 m5 wr5 HU c4
            go_wp2
            go_ret
            exact ⟨_, F5, rfl, unhide HF⟩
          · have n0 : (kind == 0) = false := by simp [hk0]
            obtain rfl : kind = 1 := by have := unhide hk2; omega
            have HLE : Hid (((allC n).take n).flatMap (fun i => [(⟨[i], 0, 63, 0, 0⟩ : Scn)]) = L) := by
              unfold Hid
              rw [← unhide HL, List.take_of_length_le (by rw [unhide HLA]; exact Nat.le_refl _)]
              rfl
            have HLEN : Hid (∀ i, i ≤ n → (((allC n).take i).flatMap (fun i => [(⟨[i], 0, 63, 0, 0⟩ : Scn)])).length = i) := fun i hi => by
              have hm : ∀ l : List Int, (l.flatMap (fun i => [(⟨[i], 0, 63, 0, 0⟩ : Scn)])).length = l.length := fun l => by
                induction l with
                | nil => rfl
                | cons a l ih => rw [List.flatMap_cons, List.length_append, ih]; simp; omega
              rw [hm]
              simp [allC]
              omega
            have c4 : wr.cell? ⟨w.heap.size, 4, none⟩ = some (.slice fo n fc) := (frameCells' (unhide hS).fr).2.2.2.2
            go_wp2
            clear c4
            go_loopw [5, 8] (fun ov iv wr => ∃ (i : Nat) (vo : Option Addr) (vc : Nat) (F : List Nat), i ≤ n ∧ iv = .int .i64 i ∧ ov = .slice vo i vc ∧ Hid (Sf w wr #[.int .i64 p, .int .i64 wd, .int .i64 ht, .int .i64 rs, .slice fo n fc] (.slice vo i vc) (.slice ao n ac) (((allC n).take i).flatMap (fun i => [(⟨[i], 0, 63, 0, 0⟩ : Scn)])) (allC n) F)) (fun _ iv _ => n - (intOf iv).toNat)
            case atStart => exact ⟨0, _, _, F, Nat.zero_le _, rfl, rfl, hS⟩
            case round =>
              clear hS
              obtain ⟨i, vo, vc, F, hin, rfl, rfl, hS⟩ := hrel
              by_cases hlt : i < n
              · have hd2 : decide ((i : Int) < (n : Int)) = true := decide_eq_true (by omega)
                obtain ⟨X, HX⟩ : ∃ X, Hid (((allC n).take i).flatMap (fun i => [(⟨[i], 0, 63, 0, 0⟩ : Scn)]) = X) := ⟨_, rfl⟩
                obtain ⟨R, HR⟩ : ∃ R, Hid (((allC n).take (i + 1)).flatMap (fun i => [(⟨[i], 0, 63, 0, 0⟩ : Scn)]) = R) := ⟨_, rfl⟩
                have HXL : Hid (X.length = i) := by rw [← unhide HX]; exact unhide HLEN i hin
                have HRL : Hid (R.length = i + 1) := by rw [← unhide HR]; exact unhide HLEN (i + 1) (by omega)
                have HNX : Hid (X ++ [⟨[(i : Int)], 0, 63, 0, 0⟩] = R) := by
                  unfold Hid
                  rw [← unhide HX, ← unhide HR]
                  exact eachC_next n i hlt (fun i => [(⟨[i], 0, 63, 0, 0⟩ : Scn)])
                rw [unhide HX] at hS
                have gA : wr.grownBy (wr.alloc (.cells #[.int .i64 (i : Int)] 3)) none := World.grownBy_alloc _ _ _
                have HS1 := hide ((unhide hS).new gA)
                have HGA := hide gA
                have HU : Hid (∀ j (h : j < [(⟨[(i : Int)], 0, 63, 0, 0⟩ : Scn)].length), OwScE (wr.alloc (.cells #[.int .i64 (i : Int)] 3)) (five (.slice (some ⟨wr.heap.size, 0, none⟩) 1 1) (.int .i64 0) (.int .i64 63) (.int .i64 0) (.int .i64 0)) [(⟨[(i : Int)], 0, 63, 0, 0⟩ : Scn)][j] ([[wr.heap.size]].getD j [])) := fun j h => by
                  obtain rfl : j = 0 := by simpa using h
                  exact ⟨⟨rfl, rfl, rfl, rfl⟩, World.ownsRow_lit wr #[.int .i64 (i : Int)] 1 (Nat.zero_le _) (by unfold maxLen; omega) rfl, rfl⟩
                have HDJ : Hid (∀ x ∈ [[wr.heap.size]].flatten, x ∉ F) := fun x hx hx2 => by
                  have h3 := OwSs.ok.lt _ _ _ _ (unhide hS).own x hx2
                  simp at hx; omega
                clear gA
                go_wp2_with (at_builtin; refine append_rowsG (w := wr.alloc (.cells #[.int .i64 (i : Int)] 3)) OwScE.ok Try.underlying34 info_scan rfl (by decide) (by decide) rfl _ _ rfl (.slice vo i vc) X F rfl (unhide HS1).own (unhide HS1).nd #[.slice (some ⟨wr.heap.size, 0, none⟩) 1 1, .int .i64 0, .int .i64 63, .int .i64 0, .int .i64 0] 1 (fun _ => five (.slice (some ⟨wr.heap.size, 0, none⟩) 1 1) (.int .i64 0) (.int .i64 63) (.int .i64 0) (.int .i64 0)) rfl [⟨[(i : Int)], 0, 63, 0, 0⟩] rfl [[wr.heap.size]] rfl (unhide HU) (by simp) (unhide HDJ) (by intro u hu; simp at hu; rcases hu with rfl | rfl | rfl | rfl <;> rfl) (wr.heap.size + 1) (by simp) rfl (by rw [unhide HXL]; omega) R (unhide HNX) ?_)
                intro v5 w5 F5 o5 n5 m5 wr5
                have m6 : ∀ x ∈ F5, x ∈ F ∨ x ∈ [wr.heap.size] ∨ (wr.alloc (.cells #[.int .i64 (i : Int)] 3)).heap.size ≤ x := fun x hx => by
                  rcases m5 x hx with h | h | h
                  · exact .inl h
                  · exact .inr (.inl (by simpa using h))
                  · exact .inr (.inr (by simpa using h))
                have HS5 := hide ((unhide hS).push (G := [wr.heap.size]) (unhide HGA) o5 n5 m6 (fun x hx => Nat.le_of_eq (by simpa using hx : x = wr.heap.size).symm) wr5)
                clear m6
                obtain ⟨vo5, vc5, rfl⟩ := OwG.form o5
                rw [unhide HRL] at HS5 ⊢
                rw [← unhide HR] at HS5
                clear o5 n5 m5 wr5 HU HDJ HS1 HGA hS HNX HRL HXL HX
                go_wp2
                go_roundw
                case rel => exact ⟨i + 1, vo5, vc5, F5, by omega, by go_num, rfl, HS5⟩
                case measure => simp [intOf]; omega
              · obtain rfl : n = i := by omega
                have hd2 : decide ((n : Int) < (n : Int)) = false := decide_eq_false (by omega)
                have HF : Hid (OwSs wr (.slice vo n vc) L F ∧ F.Nodup ∧ (∀ g ∈ F, w.heap.size ≤ g) ∧ w.grownBy wr none) := by
                  rw [← unhide HLE]
                  exact ⟨(unhide hS).own, (unhide hS).nd, fun g hg => by have := (unhide hS).lo g hg; omega, (unhide hS).grown⟩
                clear hS
                go_wp2
                go_ret
                exact ⟨_, F, rfl, unhide HF⟩

end Go.Proofs.Ytfgglainjaplgaa
