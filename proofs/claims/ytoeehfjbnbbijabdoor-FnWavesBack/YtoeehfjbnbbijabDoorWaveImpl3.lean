/-
  Waves in the program: each row, both ways.
-/
import Derived.Test.YtoeehfjbnbbijabDoorWaveImpl2
import Derived.Laws.CopyOwn
namespace Go.Proofs.YtoeehfjbnbbijabDoor
open Go.RowKit Go.Shelf

def row8 (zs : List Int) (k : Nat) : List Int := made8 (fun x => zs.getD (8 * k + x) 0)
def rowsOf (F : Nat → Nat → Int) (p : Nat) : Int := F (p / 8) (p % 8)

theorem wp_copy_row {P : Program} {o : Oper} {a : Act} {w : World} {K : Act → World → Prop} {Q : Exit → Act → World → Prop} (d s : Operand) (dT sT : TypeId)
    (ho : o.op = .call { callee := .builtin .copy, args := #[d, s], argTypes := #[dT, sT] }) (elem : TypeId) (hu : P.underlying dT = some (.slice elem)) (hsz : (P.info? elem).map (·.size) = some 1)
    (g off dLen dCap : Nat) (ad : Addr) (sLen sCap : Nat) (hd : a.eval d = .slice (some ⟨g, off, none⟩) dLen dCap) (hs : a.eval s = .slice (some ad) sLen sCap)
    (cur : Array Value) (t : TypeId) (hg : w.heap[g]? = some (.cells cur t (0, 0))) (cs : List Value) (hn : cs.length = Nat.min sLen dLen)
    (hsrc : ∀ j v, cs[j]? = some v → w.cell? (ad.add j) = some v) (hfit : off + cs.length ≤ cur.size) (h1 : ∀ v ∈ cs, v.oneCell' = true)
    (h : ∀ w', w'.heap[g]? = some (.cells (cur.toList.take off ++ (cs ++ cur.toList.drop (off + cs.length))).toArray t (0, 0)) → w.grownBy w' (some g) → K (a.put o.dst (goInt cs.length)) w') : Oper.wp P o a w K Q := by
  have hrun := run_copy_row (P := P) w dT sT o.type elem g off dLen dCap ad sLen sCap cur t cs hu hsz hg hn hsrc hfit h1
  unfold Oper.wp
  simp [execOp, ho, resolve, invoke, builtin, hd, hs, hrun, Result.andThen]
  exact h _ (setRow_heap w g _ _ t _ hg) (grown_row w g _)

theorem grown_newer {a b c : World} {r row : Option Nat} (h : a.grownBy b r) (hg : b.grownBy c row) (hge : ∀ g, row = some g → a.heap.size ≤ g) : a.grownBy c r :=
  ⟨hg.os.trans h.os, hg.tape.trans h.tape, hg.output.trans h.output, Nat.le_trans h.size hg.size, fun k hk hr => (hg.block k (Nat.lt_of_lt_of_le hk h.size) (by intro e; have := hge k e.symm; omega)).trans (h.block k hk hr)⟩

theorem slice_row (b f : Nat) (hf : f + 8 ≤ 64) (w : World) : (Instr.sliceAt 35 (.pointer (some ⟨b, 0, none⟩)) (some (.int .i64 (f : Int))) (some (.int .i64 ((f : Int) + 8))) none).run Tryd.prog w = .ok (.slice (some ⟨b, f, none⟩) 8 (64 - f)) w := by
  have hl : Tryd.prog.arrayLen 35 = 64 := by kernel_rfl
  have hs : (sizeOf (Tryd.prog.elem 35)).run Tryd.prog w = .ok 1 w := by kernel_rfl
  rw [run_sliceAt_array_lh w _ _ (by kernel_rfl) .i64 .i64 _ _ (by omega) (by omega) (by rw [hl]; omega), hs, hl]
  simp only [Result.andThen_ok, slicedAt]
  rw [if_neg (by omega), Addr.add_lit]
  congr 2
  · simp
  · omega
theorem slice_from (b f : Nat) (hf : f + 8 ≤ 64) (w : World) : (Instr.sliceAt 35 (.pointer (some ⟨b, 0, none⟩)) (some (.int .i64 (f : Int))) none none).run Tryd.prog w = .ok (.slice (some ⟨b, f, none⟩) (64 - f) (64 - f)) w := by
  have hl : Tryd.prog.arrayLen 35 = 64 := by kernel_rfl
  have hs : (sizeOf (Tryd.prog.elem 35)).run Tryd.prog w = .ok 1 w := by kernel_rfl
  rw [run_sliceAt_array_l w _ _ (by kernel_rfl) .i64 _ (by omega) (by rw [hl]; omega), hs, hl]
  simp only [Result.andThen_ok, slicedAt]
  rw [if_neg (by omega), Addr.add_lit]
  congr 2
  simp

theorem mix_row (f : Nat → Int) (zs : List Int) (k i : Nat) (h : k ≤ i) : (mix f zs k).getD i 0 = zs.getD i 0 := by
  unfold mix
  rw [List.getD_eq_getElem?_getD, List.getD_eq_getElem?_getD, List.getElem?_append_right (by simp; exact h)]
  simp
  congr 2
  omega
theorem mix_put (F : Nat → Nat → Int) (zs : List Int) (k : Nat) :
    ((sq (mix (rowsOf F) zs (8 * k))).toList.take (8 * k) ++ ((made8 (F k)).map (Value.int .i64) ++ (sq (mix (rowsOf F) zs (8 * k))).toList.drop (8 * k + ((made8 (F k)).map (Value.int .i64)).length))).toArray = sq (mix (rowsOf F) zs (8 * k + 8)) := by
  unfold sq
  congr 1
  rw [List.length_map, made8_len, List.toList_toArray, ← List.map_take, ← List.map_drop, ← List.map_append, ← List.map_append]
  congr 1
  unfold mix
  rw [List.take_append_of_le_length (by simp), List.take_of_length_le (by simp), List.drop_append]
  have e1 : ((List.range (8 * k)).map (rowsOf F)).drop (8 * k + 8) = [] := List.drop_eq_nil_of_le (by simp)
  rw [e1, List.nil_append, List.drop_drop, List.length_map, List.length_range]
  have e2 : 8 * k + (8 * k + 8 - 8 * k) = 8 * k + 8 := by omega
  rw [e2, ← List.append_assoc]
  congr 1
  rw [List.range_add, List.map_append]
  congr 1
  unfold made8
  rw [List.map_map]
  apply List.map_congr_left
  intro x hx
  have hx8 : x < 8 := by simpa using hx
  show F k x = F ((8 * k + x) / 8) ((8 * k + x) % 8)
  rw [show (8 * k + x) / 8 = k by omega, show (8 * k + x) % 8 = x by omega]

set_option maxRecDepth 20000 in
set_option maxHeartbeats 3200000 in
theorem eachRow (zs bs : List Int) (hz : zs.length = 64) (hb : bs.length = 64) (F : Nat → Nat → Int) (g : Nat) (eg : ∀ args w, (callFunc g args).run Tryd.prog w = .ok (.enter g args) w) (w : World)
    (HC : Hid (∀ k, k < 8 → ∀ W, w.grownBy W none → Calls Tryd.prog g #[.agg (sq (row8 zs k)), .agg (sq bs)] W fun e W' => e = .returned (.agg (sq (made8 (F k)))) ∧ W.grownBy W' none)) :
    Calls Tryd.prog 35 #[.agg (sq zs), .func (.func g) #[] #[], .agg (sq bs)] w fun e w' => e = .returned (.agg (sq (made (rowsOf F)))) ∧ w.grownBy w' none := by
  obtain ⟨W0, hW0⟩ : ∃ W0, (((w.alloc (.cells (sq zs) 35)).alloc (.cells (sq bs) 35)).alloc (.cells #[.int .i64 0, .int .i64 0, .int .i64 0, .int .i64 0, .int .i64 0, .int .i64 0, .int .i64 0, .int .i64 0, .int .i64 0, .int .i64 0, .int .i64 0, .int .i64 0, .int .i64 0, .int .i64 0, .int .i64 0, .int .i64 0, .int .i64 0, .int .i64 0, .int .i64 0, .int .i64 0, .int .i64 0, .int .i64 0, .int .i64 0, .int .i64 0, .int .i64 0, .int .i64 0, .int .i64 0, .int .i64 0, .int .i64 0, .int .i64 0, .int .i64 0, .int .i64 0, .int .i64 0, .int .i64 0, .int .i64 0, .int .i64 0, .int .i64 0, .int .i64 0, .int .i64 0, .int .i64 0, .int .i64 0, .int .i64 0, .int .i64 0, .int .i64 0, .int .i64 0, .int .i64 0, .int .i64 0, .int .i64 0, .int .i64 0, .int .i64 0, .int .i64 0, .int .i64 0, .int .i64 0, .int .i64 0, .int .i64 0, .int .i64 0, .int .i64 0, .int .i64 0, .int .i64 0, .int .i64 0, .int .i64 0, .int .i64 0, .int .i64 0, .int .i64 0] 35)) = W0 := ⟨_, rfl⟩
  have b0 : W0.heap[w.heap.size]? = some (.cells (sq zs) 35 (0, 0)) := by
    rw [← hW0, Below.heap_alloc _ _ _ (by simp; omega), Below.heap_alloc _ _ _ (by simp)]
    exact heap_alloc_new w _
  have b1 : W0.heap[w.heap.size + 1]? = some (.cells (sq bs) 35 (0, 0)) := by
    rw [← hW0, Below.heap_alloc _ _ _ (by simp)]
    have := heap_alloc_new (w.alloc (.cells (sq zs) 35)) (.cells (sq bs) 35)
    simpa using this
  have b2 : W0.heap[w.heap.size + 2]? = some (.cells (sq zs64) 35 (0, 0)) := by
    rw [← hW0, sq_z64]
    have := heap_alloc_new ((w.alloc (.cells (sq zs) 35)).alloc (.cells (sq bs) 35)) (.cells #[.int .i64 0, .int .i64 0, .int .i64 0, .int .i64 0, .int .i64 0, .int .i64 0, .int .i64 0, .int .i64 0, .int .i64 0, .int .i64 0, .int .i64 0, .int .i64 0, .int .i64 0, .int .i64 0, .int .i64 0, .int .i64 0, .int .i64 0, .int .i64 0, .int .i64 0, .int .i64 0, .int .i64 0, .int .i64 0, .int .i64 0, .int .i64 0, .int .i64 0, .int .i64 0, .int .i64 0, .int .i64 0, .int .i64 0, .int .i64 0, .int .i64 0, .int .i64 0, .int .i64 0, .int .i64 0, .int .i64 0, .int .i64 0, .int .i64 0, .int .i64 0, .int .i64 0, .int .i64 0, .int .i64 0, .int .i64 0, .int .i64 0, .int .i64 0, .int .i64 0, .int .i64 0, .int .i64 0, .int .i64 0, .int .i64 0, .int .i64 0, .int .i64 0, .int .i64 0, .int .i64 0, .int .i64 0, .int .i64 0, .int .i64 0, .int .i64 0, .int .i64 0, .int .i64 0, .int .i64 0, .int .i64 0, .int .i64 0, .int .i64 0, .int .i64 0] 35)
    simpa using this
  have hsz : W0.heap.size = w.heap.size + 3 := by rw [← hW0]; simp
  have G0 : Hid (w.grownBy W0 none) := by rw [← hW0]; exact grown_alloc (grown_alloc (grown_alloc (World.grownBy.refl _ _) _) _) _
  have HW := hide hW0
  have B0 := hide b0
  have B1 := hide b1
  have B2 := hide b2
  have HSB : Hid ((sq bs).size = 64) := by unfold Hid; rw [sq_size, hb]
  have HZ := hide hz
  clear hW0 b0 b1 b2 hz hb
  have har : ∀ (b f cap : Nat) w, (Instr.arrayAt 42 (.slice (some ⟨b, f, none⟩) 8 cap)).run Tryd.prog w = .ok (.pointer (some ⟨b, f, none⟩)) w := fun b f cap w => by kernel_rfl
  go_enter Tryd.func35, Tryd.ntmps35
  go_wp2
  rw [unhide HW]
  clear HW
  go_loopw [7] (fun i wr => ∃ k f : Nat, k ≤ 8 ∧ Hid (f = 8 * k) ∧ f ≤ 64 ∧ i = .int .i64 f ∧ Hid (wr.heap[w.heap.size]? = some (.cells (sq (mix (rowsOf F) zs f)) 35 (0, 0))) ∧ Hid (W0.grownBy wr (some w.heap.size))) (fun i _ => 64 - (intOf i).toNat)
  case atStart => exact ⟨0, 0, Nat.zero_le _, rfl, by omega, rfl, by unfold Hid; rw [mix_zero]; exact unhide B0, World.grownBy.refl _ _⟩
  case round =>
    obtain ⟨k, f, hk, HF, hf64, rfl, hM, hgk⟩ := hrel
    by_cases hlt : k < 8
    · have hf8 : f + 8 ≤ 64 := by have := unhide HF; omega
      have hfI : (f : Int) < 64 := by omega
      have e1 := i64_in ((f : Int) + 8) (by omega)
      have hs2 := (unhide hgk).size
      have hsl := slice_row w.heap.size f hf8
      have hsl2 := slice_from w.heap.size f hf8
      have hB1 := ((unhide hgk).block (w.heap.size + 1) (by omega) (by simp)).trans (unhide B1)
      have HRNG : Hid (∀ w' : World, w'.heap[w.heap.size]? = some (.cells (sq (mix (rowsOf F) zs f)) 35 (0, 0)) → w'.rangeAt w.heap.size f ((row8 zs k).map (Value.int .i64))) := by
        intro w' h j v hv
        have hj : j < 8 := by
          have := (List.getElem?_eq_some_iff.1 hv).1
          simpa [row8, made8_len] using this
        have hz := unhide HZ
        have hl : (mix (rowsOf F) zs f).length = 64 := (mix_len _ _ _ (by omega)).trans hz
        rw [sq_cell h (f + j) (by omega), mix_row _ _ _ _ (by omega), unhide HF]
        rw [List.getElem?_map, row8] at hv
        have h8 : (made8 fun x => zs.getD (8 * k + x) 0)[j]? = some (zs.getD (8 * k + j) 0) := by simp [made8, hj]
        rw [h8] at hv
        simpa using hv
      go_wp2
      refine wp_region_noPanic ?_
      refine wp_region_raw (fun w' => w'.heap[w.heap.size]? = some (.cells (sq (mix (rowsOf F) zs f)) 35 (0, 0)) ∧ w'.heap[w.heap.size + 1]? = some (.cells (sq bs) 35 (0, 0))) [true, true, true, true, true, true, true, true, false, false, false] (by kernel_rfl) (fun _ _ _ _ _ h => h) rfl (by kernel_rfl) ⟨unhide hM, hB1⟩ ?_
      iterate 6
        refine heldF_take (v := ?_) (Or.inl ⟨by rfl, ?_⟩) ?_
        rotate_left 1
        · intro w' hSw
          try dsimp only at hSw
          go_simp
          try with_reducible rfl
        simp only [Act.put, List.setIfInBounds_toArray, List.set_cons_zero, List.set_cons_succ]
      refine heldF_take (v := .agg (sq (row8 zs k))) (yieldsIf_load_mid (by rfl) 42 _ rfl w.heap.size f rfl ((row8 zs k).map (Value.int .i64)) _ (fun w' hS => unhide HRNG w' hS.1) Tryd.underlying42 rfl (by rw [List.length_map, row8, made8_len]; kernel_rfl)) ?_
      simp only [Act.put, List.setIfInBounds_toArray, List.set_cons_zero, List.set_cons_succ]
      refine heldF_take (v := .agg (sq bs)) (Or.inl ⟨by rfl, ?_⟩) ?_
      · intro w' hSw
        exact exec_row 35 _ rfl (w.heap.size + 1) rfl (sq bs) 35 hSw.2 _ Tryd.underlying35 rfl (by rw [unhide HSB]; kernel_rfl)
      simp only [Act.put, List.setIfInBounds_toArray, List.set_cons_zero, List.set_cons_succ]
      refine heldF_skip (heldF_skip (heldF_skip (heldF_nil ?_)))
      have hGW : w.grownBy wr none := grown_new (unhide G0) (unhide hgk) (fun g e => by simp at e; omega)
      refine anyH_step2 (i := 8) (j := 9) rfl rfl (by kernel_rfl) (fun K hK => ?_) (fun K hK => ?_)
      · go_simp
        refine (unhide HC k hlt wr.drew (grown_drew hGW)).mono ?_
        rintro e w4 ⟨rfl, g4⟩
        have hs4 : wr.heap.size ≤ w4.heap.size := g4.size
        have hM4 := (g4.block w.heap.size (by show w.heap.size < wr.heap.size; omega) (by simp)).trans (unhide hM)
        have hC4 := (g4.block (w.heap.size + 1) (by show w.heap.size + 1 < wr.heap.size; omega) (by simp)).trans hB1
        refine hK.out _ _ ⟨hM4, hC4⟩ ?_
        clear hK K
        try simp only [Act.put, List.setIfInBounds_toArray, List.set_cons_zero, List.set_cons_succ]
        refine anyH_step1 (i := 9) rfl (by kernel_rfl) (fun K hK => ?_)
        go_simp
        have hM4a := (Below.heap_alloc w4 (.cells #[.int .i64 0, .int .i64 0, .int .i64 0, .int .i64 0, .int .i64 0, .int .i64 0, .int .i64 0, .int .i64 0] 42) w.heap.size (by omega)).trans hM4
        have hC4a := (Below.heap_alloc w4 (.cells #[.int .i64 0, .int .i64 0, .int .i64 0, .int .i64 0, .int .i64 0, .int .i64 0, .int .i64 0, .int .i64 0] 42) (w.heap.size + 1) (by omega)).trans hC4
        refine hK.out _ _ ⟨hM4a, hC4a⟩ ?_
        clear hK K
        try simp only [Act.put, List.setIfInBounds_toArray, List.set_cons_zero, List.set_cons_succ]
        refine anyH_step1 (i := 10) rfl (by kernel_rfl) (fun K hK => ?_)
        refine step_store_row (by rfl) 42 _ _ rfl w4.heap.size rfl (sq (made8 (F k))) rfl #[.int .i64 0, .int .i64 0, .int .i64 0, .int .i64 0, .int .i64 0, .int .i64 0, .int .i64 0, .int .i64 0] 42 (heap_alloc_new _ _) (by rw [sq_size, made8_len]; rfl) (by rw [sq_size, made8_len]; kernel_rfl) (sq_one _) ?_
        intro w5 hB5 g5
        have hM5 := (g5.block w.heap.size (by simp; omega) (by simp; omega)).trans hM4a
        have hC5 := (g5.block (w.heap.size + 1) (by simp; omega) (by simp; omega)).trans hC4a
        have hG5 : W0.grownBy w5 (some w.heap.size) := grown_newer (grown_trans (grown_trans (grown_drew (unhide hgk)) (grown_any g4)) (World.grownBy_alloc _ _ _)) g5 (fun g e => by simp at e; omega)
        refine hK.out _ _ ⟨hM5, hC5⟩ ?_
        clear hK K
        try simp only [Act.put]
        refine wpAnyH_done (by kernel_rfl) (NoPanic.normal ?_) _
        have HM5 := hide hM5
        have HB5 := hide hB5
        have HG5 := hide hG5
        have hs5 := hG5.size
        clear hM5 hB5 hG5
        go_wp2
        refine wp_region_last 20 _ (by kernel_rfl) rfl rfl (by kernel_rfl) ?_
        dsimp only [List.dropLast]
        repeat (go_big_quiet_step (fail))
        refine wpQuiet_nil ?_
        intro nq
        refine wp_copy_row _ _ 24 24 rfl 3 Tryd.underlying24 (by kernel_rfl) w.heap.size f (64 - f) (64 - f) ⟨w4.heap.size, 0, none⟩ 8 8 rfl rfl (sq (mix (rowsOf F) zs f)) 35 (unhide HM5) ((made8 (F k)).map (Value.int .i64)) (by rw [List.length_map, made8_len]; show 8 = min 8 (64 - f); omega) (fun j v hv => ?_) (by have hz := unhide HZ; rw [sq_size, mix_len _ _ _ (by omega), List.length_map, made8_len]; omega) (ints_one _) ?_
        · have hj : j < 8 := by
            have := (List.getElem?_eq_some_iff.1 hv).1
            simpa [made8_len] using this
          have hj2 : (made8 (F k))[j]? = some ((made8 (F k)).getD j 0) := by
            rw [List.getElem?_eq_getElem (by rw [made8_len]; exact hj)]
            simp [List.getD_eq_getElem?_getD, List.getElem?_eq_getElem (show j < (made8 (F k)).length by rw [made8_len]; exact hj)]
          rw [List.getElem?_map, hj2] at hv
          have hv' : Value.int .i64 ((made8 (F k)).getD j 0) = v := by simpa using hv
          have hc : w5.cell? ⟨w4.heap.size, j, none⟩ = some (.int .i64 ((made8 (F k)).getD j 0)) := sq_cell (unhide HB5) j (by rw [made8_len]; exact hj)
          rw [Addr.add_lit, Nat.zero_add, ← hv']
          exact hc
        · intro w6 hB6 g6
          have HB6 : Hid (w6.heap[w.heap.size]? = some (.cells (sq (mix (rowsOf F) zs (f + 8))) 35 (0, 0))) := by
            unfold Hid
            rw [hB6, unhide HF, mix_put]
          have HG6 : Hid (W0.grownBy w6 (some w.heap.size)) := grown_trans (grown_drewN (unhide HG5) nq) g6
          clear hB6 g6
          go_wp2
          go_roundw
          case rel => exact ⟨k + 1, f + 8, by omega, by have := unhide HF; unfold Hid; omega, by omega, by go_num, unhide HB6, unhide HG6⟩
          case measure => simp [intOf]; omega
      · go_simp
        have hM4a := (Below.heap_alloc wr.drew (.cells #[.int .i64 0, .int .i64 0, .int .i64 0, .int .i64 0, .int .i64 0, .int .i64 0, .int .i64 0, .int .i64 0] 42) w.heap.size (by show w.heap.size < wr.heap.size; omega)).trans (unhide hM)
        have hC4a := (Below.heap_alloc wr.drew (.cells #[.int .i64 0, .int .i64 0, .int .i64 0, .int .i64 0, .int .i64 0, .int .i64 0, .int .i64 0, .int .i64 0] 42) (w.heap.size + 1) (by show w.heap.size + 1 < wr.heap.size; omega)).trans hB1
        have hN4 := heap_alloc_new wr.drew (.cells #[.int .i64 0, .int .i64 0, .int .i64 0, .int .i64 0, .int .i64 0, .int .i64 0, .int .i64 0, .int .i64 0] 42)
        obtain ⟨W4, hW4⟩ : ∃ W4, wr.drew.alloc (.cells #[.int .i64 0, .int .i64 0, .int .i64 0, .int .i64 0, .int .i64 0, .int .i64 0, .int .i64 0, .int .i64 0] 42) = W4 := ⟨_, rfl⟩
        have hGW4 : w.grownBy W4 none := by rw [← hW4]; exact grown_alloc (grown_drew hGW) _
        have hG4 : W0.grownBy W4 (some w.heap.size) := by rw [← hW4]; exact grown_trans (grown_drew (unhide hgk)) (World.grownBy_alloc _ _ _)
        have hs4 : W4.heap.size = wr.heap.size + 1 := by rw [← hW4]; simp
        rw [hW4] at hM4a hC4a hN4
        rw [show (wr.alloc (.cells #[.int .i64 0, .int .i64 0, .int .i64 0, .int .i64 0, .int .i64 0, .int .i64 0, .int .i64 0, .int .i64 0] 42)).drew = W4 from hW4]
        clear hW4
        change W4.heap[wr.heap.size]? = _ at hN4
        refine hK.out _ _ ⟨hM4a, hC4a⟩ ?_
        clear hK K
        try simp only [Act.put, List.setIfInBounds_toArray, List.set_cons_zero, List.set_cons_succ]
        refine anyH_step1 (i := 8) rfl (by kernel_rfl) (fun K hK => ?_)
        go_simp
        refine (unhide HC k hlt W4 hGW4).mono ?_
        rintro e w4 ⟨rfl, g4⟩
        have hs4' : W4.heap.size ≤ w4.heap.size := g4.size
        have hM4 := (g4.block w.heap.size (by omega) (by simp)).trans hM4a
        have hC4 := (g4.block (w.heap.size + 1) (by omega) (by simp)).trans hC4a
        have hN5 := (g4.block wr.heap.size (by omega) (by simp)).trans hN4
        refine hK.out _ _ ⟨hM4, hC4⟩ ?_
        clear hK K
        try simp only [Act.put, List.setIfInBounds_toArray, List.set_cons_zero, List.set_cons_succ]
        refine anyH_step1 (i := 10) rfl (by kernel_rfl) (fun K hK => ?_)
        refine step_store_row (by rfl) 42 _ _ rfl wr.heap.size rfl (sq (made8 (F k))) rfl #[.int .i64 0, .int .i64 0, .int .i64 0, .int .i64 0, .int .i64 0, .int .i64 0, .int .i64 0, .int .i64 0] 42 hN5 (by rw [sq_size, made8_len]; rfl) (by rw [sq_size, made8_len]; kernel_rfl) (sq_one _) ?_
        intro w5 hB5 g5
        have hM5 := (g5.block w.heap.size (by omega) (by simp; omega)).trans hM4
        have hC5 := (g5.block (w.heap.size + 1) (by omega) (by simp; omega)).trans hC4
        have hG5 : W0.grownBy w5 (some w.heap.size) := grown_newer (grown_trans hG4 (grown_any g4)) g5 (fun g e => by simp at e; omega)
        refine hK.out _ _ ⟨hM5, hC5⟩ ?_
        clear hK K
        try simp only [Act.put]
        refine wpAnyH_done (by kernel_rfl) (NoPanic.normal ?_) _
        have HM5 := hide hM5
        have HB5 := hide hB5
        have HG5 := hide hG5
        have hs5 := hG5.size
        clear hM5 hB5 hG5
        go_wp2
        refine wp_region_last 20 _ (by kernel_rfl) rfl rfl (by kernel_rfl) ?_
        dsimp only [List.dropLast]
        repeat (go_big_quiet_step (fail))
        refine wpQuiet_nil ?_
        intro nq
        refine wp_copy_row _ _ 24 24 rfl 3 Tryd.underlying24 (by kernel_rfl) w.heap.size f (64 - f) (64 - f) ⟨wr.heap.size, 0, none⟩ 8 8 rfl rfl (sq (mix (rowsOf F) zs f)) 35 (unhide HM5) ((made8 (F k)).map (Value.int .i64)) (by rw [List.length_map, made8_len]; show 8 = min 8 (64 - f); omega) (fun j v hv => ?_) (by have hz := unhide HZ; rw [sq_size, mix_len _ _ _ (by omega), List.length_map, made8_len]; omega) (ints_one _) ?_
        · have hj : j < 8 := by
            have := (List.getElem?_eq_some_iff.1 hv).1
            simpa [made8_len] using this
          have hj2 : (made8 (F k))[j]? = some ((made8 (F k)).getD j 0) := by
            rw [List.getElem?_eq_getElem (by rw [made8_len]; exact hj)]
            simp [List.getD_eq_getElem?_getD, List.getElem?_eq_getElem (show j < (made8 (F k)).length by rw [made8_len]; exact hj)]
          rw [List.getElem?_map, hj2] at hv
          have hv' : Value.int .i64 ((made8 (F k)).getD j 0) = v := by simpa using hv
          have hc : w5.cell? ⟨wr.heap.size, j, none⟩ = some (.int .i64 ((made8 (F k)).getD j 0)) := sq_cell (unhide HB5) j (by rw [made8_len]; exact hj)
          rw [Addr.add_lit, Nat.zero_add, ← hv']
          exact hc
        · intro w6 hB6 g6
          have HB6 : Hid (w6.heap[w.heap.size]? = some (.cells (sq (mix (rowsOf F) zs (f + 8))) 35 (0, 0))) := by
            unfold Hid
            rw [hB6, unhide HF, mix_put]
          have HG6 : Hid (W0.grownBy w6 (some w.heap.size)) := grown_trans (grown_drewN (unhide HG5) nq) g6
          clear hB6 g6
          go_wp2
          go_roundw
          case rel => exact ⟨k + 1, f + 8, by omega, by have := unhide HF; unfold Hid; omega, by omega, by go_num, unhide HB6, unhide HG6⟩
          case measure => simp [intOf]; omega
    · obtain rfl : k = 8 := by omega
      have hf : f = 64 := by have := unhide HF; omega
      subst hf
      have hM := unhide hM
      rw [mix_all _ zs (unhide HZ)] at hM
      have HM := hide hM
      have HBR := hide (((unhide hgk).block (w.heap.size + 2) (by omega) (by simp)).trans (unhide B2))
      have HMS : Hid ((sq (made (rowsOf F))).size = 64) := by unfold Hid; rw [sq_size, made_len]
      have HGF : Hid (w.grownBy wr none) := grown_new (unhide G0) (unhide hgk) (fun g e => by simp at e; omega)
      clear hM hgk
      go_wp2_with (first | (refine load_row rfl 35 _ rfl w.heap.size rfl (sq (made (rowsOf F))) 35 (unhide HM) _ Tryd.underlying35 rfl (by rw [unhide HMS]; kernel_rfl) ?_) | (refine store_row rfl 35 _ _ rfl (w.heap.size + 2) rfl (sq (made (rowsOf F))) rfl (sq zs64) 35 (unhide HBR) (by rw [unhide HMS, sq_size, zs64_len]) (by rw [unhide HMS]; kernel_rfl) (sq_one _) ?_; intro w6 hB6 g6))
      refine bodyPost_ret (v := .agg (sq (made (rowsOf F)))) ?_ rfl ⟨rfl, ?_⟩
      · rw [results_c1 rfl]
        exact run_loadVar_row w6 _ 35 35 _ (0, 0) _ hB6 Tryd.underlying35 rfl (by rw [unhide HMS]; kernel_rfl)
      · exact grown_new (unhide HGF) g6 (fun g e => by simp at e; omega)

end Go.Proofs.YtoeehfjbnbbijabDoor
