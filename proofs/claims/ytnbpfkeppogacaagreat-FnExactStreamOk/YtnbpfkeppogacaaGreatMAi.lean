/-
  PlanesCoefs, FillPure, LoadIn, FillImpl, FixCoefs, FixCoefs2, GiveCoefs, MapSq, GeoHasC.
-/
import Derived.Maps.RangeWalk
import Derived.Test.YtnbpfkeppogacaaGreatMAh

namespace Go.Proofs.YtnbpfkeppogacaaGreat
open Go.RowKit Go.Shelf

/-- One cell is read. -/
theorem load_one {P : Program} {ops : Array Oper} {rest : List Oper} {op : Oper} {a : Act} {w : World} {Q : Exit → Act → World → Prop} (hw : Region.wanted op (yielded ops a.tmps) = true) (ty : TypeId) (x : Operand) (ho : op.op = .load ty x)
    (b off : Nat) (hx : a.eval x = .pointer (some ⟨b, off, none⟩)) (v : Value) (hc : w.cell? ⟨b, off, none⟩ = some v) (d : TypeDesc) (hu : P.underlying ty = some d) (hd : d.isRow = false)
    (h : wpList P ops Q rest (a.put op.dst v) w) : wpList P ops Q (op :: rest) a w :=
  BigFrame.wpList_want hw fun K hK => by
    have hg : (isAgg ty).run P w = .ok false w := by
      unfold isAgg
      rw [Sem.run_bind, run_underlying hu w]
      cases d <;> simp_all
    unfold Oper.wp execOp
    simp only [ho, hx, Instr.loadAt, Instr.sureAddr, Sem.run_bind, Sem.run_pure, Result.andThen_ok]
    simp [loadVar, hg, go_sem, hc]
    exact hK _ _ h

/-- Coefficients while they are made of planes. -/
structure Ec (w wr : World) (X : Array Value) (gv cv : Value) (D : List (List (List Int))) (F : List Nat) : Prop where
  pl : wr.heap[w.heap.size]? = some (.cells (plV X gv) 96 (0, 0))
  r : wr.heap[w.heap.size + 1]? = some (.cells #[.slice none 0 0] 38 (0, 0))
  c : wr.heap[w.heap.size + 1 + 1]? = some (.cells #[cv] 38 (0, 0))
  own : Ow3 wr cv D F
  nd : F.Nodup
  lo : ∀ g ∈ F, w.heap.size + 3 ≤ g
  grown : w.grownBy wr none
theorem Ec.size {w wr : World} {X : Array Value} {gv cv : Value} {D : List (List (List Int))} {F : List Nat} (h : Ec w wr X gv cv D F) : w.heap.size + 3 ≤ wr.heap.size := (Array.getElem?_eq_some_iff.1 h.c).1
theorem Ec.new {w wr w' : World} {X : Array Value} {gv cv : Value} {D : List (List (List Int))} {F : List Nat} (h : Ec w wr X gv cv D F) (g : wr.grownBy w' none) : Ec w w' X gv cv D F :=
  ⟨grown_atT g h.pl (by simp), grown_atT g h.r (by simp), grown_atT g h.c (by simp), ok3.keep h.own g, h.nd, h.lo, grown_trans h.grown g⟩

def coefsG (G : List Gd) : List (List (List Int)) := G.map (fun x => x.2.2)
theorem coefsG_next (G : List Gd) (i : Nat) (h : i < G.length) : (coefsG G).take i ++ [(G.getD i (0, 0, [])).2.2] = (coefsG G).take (i + 1) := by
  have e : (G.getD i (0, 0, [])).2.2 = (coefsG G)[i]'(by simpa [coefsG] using h) := by simp [coefsG, h]
  rw [e]
  exact takeX_next _ i _

end Go.Proofs.YtnbpfkeppogacaaGreat

namespace Go.Proofs.YtnbpfkeppogacaaGreat
open Go.RowKit Go.Shelf

/-- The spots of an area, given to a loop whose body may return. -/
theorem spots_stops (Bn wd ht : Nat) (hwd : wd ≤ 4096) (hht : ht ≤ 4096) (O : Nat → Prop) (w : World) (hBn : w.heap[Bn]? = some (.cells #[.int .i64 (wd : Int), .int .i64 (ht : Int)] 126 (0, 0))) (hOB : ¬ O Bn) :
    Stops Tryz.prog 98 #[.pointer (some ⟨Bn, 0, none⟩)] (fun x : Nat × Nat => #[.int .i64 (x.1 : Int), .int .i64 (x.2 : Int)]) (sTo wd ht) O w := by
  intro n l J Jx W hW _ hl hOl hwl hJ hY h0
  have hlt : Bn < w.heap.size := (Array.getElem?_eq_some_iff.1 hBn).1
  have hBW : W.heap[Bn]? = some (.cells #[.int .i64 (wd : Int), .int .i64 (ht : Int)] 126 (0, 0)) := (hW.block Bn hlt hOB).trans hBn
  have hltW : Bn < W.heap.size := (Array.getElem?_eq_some_iff.1 hBW).1
  refine callsIn_wide.2 ((callsIn_wide (n := 1)).1 ?_)
  refine (spots1_in Fence.wide 1 trivial rfl (Nat.le_refl _) l Bn wd ht hwd hht (fun pre W1 => J pre W1 ∧ But (fun k => O k ∨ k = l) W W1) (fun _ W1 => Jx W1 ∧ But (fun k => O k ∨ k = l) W W1) ?_ W hBW ⟨h0, But.refl _ _⟩).mono ?_
  · rintro pre x W1 ⟨hj, hb⟩ hlen
    obtain ⟨fn, tmps, assign, body, hy, hR⟩ := hY pre x W1 (1 - 1) hj hb hlen
    refine ⟨fn, tmps, assign, body, hy, hR.mono ?_⟩
    rintro e W' ⟨(⟨rfl, hj'⟩ | ⟨rfl, hj'⟩), hb'⟩
    · exact .inl ⟨rfl, ⟨hj', hb.trans hb'⟩, hb'.block Bn (Nat.lt_of_lt_of_le hltW hb.size) (fun e => by rcases e with e | e; exact hOB e; omega)⟩
    · exact .inr ⟨rfl, hj', hb.trans hb'⟩
  · rintro e W' ⟨hv, (⟨ys, rfl, hj, hb⟩ | ⟨pre, _, hj, hb⟩)⟩
    · exact ⟨hv, .inl hj, hb⟩
    · exact ⟨hv, .inr hj, hb⟩

theorem sCol_at (r : Nat) : ∀ (k j : Nat), j < k → (sCol r k)[j]? = some (r, j)
  | 0, j, h => by omega
  | k + 1, j, h => by
    rw [sCol]
    by_cases e : j < k
    · rw [List.getElem?_append_left (by rw [sCol_len]; exact e)]
      exact sCol_at r k j e
    · obtain rfl : j = k := by omega
      rw [List.getElem?_append_right (by rw [sCol_len]; exact Nat.le_refl _), sCol_len, Nat.sub_self]
      rfl
theorem sTo_at (W : Nat) : ∀ (H i : Nat) (x : Nat × Nat), (sTo W H)[i]? = some x → x.1 * W + x.2 = i ∧ x.1 < H ∧ x.2 < W
  | 0, i, x, h => by simp [sTo] at h
  | r + 1, i, x, h => by
    rw [sTo] at h
    by_cases e : i < r * W
    · rw [List.getElem?_append_left (by rw [sTo_len]; exact e)] at h
      obtain ⟨h1, h2, h3⟩ := sTo_at W r i x h
      exact ⟨h1, by omega, h3⟩
    · rw [List.getElem?_append_right (by rw [sTo_len]; omega), sTo_len] at h
      have hj : i - r * W < W := by
        have := (List.getElem?_eq_some_iff.1 h).1
        rwa [sCol_len] at this
      rw [sCol_at r W _ hj] at h
      have e2 : (r, i - r * W) = x := Option.some.inj h
      subst e2
      exact ⟨by show r * W + (i - r * W) = i; omega, by show r < r + 1; omega, hj⟩
theorem spot_num {W H : Nat} {pre : List (Nat × Nat)} {x : Nat × Nat} (h : pre ++ [x] <+: sTo W H) : x.1 * W + x.2 = pre.length ∧ x.1 < H ∧ x.2 < W := by
  obtain ⟨rest, e⟩ := h
  refine sTo_at W H pre.length x ?_
  rw [← e, List.append_assoc, List.getElem?_append_right (Nat.le_refl _), Nat.sub_self]
  rfl
theorem spot_less {W H : Nat} {pre : List (Nat × Nat)} {x : Nat × Nat} (h : pre ++ [x] <+: sTo W H) : pre.length < H * W := by
  have := h.length_le
  rw [sTo_len] at this
  simp at this
  omega

/-- The first blocks of P, behind them those of L. -/
def mixL (P L : List (List Int)) (k : Nat) : List (List Int) := P.take k ++ L.drop k
theorem mixL_len {P L : List (List Int)} (h : P.length = L.length) (k : Nat) : (mixL P L k).length = L.length := by
  unfold mixL
  rw [List.length_append, List.length_take, List.length_drop]
  omega
theorem mixL_zero (P L : List (List Int)) : mixL P L 0 = L := by simp [mixL]
theorem mixL_all {P L : List (List Int)} (h : P.length = L.length) : mixL P L L.length = P := by
  unfold mixL
  rw [← h, List.take_length, h, List.drop_length, List.append_nil]
theorem mixL_set {P L : List (List Int)} (h : P.length = L.length) (k : Nat) (hk : k < L.length) : (mixL P L k).set k (P.getD k []) = mixL P L (k + 1) := by
  have hp : k < P.length := by omega
  unfold mixL
  rw [List.set_append_right _ _ (by rw [List.length_take]; omega), List.length_take, Nat.min_eq_left (by omega), Nat.sub_self, List.drop_eq_getElem_cons hk, List.set_cons_zero, List.take_succ_eq_append_getElem hp, List.append_assoc]
  have e : P.getD k [] = P[k] := by simp [hp]
  rw [e]
  rfl

/-- A plane is ok. -/
theorem plane_all {bw bh nw nh : Nat} {P : List (List Int)} (h : P.length = bw * bh) (hb : ∀ k, k < P.length → blockB (hidB bw nw nh k) (P.getD k []) = true) : planeB bw bh nw nh P = true := by
  unfold planeB
  rw [Bool.and_eq_true]
  exact ⟨decide_eq_true h, List.all_eq_true.2 (fun k hk => hb k (by simpa using hk))⟩
theorem plane_bad {bw bh nw nh : Nat} {P : List (List Int)} (k : Nat) (hk : k < P.length) (hb : blockB (hidB bw nw nh k) (P.getD k []) = false) : planeB bw bh nw nh P = false := by
  cases h : planeB bw bh nw nh P with
  | false => rfl
  | true =>
    unfold planeB at h
    rw [Bool.and_eq_true] at h
    have := List.all_eq_true.1 h.2 k (by simpa using hk)
    rw [hb] at this
    exact this.symm
theorem plane_short {bw bh nw nh : Nat} {P : List (List Int)} (h : P.length ≠ bw * bh) : planeB bw bh nw nh P = false := by
  unfold planeB
  rw [decide_eq_false h, Bool.false_and]
theorem hid_spot {bw nw nh r c : Nat} (hc : c < bw) : hidB bw nw nh (r * bw + c) = (decide (nh ≤ r) || decide (nw ≤ c)) := by
  unfold hidB
  have h1 : (r * bw + c) / bw = r := by rw [Nat.mul_comm, Nat.mul_add_div (by omega), Nat.div_eq_of_lt hc]; omega
  have h2 : (r * bw + c) % bw = c := by rw [Nat.mul_comm, Nat.mul_add_mod, Nat.mod_eq_of_lt hc]
  rw [h1, h2]
theorem zero_same {xs : List Int} (h : xs.length = 64) : (xs == zs64) = zeroB xs := by
  rw [Bool.eq_iff_iff, beq_iff_eq]
  unfold zeroB
  rw [List.all_eq_true]
  constructor
  · rintro rfl x hx
    have := List.eq_of_mem_replicate hx
    simp [this]
  · intro hx
    unfold zs64
    rw [List.eq_replicate_iff]
    exact ⟨h, fun b hb => by simpa using hx b hb⟩

end Go.Proofs.YtnbpfkeppogacaaGreat

namespace Go.Proofs.YtnbpfkeppogacaaGreat
open Go.RowKit Go.Shelf

attribute [local go_sem] Oper.semAt_some

theorem load_rowR {F : Fence} {n : Nat} {P : Program} {ops : Array Oper} {rest : List Oper} {op : Oper} {a : Act} {w : World} {Q : Exit → Act → World → Prop} (hw : Region.wanted op (yielded ops a.tmps) = true) (ty : TypeId) (x : Operand) (ho : op.op = .load ty x)
    (b : Nat) (hx : a.eval x = .pointer (some ⟨b, 0, none⟩)) (X : Array Value) (t : TypeId) (hb : w.heap[b]? = some (.cells X t (0, 0))) (d : TypeDesc)
    (hu : P.underlying ty = some d) (hd : (match d with | .struct _ | .array _ _ => true | _ => false) = true) (hi : (P.info? ty).map (·.size) = some X.size)
    (h : wpListIn F n P ops Q rest (a.put op.dst (.agg X)) w) : wpListIn F n P ops Q (op :: rest) a w :=
  BigFrame.wpListIn_want hw fun K hK => by
    refine ⟨fun f hf => ?_, ?_⟩
    · simp [Oper.about, ho] at hf
    · rw [Oper.semAt_eq _ _ _ (by simp [ho]), exec_row ty x ho b hx X t hb d hu hd hi]
      exact hK _ _ h

/-- An operation whose guard is not met, inside of a round. -/
theorem skip_in {l n : Nat} {P : Program} {ops : Array Oper} {rest : List Oper} {op : Oper} {a : Act} {w : World} {Q : Exit → Act → World → Prop} (hw : Region.wanted op (yielded ops a.tmps) = false) (h : wpListIn (Fence.wide.inRound l) n P ops Q rest (a.put op.dst undef) w) : wpListIn (Fence.wide.inRound l) n P ops Q (op :: rest) a w :=
  wpListIn_step (fun K hK => by rw [hw]; exact ⟨fun _ _ => trivial, hK _ _ h⟩)

end Go.Proofs.YtnbpfkeppogacaaGreat

namespace Go.Proofs.YtnbpfkeppogacaaGreat
open Go.RowKit Go.Shelf

attribute [local go_sem] Oper.semAt_some

theorem load_bool {w : World} {g : Nat} {v : Value} (hc : w.cell? ⟨g, 0, none⟩ = some v) : (loadVar 4 ⟨g, 0, none⟩).run Tryz.prog w = .ok v w := by
  have hg : (isAgg 4).run Tryz.prog w = .ok false w := by
    unfold isAgg
    rw [Sem.run_bind, run_underlying Tryz.underlying4 w]
    rfl
  simp [loadVar, hg, go_sem, hc]

set_option maxRecDepth 100000 in
set_option maxHeartbeats 6400000 in
theorem fillPlanes (X : Array Value) (p wd ht rs : Int) (n : Nat) (C : Nat → Nat → Int) (hX : Fx X p wd ht rs n C) (hg : Geo wd ht n C (mostA 1 C 1 n) (mostA 1 C 2 n)) (gv : Value) (G : List Gd) (F : List Nat) (w : World) (hO : OwGr w gv G F) (hF : F.Nodup) (hl : G.length = n) (c : Nat) (hc : c < n) (L : List (List Int)) (hGc : G.getD c (0, 0, []) = (bwG wd n C c, bhG ht n C c, L)) (hL : L.length = bwG wd n C c * bhG ht n C c)
    (B : World) (hB : B.grownBy w none) (hFB : ∀ x ∈ F, B.heap.size ≤ x) (bv : Value) (P : List (List Int)) (hP : Rd2 B bv P) (t : Bool) (HT : Hid (planeB (bwG wd n C c) (bhG ht n C c) (nwG wd n C c) (nhG ht n C c) P = t)) :
    Calls Tryz.prog 66 #[.agg (plV X gv), .int .i64 (c : Int), bv] w fun e w' => e = .returned (.bool t) ∧ (∃ g ∈ F, Wr [g] w w') ∧ (t = true → ∃ F', OwGr w' gv (G.set c (bwG wd n C c, bhG ht n C c, P)) F' ∧ F'.Nodup ∧ ∀ x ∈ F', x ∈ F) := by
  have hd := dims_of hg c hc
  have hs := hX.size
  obtain ⟨po, pc, rfl, hPr⟩ := hP
  obtain ⟨gr, gcap, g, gc, rfl, q0, q1, q2, tg, hgr, hgF, hne, turn⟩ := grid_at hO hF c (by omega)
  rw [hGc] at q0 q1 q2 tg turn
  dsimp only at q0 q1 q2 tg turn
  have hwd := hd.bw1
  have hht := hd.bh1
  have hgl := okGr.lt _ _ _ _ hO g hgF
  have hgB := hFB g hgF
  have hBw := hB.size
  have hmul : bwG wd n C c * bhG ht n C c ≤ 128 * 128 := Nat.mul_le_mul hwd.2 hht.2
  have HX := hide hX
  have HGE := hide hg
  have HSX := hide hs
  have HD := hide hd
  generalize hbw : bwG wd n C c = bw at *
  generalize hbh : bhG ht n C c = bh at *
  have HBW := hide hbw
  have HBH := hide hbh
  rw [hl] at turn ⊢
  clear hX hg hs hO hF hd hbw hbh hGc
  obtain ⟨W4, hW4⟩ : ∃ W4, (((w.alloc (.cells (plV X (.slice (some ⟨gr, 0, none⟩) n gcap)) 96)).alloc (.cells #[.int .i64 (c : Int)] 3)).alloc (.cells #[.slice po P.length pc] 25)).alloc (.cells #[.bool false] 4) = W4 := ⟨_, rfl⟩
  have G4 : w.grownBy W4 none := by rw [← hW4]; exact grown_alloc (grown_alloc (grown_alloc (World.grownBy_alloc _ _ _) _) _) _
  have s4 : W4.heap.size = w.heap.size + 4 := by rw [← hW4]; simp
  have p3 : W4.heap[w.heap.size]? = some (.cells (plV X (.slice (some ⟨gr, 0, none⟩) n gcap)) 96 (0, 0)) := by
    rw [← hW4, Below.heap_alloc _ _ _ (by simp <;> omega), Below.heap_alloc _ _ _ (by simp <;> omega), Below.heap_alloc _ _ _ (by simp)]; exact heap_alloc_new w _
  have p4 : W4.heap[w.heap.size + 1]? = some (.cells #[.int .i64 (c : Int)] 3 (0, 0)) := by
    rw [← hW4, Below.heap_alloc _ _ _ (by simp <;> omega), Below.heap_alloc _ _ _ (by simp)]
    have := heap_alloc_new (w.alloc (.cells (plV X (.slice (some ⟨gr, 0, none⟩) n gcap)) 96)) (.cells #[.int .i64 (c : Int)] 3)
    simpa using this
  have p5 : W4.heap[w.heap.size + 1 + 1]? = some (.cells #[.slice po P.length pc] 25 (0, 0)) := by
    rw [← hW4, Below.heap_alloc _ _ _ (by simp)]
    have := heap_alloc_new ((w.alloc (.cells (plV X (.slice (some ⟨gr, 0, none⟩) n gcap)) 96)).alloc (.cells #[.int .i64 (c : Int)] 3)) (.cells #[.slice po P.length pc] 25)
    simpa using this
  have p6 : W4.heap[w.heap.size + 1 + 1 + 1]? = some (.cells #[.bool false] 4 (0, 0)) := by
    rw [← hW4]
    have := heap_alloc_new (((w.alloc (.cells (plV X (.slice (some ⟨gr, 0, none⟩) n gcap)) 96)).alloc (.cells #[.int .i64 (c : Int)] 3)).alloc (.cells #[.slice po P.length pc] 25)) (.cells #[.bool false] 4)
    simpa using this
  have k3 := (pl_grids (unhide HSX) p3).1
  have k4 : W4.cell? ⟨w.heap.size + 1, 0, none⟩ = some (.int .i64 (c : Int)) := by rw [cell_of_row W4 _ 0 _ _ (0, 0) p4]; rfl
  have QM := hide (grid_mid (G4.cell q0 (by simp)) (G4.cell q1 (by simp)) (G4.cell q2 (by simp)))
  have T4 := hide (tg.grown G4)
  have TURN := hide turn
  have HG4 := hide G4
  have HW4 := hide hW4
  have P3 := hide p3
  have P4 := hide p4
  have P5 := hide p5
  have P6 := hide p6
  have HPR := hide hPr
  have HBg := hide hB
  have HB7 := hide (heap_alloc_new W4 (.cells #[.int .i64 0, .int .i64 0, .slice none 0 0] 129))
  have i0 : (0 : Int) ≤ (c : Int) := by omega
  have i1 : (c : Int) < (n : Int) := by omega
  have HS4 := hide s4
  have HLL := hide hL
  clear q0 q1 q2 tg turn G4 hW4 p3 p4 p5 p6 hPr hB s4 hL
  refine (callsIn_wide (n := 0)).1 ?_
  refine callsIn_of_wp_marks Tryz.func66 rfl trivial ?_ rfl
  refine wpIn_wide.2 ?_
  simp only [Tryz.ntmps66, List.size_toArray, List.length_cons, List.length_nil, Nat.reduceAdd, Nat.reduceSub, Array.replicate_succ, Array.replicate_zero, List.push_toArray, List.append_toArray, List.nil_append, List.cons_append]
  go_wp2_with (first | (rw [unhide HW4]; refine load_one rfl _ _ rfl w.heap.size 21 rfl (.slice (some ⟨gr, 0, none⟩) n gcap) k3 _ Tryz.underlying94 rfl ?_) | (refine load_mid rfl 129 _ rfl gr (c * 3) rfl #[.int .i64 (bw : Int), .int .i64 (bh : Int), .slice (some ⟨g, 0, none⟩) L.length gc] (unhide QM) _ Tryz.underlying129 rfl (by kernel_rfl) ?_) | (refine store_row rfl 129 _ _ rfl W4.heap.size rfl #[.int .i64 (bw : Int), .int .i64 (bh : Int), .slice (some ⟨g, 0, none⟩) L.length gc] rfl _ 129 (unhide HB7) rfl (by kernel_rfl) (by simp [Value.oneCell']) ?_; intro w5 hB5 g5))
  have g05 : W4.grownBy w5 none := grown_new (World.grownBy_alloc W4 (.cells #[.int .i64 0, .int .i64 0, .slice none 0 0] 129) none) g5 (fun q e => by simp at e; omega)
  clear g5 HB7 HW4 QM k3 k4
  have s4 := unhide HS4
  have e5 := g05.size
  have d5 : W4.grownBy w5.drew none := grown_drew g05
  have B5 : Hid (w5.drew.heap[W4.heap.size]? = some (.cells #[.int .i64 (bw : Int), .int .i64 (bh : Int), .slice (some ⟨g, 0, none⟩) L.length gc] 129 (0, 0))) := hB5
  have l5 : W4.heap.size < w5.drew.heap.size := (Array.getElem?_eq_some_iff.1 hB5).1
  have c5 : Hid (w5.drew.cell? ⟨w.heap.size + 1 + 1, 0, none⟩ = some (.slice po P.length pc)) := by unfold Hid; rw [cell_of_row _ _ 0 _ _ (0, 0) (grown_atT d5 (unhide P5) (by simp))]; rfl
  have c70 : Hid (w5.drew.cell? ⟨W4.heap.size, 0, none⟩ = some (.int .i64 (bw : Int))) := by unfold Hid; rw [cell_of_row _ _ 0 _ _ (0, 0) (unhide B5)]; rfl
  have c71 : Hid (w5.drew.cell? ⟨W4.heap.size, 0 + 1, none⟩ = some (.int .i64 (bh : Int))) := by unfold Hid; rw [cell_of_row _ _ 1 _ _ (0, 0) (unhide B5)]; rfl
  clear s4
  refine wp_region_noPanic ?_
  refine wp_region_tailL 20 (fun W => w5.drew.grownBy W none) [true, true, true, true, false, false] (by kernel_rfl) (fun _ _ _ _ _ h => h) rfl (by decide) (by kernel_rfl) (World.grownBy.refl _ _) ?_
  generalize w5.drew = w6 at *
  clear hB5 g05 e5
  refine heldF_take (v := ?_) (Or.inl ⟨by rfl, ?_⟩) ?_
  rotate_left 1
  · intro w' hSw
    have cc := hSw.cell (unhide c5) (by simp)
    go_simp
    try with_reducible rfl
  simp only [Act.put, List.setIfInBounds_toArray, List.set_cons_zero, List.set_cons_succ]
  iterate 2
    refine heldF_take (v := ?_) (Or.inl ⟨by rfl, ?_⟩) ?_
    rotate_left 1
    · intro w' hSw
      go_simp
      try with_reducible rfl
    simp only [Act.put, List.setIfInBounds_toArray, List.set_cons_zero, List.set_cons_succ]
  refine heldF_take (v := .agg #[.int .i64 (bw : Int), .int .i64 (bh : Int)]) (Or.inl ⟨by rfl, ?_⟩) ?_
  · intro w' hSw
    exact exec_mid 126 _ rfl W4.heap.size 0 rfl _ (area_mid (hSw.cell (unhide c70) (by simp)) (hSw.cell (unhide c71) (by simp))) _ Tryz.underlying126 rfl (by kernel_rfl)
  simp only [Act.put, List.setIfInBounds_toArray, List.set_cons_zero, List.set_cons_succ]
  refine heldF_skip (heldF_skip (heldF_nil ?_))
  refine tailL_skip (tailL_skip (tailL_skip (tailL_skip ?_)))
  refine tailL_step (fun K hK => ?_)
  go_simp
  refine (areaCount (bw : Int) (bh : Int) (by omega) (by omega) w6).mono ?_
  rintro e w7 ⟨rfl, g7⟩
  refine hK.out _ _ (.inr g7) ?_
  clear hK K
  try simp only [Act.put, List.setIfInBounds_toArray, List.set_cons_zero, List.set_cons_succ]
  have d7 := grown_trans d5 g7
  have e7 := g7.size
  have cr : w7.cell? ⟨w.heap.size + 1 + 1 + 1, 0, none⟩ = some (.bool false) := by rw [cell_of_row _ _ 0 _ _ (0, 0) (grown_atT d7 (unhide P6) (by simp))]; rfl
  have fr := frozen_of_row w7 (w.heap.size + 1 + 1 + 1) 0 _ _ (grown_atT d7 (unhide P6) (by simp))
  have k70 := g7.cell (unhide c70) (by simp)
  have k71 := g7.cell (unhide c71) (by simp)
  simp only [Nat.zero_add] at k71
  refine tailL_step (fun K hK => ?_)
  by_cases hPL : P.length = bw * bh
  · have hpl : ((P.length : Int) != (bw : Int) * (bh : Int)) = false := by simp [hPL]
    have HPL := hide hPL
    clear hPL
    go_simp
    refine hK.out _ _ (.inl rfl) (tailL_nil (NoPanic.normal ?_))
    clear hK K hpl cr fr
    have T7 := hide ((unhide T4).grown d7)
    have B7 := hide (grown_atT g7 (unhide B5) (by simp))
    clear T4 B5 c5 c70 c71
    go_wp2_with fail
    refine (callsIn_wide.1 (spots_in Fence.wide 0 trivial rfl _ _ _)).mono ?_
    rintro e w' ⟨rfl, rfl⟩
    obtain ⟨w8, hw8⟩ : ∃ w8, w7.alloc (.cells #[.int .i64 (bw : Int), .int .i64 (bh : Int)] 126) = w8 := ⟨_, rfl⟩
    have g8 : w7.grownBy w8 none := by rw [← hw8]; exact World.grownBy_alloc _ _ _
    have s8 : w8.heap.size = w7.heap.size + 1 := by rw [← hw8]; simp
    have ba8 : w8.heap[w7.heap.size]? = some (.cells #[.int .i64 (bw : Int), .int .i64 (bh : Int)] 126 (0, 0)) := by rw [← hw8]; exact heap_alloc_new _ _
    rw [hw8]
    have d8 := grown_trans d7 g8
    have T8 := hide ((unhide T7).grown g8)
    have B8 := hide (grown_atT g8 (unhide B7) (by simp))
    have R8 := hide (grown_atT d8 (unhide P6) (by simp))
    have P38 := hide (grown_atT d8 (unhide P3) (by simp))
    have P48 := hide (grown_atT d8 (unhide P4) (by simp))
    have P58 := hide (grown_atT d8 (unhide P5) (by simp))
    have BA8 := hide ba8
    have D8 := hide d8
    clear hw8 g8 T7 B7 k70 k71 d7 d5 g7 ba8 d8
    go_wp2
    refine (wpIn_wide (n := 0)).1 ?_
    refine rangeFunc_stops (gf := 98) (lb := #[.pointer (some ⟨w7.heap.size, 0, none⟩)]) (O := fun k => k = g ∨ k = w.heap.size + 1 + 1 + 1) rfl (enters_of Tryz.func98 (by kernel_rfl) rfl) (fun k hk => by have s4 := unhide HS4; omega)
      (spots_stops w7.heap.size bw bh (by omega) (by omega) _ w8 (unhide BA8) (fun e => by have s4 := unhide HS4; omega)) (fun _ => rfl)
      (fun pre W => Th_gridrows W g (mixL P L pre.length) ∧ (∀ k, k < pre.length → blockB (hidB bw (nwG wd n C c) (nhG ht n C c) k) (P.getD k []) = true) ∧ W.heap[w.heap.size + 1 + 1 + 1]? = some (.cells #[.bool false] 4 (0, 0)))
      (fun pre W W' h hk => ⟨h.1.same (hk g (.inl rfl)), h.2.1, (hk _ (.inr rfl)).trans h.2.2⟩)
      (fun W => t = false ∧ W.heap[w.heap.size + 1 + 1 + 1]? = some (.cells #[.bool false] 4 (0, 0)))
      (fun W W' h hk => ⟨h.1, (hk _ (.inr rfl)).trans h.2⟩)
      ⟨by rw [List.length_nil, mixL_zero]; exact unhide T8, fun k hk => by simp at hk, unhide R8⟩ ?a1 ?assign ?body ?done ?stop
    case assign =>
      intro l' mm x Wa K hK
      gi_wp2
      exact hK
    case body =>
      intro l' mm pre x Wa hI hb hlen
      obtain ⟨hk1, hk2, hk3⟩ := spot_num hlen
      have hkl := spot_less hlen
      obtain ⟨r, cc⟩ := x
      dsimp only at hk1 hk2 hk3 ⊢
      obtain ⟨hTa, hok, hRa⟩ := hI
      have s4 := unhide HS4
      have hkP : pre.length < P.length := by have := unhide HPL; rw [this, Nat.mul_comm]; exact hkl
      have BW8 : B.grownBy w8 none := grown_trans (unhide HBg) (grown_trans (unhide HG4) (unhide D8))
      have BWa : B.grownBy Wa none := ⟨hb.os.trans BW8.os, hb.tape.trans BW8.tape, hb.output.trans BW8.output, Nat.le_trans BW8.size hb.size, fun q hq _ => (hb.block q (by have := BW8.size; omega) (fun e => by omega)).trans (BW8.block q hq (by simp))⟩
      obtain ⟨pb, poff, u, rfl, cu, uo, uc, rfl, ru⟩ := unhide HPR pre.length hkP
      obtain ⟨zs, HZS⟩ : ∃ zs, Hid (P.getD pre.length [] = zs) := ⟨_, rfl⟩
      have ezs : P[pre.length] = zs := by rw [← unhide HZS]; simp [hkP]
      rw [ezs] at cu ru
      obtain ⟨un, HUN⟩ : ∃ un, Hid (zs.length = un) := ⟨_, rfl⟩
      rw [unhide HUN] at cu ru
      clear ezs
      have CU := hide (BWa.cell cu (by simp))
      have RU := hide (ru.grown BWa)
      have X3 := hide ((hb.block w.heap.size (by omega) (fun e => by omega)).trans (unhide P38))
      have X4 := hide ((hb.block (w.heap.size + 1) (by omega) (fun e => by omega)).trans (unhide P48))
      have X5 := hide ((hb.block (w.heap.size + 1 + 1) (by omega) (fun e => by omega)).trans (unhide P58))
      have X7 := hide ((hb.block W4.heap.size (by omega) (fun e => by omega)).trans (unhide B8))
      obtain ⟨okb, HOK⟩ : ∃ okb, Hid (levB (-16383) 16383 zs = okb) := ⟨_, rfl⟩
      have j0 : (0 : Int) ≤ (pre.length : Int) := by omega
      have j1 : (pre.length : Int) < (P.length : Int) := by omega
      have hsz : w8.heap.size ≤ Wa.heap.size := hb.size
      have HTA := hide hTa
      have HRA := hide hRa
      have HOKS := hide hok
      have HBA := hide hb
      have HLEN := hide hlen
      have HK1 := hide hk1
      have HKP := hide hkP
      have HSZ := hide hsz
      clear hTa hRa hok hb hlen hk1 hkP cu ru BW8 BWa hsz s4 hkl
      gi_wp2
      refine wpIn_mono (Q := fun e a' W' => e = .normal ∧ ∃ b ys, a' = { tmps := #[.agg (plV X (.slice (some ⟨gr, 0, none⟩) n gcap)), .int .i64 (c : Int), .slice (some ⟨pb, poff, none⟩) P.length pc, .pointer (some ⟨w.heap.size, 0, none⟩), .pointer (some ⟨w.heap.size + 1, 0, none⟩), .pointer (some ⟨w.heap.size + 1 + 1, 0, none⟩), .pointer (some ⟨w.heap.size + 1 + 1 + 1, 0, none⟩), .pointer (some ⟨W4.heap.size, 0, none⟩), .int .i64 (r : Int), .int .i64 (cc : Int), .pointer (some ⟨b, 0, none⟩), .bool okb, .pointer (some ⟨w.heap.size, 21, none⟩), .slice (some ⟨gr, 0, none⟩) n gcap, .int .i64 (c : Int), .pointer (some ⟨gr, c * 3, none⟩), .agg #[.int .i64 (bw : Int), .int .i64 (bh : Int), .slice (some ⟨g, 0, none⟩) L.length gc], .slice (some ⟨pb, poff, none⟩) P.length pc, .int .i64 (P.length : Int), .pointer (some ⟨W4.heap.size, 0, none⟩), .agg #[.int .i64 (bw : Int), .int .i64 (bh : Int)], .int .i64 ((bw : Int) * (bh : Int)), .bool false, .pointer (some ⟨W4.heap.size, 0, none⟩), .agg #[.int .i64 (bw : Int), .int .i64 (bh : Int)], .func (.func 98) #[] #[.pointer (some ⟨w7.heap.size, 0, none⟩)], .int .i64 (r : Int), .int .i64 (cc : Int), .tuple #[.agg (sq ys), .bool okb], .slice (some ⟨pb, poff, none⟩) P.length pc, .agg #[.int .i64 (bw : Int), .int .i64 (bh : Int), .slice (some ⟨g, 0, none⟩) L.length gc], .int .i64 (r : Int), .int .i64 (cc : Int), .int .i64 (pre.length : Int), .pointer (some ⟨pb, poff + pre.length, none⟩), .slice uo un uc, .tuple #[.agg (sq ys), .bool okb], .agg (sq ys), .bool okb, undef, undef, undef, undef, undef, undef, undef, undef, undef, undef, undef, undef, undef, undef, undef, undef, undef, undef, undef, undef, undef], defers := [] } ∧ ys.length = 64 ∧ (un = 64 → ys = zs) ∧ W'.heap[b]? = some (.cells (sq ys) 113 (0, 0)) ∧ Wa.heap.size ≤ b ∧ Wa.grownBy W' none) ?region ?rest
      case region =>
        refine wpIn_raw (fun W => Wa.drew.grownBy W none) [true, true, true, true, false, false, false, false, false, false, false, false, false, false] (by kernel_rfl) (fun a' W' h => by cases h.1) (fun c' a' d' v' W' h => by cases h.1) rfl (by rfl) (by kernel_rfl) (World.grownBy.refl _ _) ?_
        have gd : Wa.grownBy Wa.drew none := grown_drew (World.grownBy.refl _ _)
        have x5 : Hid (Wa.drew.cell? ⟨w.heap.size + 1 + 1, 0, none⟩ = some (.slice (some ⟨pb, poff, none⟩) P.length pc)) := by unfold Hid; rw [cell_of_row _ _ 0 _ _ (0, 0) (grown_atT gd (unhide X5) (by simp))]; rfl
        have x7 := hide (grown_atT gd (unhide X7) (by simp))
        have cu := hide (gd.cell (unhide CU) (by simp))
        have ru := hide ((unhide RU).grown gd)
        have HSD : Hid (Wa.drew.heap.size = Wa.heap.size) := rfl
        generalize Wa.drew = Wd at *
        refine heldF_take (v := ?_) (Or.inl ⟨by rfl, ?_⟩) ?_
        rotate_left 1
        · intro w' hSw
          have c5 := hSw.cell (unhide x5) (by simp)
          go_simp
          try with_reducible rfl
        simp only [Act.put, List.setIfInBounds_toArray, List.set_cons_zero, List.set_cons_succ]
        refine heldF_take (v := .agg #[.int .i64 (bw : Int), .int .i64 (bh : Int), .slice (some ⟨g, 0, none⟩) L.length gc]) (Or.inl ⟨by rfl, ?_⟩) ?_
        · intro w' hSw
          exact exec_row 129 _ rfl W4.heap.size rfl _ _ (grown_atT hSw (unhide x7) (by simp)) _ Tryz.underlying129 rfl (by kernel_rfl)
        simp only [Act.put, List.setIfInBounds_toArray, List.set_cons_zero, List.set_cons_succ]
        refine heldF_take (v := ?_) (Or.inl ⟨by rfl, ?_⟩) ?_
        rotate_left 1
        · intro w' hSw
          go_simp
          try with_reducible rfl
        simp only [Act.put, List.setIfInBounds_toArray, List.set_cons_zero, List.set_cons_succ]
        refine heldF_take (v := ?_) (Or.inl ⟨by rfl, ?_⟩) ?_
        rotate_left 1
        · intro w' hSw
          go_simp
          try with_reducible rfl
        simp only [Act.put, List.setIfInBounds_toArray, List.set_cons_zero, List.set_cons_succ]
        refine heldF_skip (heldF_skip (heldF_skip (heldF_skip (heldF_skip (heldF_skip (heldF_skip (heldF_skip (heldF_skip (heldF_skip (heldF_nil ?_))))))))))
        refine anyH_step2 (i := 4) (j := 11) rfl rfl (by kernel_rfl) (fun K hK => ?_) (fun K hK => ?_)
        · skip
          go_simp
          refine (gridIndex bw r cc _ _ (by omega) (by omega) (by omega) pre.length HK1 Wd).mono ?_
          rintro e w1 ⟨rfl, gi⟩
          have gw1 := gi
          clear gi
          refine hK.out _ _ gw1 ?_
          clear hK K
          try simp only [Act.put, List.setIfInBounds_toArray, List.set_cons_zero, List.set_cons_succ]
          refine anyH_take (i := 5) (v := ?_) rfl (by kernel_rfl) (fun _ _ _ h => by cases h.1) (Or.inl ⟨by rfl, ?_⟩) gw1 ?_
          rotate_left 1
          · intro w' hSw
            go_simp
            try with_reducible rfl
          try simp only [Act.put, List.setIfInBounds_toArray, List.set_cons_zero, List.set_cons_succ]
          refine anyH_take (i := 6) (v := ?_) rfl (by kernel_rfl) (fun _ _ _ h => by cases h.1) (Or.inl ⟨by rfl, ?_⟩) gw1 ?_
          rotate_left 1
          · intro w' hSw
            have c6 := hSw.cell (unhide cu) (by simp)
            go_simp
            try with_reducible rfl
          try simp only [Act.put, List.setIfInBounds_toArray, List.set_cons_zero, List.set_cons_succ]
          refine anyH_step2 (i := 7) (j := 11) rfl rfl (by kernel_rfl) (fun K hK => ?_) (fun K hK => ?_)
          · skip
            go_simp
            refine (fixLevels uo un uc zs w1 ((unhide ru).grown gw1) okb HOK).mono ?_
            rintro e w2 ⟨⟨ys, rfl, hyl, hyz⟩, gi⟩
            have gw2 := grown_trans gw1 gi
            refine hK.out _ _ gw2 ?_
            clear hK K
            try simp only [Act.put, List.setIfInBounds_toArray, List.set_cons_zero, List.set_cons_succ]
            refine anyH_take (i := 8) (v := ?_) rfl (by kernel_rfl) (fun _ _ _ h => by cases h.1) (Or.inl ⟨by rfl, ?_⟩) gw2 ?_
            rotate_left 1
            · intro w' hSw
              go_simp
              try with_reducible rfl
            try simp only [Act.put, List.setIfInBounds_toArray, List.set_cons_zero, List.set_cons_succ]
            refine anyH_take (i := 9) (v := ?_) rfl (by kernel_rfl) (fun _ _ _ h => by cases h.1) (Or.inl ⟨by rfl, ?_⟩) gw2 ?_
            rotate_left 1
            · intro w' hSw
              go_simp
              try with_reducible rfl
            try simp only [Act.put, List.setIfInBounds_toArray, List.set_cons_zero, List.set_cons_succ]
            refine anyH_take (i := 10) (v := ?_) rfl (by kernel_rfl) (fun _ _ _ h => by cases h.1) (Or.inl ⟨by rfl, ?_⟩) gw2 ?_
            rotate_left 1
            · intro w' hSw
              go_simp
              try with_reducible rfl
            try simp only [Act.put, List.setIfInBounds_toArray, List.set_cons_zero, List.set_cons_succ]
            refine anyH_step1 (i := 11) rfl (by kernel_rfl) (fun K hK => ?_)
            go_simp
            have baw3 := heap_alloc_new w2 (.cells #[.int .i64 0, .int .i64 0, .int .i64 0, .int .i64 0, .int .i64 0, .int .i64 0, .int .i64 0, .int .i64 0, .int .i64 0, .int .i64 0, .int .i64 0, .int .i64 0, .int .i64 0, .int .i64 0, .int .i64 0, .int .i64 0, .int .i64 0, .int .i64 0, .int .i64 0, .int .i64 0, .int .i64 0, .int .i64 0, .int .i64 0, .int .i64 0, .int .i64 0, .int .i64 0, .int .i64 0, .int .i64 0, .int .i64 0, .int .i64 0, .int .i64 0, .int .i64 0, .int .i64 0, .int .i64 0, .int .i64 0, .int .i64 0, .int .i64 0, .int .i64 0, .int .i64 0, .int .i64 0, .int .i64 0, .int .i64 0, .int .i64 0, .int .i64 0, .int .i64 0, .int .i64 0, .int .i64 0, .int .i64 0, .int .i64 0, .int .i64 0, .int .i64 0, .int .i64 0, .int .i64 0, .int .i64 0, .int .i64 0, .int .i64 0, .int .i64 0, .int .i64 0, .int .i64 0, .int .i64 0, .int .i64 0, .int .i64 0, .int .i64 0, .int .i64 0] 113)
            have gw3 : Wd.grownBy (w2.alloc (.cells #[.int .i64 0, .int .i64 0, .int .i64 0, .int .i64 0, .int .i64 0, .int .i64 0, .int .i64 0, .int .i64 0, .int .i64 0, .int .i64 0, .int .i64 0, .int .i64 0, .int .i64 0, .int .i64 0, .int .i64 0, .int .i64 0, .int .i64 0, .int .i64 0, .int .i64 0, .int .i64 0, .int .i64 0, .int .i64 0, .int .i64 0, .int .i64 0, .int .i64 0, .int .i64 0, .int .i64 0, .int .i64 0, .int .i64 0, .int .i64 0, .int .i64 0, .int .i64 0, .int .i64 0, .int .i64 0, .int .i64 0, .int .i64 0, .int .i64 0, .int .i64 0, .int .i64 0, .int .i64 0, .int .i64 0, .int .i64 0, .int .i64 0, .int .i64 0, .int .i64 0, .int .i64 0, .int .i64 0, .int .i64 0, .int .i64 0, .int .i64 0, .int .i64 0, .int .i64 0, .int .i64 0, .int .i64 0, .int .i64 0, .int .i64 0, .int .i64 0, .int .i64 0, .int .i64 0, .int .i64 0, .int .i64 0, .int .i64 0, .int .i64 0, .int .i64 0] 113)) none := grown_alloc gw2 _
            obtain ⟨b, hbe⟩ : ∃ b, w2.heap.size = b := ⟨_, rfl⟩
            have hlo : Wd.heap.size ≤ b := by rw [← hbe]; exact gw2.size
            rw [hbe] at baw3 ⊢
            generalize w2.alloc (.cells #[.int .i64 0, .int .i64 0, .int .i64 0, .int .i64 0, .int .i64 0, .int .i64 0, .int .i64 0, .int .i64 0, .int .i64 0, .int .i64 0, .int .i64 0, .int .i64 0, .int .i64 0, .int .i64 0, .int .i64 0, .int .i64 0, .int .i64 0, .int .i64 0, .int .i64 0, .int .i64 0, .int .i64 0, .int .i64 0, .int .i64 0, .int .i64 0, .int .i64 0, .int .i64 0, .int .i64 0, .int .i64 0, .int .i64 0, .int .i64 0, .int .i64 0, .int .i64 0, .int .i64 0, .int .i64 0, .int .i64 0, .int .i64 0, .int .i64 0, .int .i64 0, .int .i64 0, .int .i64 0, .int .i64 0, .int .i64 0, .int .i64 0, .int .i64 0, .int .i64 0, .int .i64 0, .int .i64 0, .int .i64 0, .int .i64 0, .int .i64 0, .int .i64 0, .int .i64 0, .int .i64 0, .int .i64 0, .int .i64 0, .int .i64 0, .int .i64 0, .int .i64 0, .int .i64 0, .int .i64 0, .int .i64 0, .int .i64 0, .int .i64 0, .int .i64 0] 113) = w3 at *
            clear hbe
            refine hK.out _ _ gw3 ?_
            clear hK K
            try simp only [Act.put, List.setIfInBounds_toArray, List.set_cons_zero, List.set_cons_succ]
            refine anyH_step1 (i := 12) rfl (by kernel_rfl) (fun K hK => ?_)
            refine step_store_row (by rfl) 113 _ _ rfl b rfl (sq ys) rfl #[.int .i64 0, .int .i64 0, .int .i64 0, .int .i64 0, .int .i64 0, .int .i64 0, .int .i64 0, .int .i64 0, .int .i64 0, .int .i64 0, .int .i64 0, .int .i64 0, .int .i64 0, .int .i64 0, .int .i64 0, .int .i64 0, .int .i64 0, .int .i64 0, .int .i64 0, .int .i64 0, .int .i64 0, .int .i64 0, .int .i64 0, .int .i64 0, .int .i64 0, .int .i64 0, .int .i64 0, .int .i64 0, .int .i64 0, .int .i64 0, .int .i64 0, .int .i64 0, .int .i64 0, .int .i64 0, .int .i64 0, .int .i64 0, .int .i64 0, .int .i64 0, .int .i64 0, .int .i64 0, .int .i64 0, .int .i64 0, .int .i64 0, .int .i64 0, .int .i64 0, .int .i64 0, .int .i64 0, .int .i64 0, .int .i64 0, .int .i64 0, .int .i64 0, .int .i64 0, .int .i64 0, .int .i64 0, .int .i64 0, .int .i64 0, .int .i64 0, .int .i64 0, .int .i64 0, .int .i64 0, .int .i64 0, .int .i64 0, .int .i64 0, .int .i64 0] 113 baw3 (by rw [sq_size, hyl]; rfl) (by rw [sq_size, hyl]; kernel_rfl) (sq_one _) ?_
            intro w9 hB9 g9
            have gw9 : Wd.grownBy w9 none := grown_new gw3 g9 (fun q e => by simp at e; omega)
            refine hK.out _ _ gw9 ?_
            clear hK K
            simp only [Act.put]
            refine anyH_step1 (i := 13) rfl (by kernel_rfl) (fun K hK => ?_)
            go_simp
            refine hK.out _ _ gw9 ?_
            clear hK K
            try simp only [Act.put, List.setIfInBounds_toArray, List.set_cons_zero, List.set_cons_succ]
            refine wpAnyH_done (by kernel_rfl) ?_ _
            exact ⟨rfl, b, ys, rfl, hyl, hyz, hB9, by have := unhide HSD; omega, grown_trans gd gw9⟩
          · skip
            go_simp
            have baw2 := heap_alloc_new w1 (.cells #[.int .i64 0, .int .i64 0, .int .i64 0, .int .i64 0, .int .i64 0, .int .i64 0, .int .i64 0, .int .i64 0, .int .i64 0, .int .i64 0, .int .i64 0, .int .i64 0, .int .i64 0, .int .i64 0, .int .i64 0, .int .i64 0, .int .i64 0, .int .i64 0, .int .i64 0, .int .i64 0, .int .i64 0, .int .i64 0, .int .i64 0, .int .i64 0, .int .i64 0, .int .i64 0, .int .i64 0, .int .i64 0, .int .i64 0, .int .i64 0, .int .i64 0, .int .i64 0, .int .i64 0, .int .i64 0, .int .i64 0, .int .i64 0, .int .i64 0, .int .i64 0, .int .i64 0, .int .i64 0, .int .i64 0, .int .i64 0, .int .i64 0, .int .i64 0, .int .i64 0, .int .i64 0, .int .i64 0, .int .i64 0, .int .i64 0, .int .i64 0, .int .i64 0, .int .i64 0, .int .i64 0, .int .i64 0, .int .i64 0, .int .i64 0, .int .i64 0, .int .i64 0, .int .i64 0, .int .i64 0, .int .i64 0, .int .i64 0, .int .i64 0, .int .i64 0] 113)
            have gw2 : Wd.grownBy (w1.alloc (.cells #[.int .i64 0, .int .i64 0, .int .i64 0, .int .i64 0, .int .i64 0, .int .i64 0, .int .i64 0, .int .i64 0, .int .i64 0, .int .i64 0, .int .i64 0, .int .i64 0, .int .i64 0, .int .i64 0, .int .i64 0, .int .i64 0, .int .i64 0, .int .i64 0, .int .i64 0, .int .i64 0, .int .i64 0, .int .i64 0, .int .i64 0, .int .i64 0, .int .i64 0, .int .i64 0, .int .i64 0, .int .i64 0, .int .i64 0, .int .i64 0, .int .i64 0, .int .i64 0, .int .i64 0, .int .i64 0, .int .i64 0, .int .i64 0, .int .i64 0, .int .i64 0, .int .i64 0, .int .i64 0, .int .i64 0, .int .i64 0, .int .i64 0, .int .i64 0, .int .i64 0, .int .i64 0, .int .i64 0, .int .i64 0, .int .i64 0, .int .i64 0, .int .i64 0, .int .i64 0, .int .i64 0, .int .i64 0, .int .i64 0, .int .i64 0, .int .i64 0, .int .i64 0, .int .i64 0, .int .i64 0, .int .i64 0, .int .i64 0, .int .i64 0, .int .i64 0] 113)) none := grown_alloc gw1 _
            obtain ⟨b, hbe⟩ : ∃ b, w1.heap.size = b := ⟨_, rfl⟩
            have hlo : Wd.heap.size ≤ b := by rw [← hbe]; exact gw1.size
            rw [hbe] at baw2 ⊢
            generalize w1.alloc (.cells #[.int .i64 0, .int .i64 0, .int .i64 0, .int .i64 0, .int .i64 0, .int .i64 0, .int .i64 0, .int .i64 0, .int .i64 0, .int .i64 0, .int .i64 0, .int .i64 0, .int .i64 0, .int .i64 0, .int .i64 0, .int .i64 0, .int .i64 0, .int .i64 0, .int .i64 0, .int .i64 0, .int .i64 0, .int .i64 0, .int .i64 0, .int .i64 0, .int .i64 0, .int .i64 0, .int .i64 0, .int .i64 0, .int .i64 0, .int .i64 0, .int .i64 0, .int .i64 0, .int .i64 0, .int .i64 0, .int .i64 0, .int .i64 0, .int .i64 0, .int .i64 0, .int .i64 0, .int .i64 0, .int .i64 0, .int .i64 0, .int .i64 0, .int .i64 0, .int .i64 0, .int .i64 0, .int .i64 0, .int .i64 0, .int .i64 0, .int .i64 0, .int .i64 0, .int .i64 0, .int .i64 0, .int .i64 0, .int .i64 0, .int .i64 0, .int .i64 0, .int .i64 0, .int .i64 0, .int .i64 0, .int .i64 0, .int .i64 0, .int .i64 0, .int .i64 0] 113) = w2 at *
            clear hbe
            refine hK.out _ _ gw2 ?_
            clear hK K
            try simp only [Act.put, List.setIfInBounds_toArray, List.set_cons_zero, List.set_cons_succ]
            refine anyH_step1 (i := 7) rfl (by kernel_rfl) (fun K hK => ?_)
            go_simp
            refine (fixLevels uo un uc zs w2 ((unhide ru).grown gw2) okb HOK).mono ?_
            rintro e w3 ⟨⟨ys, rfl, hyl, hyz⟩, gi⟩
            have gw3 := grown_trans gw2 gi
            refine hK.out _ _ gw3 ?_
            clear hK K
            try simp only [Act.put, List.setIfInBounds_toArray, List.set_cons_zero, List.set_cons_succ]
            refine anyH_take (i := 8) (v := ?_) rfl (by kernel_rfl) (fun _ _ _ h => by cases h.1) (Or.inl ⟨by rfl, ?_⟩) gw3 ?_
            rotate_left 1
            · intro w' hSw
              go_simp
              try with_reducible rfl
            try simp only [Act.put, List.setIfInBounds_toArray, List.set_cons_zero, List.set_cons_succ]
            refine anyH_take (i := 9) (v := ?_) rfl (by kernel_rfl) (fun _ _ _ h => by cases h.1) (Or.inl ⟨by rfl, ?_⟩) gw3 ?_
            rotate_left 1
            · intro w' hSw
              go_simp
              try with_reducible rfl
            try simp only [Act.put, List.setIfInBounds_toArray, List.set_cons_zero, List.set_cons_succ]
            refine anyH_take (i := 10) (v := ?_) rfl (by kernel_rfl) (fun _ _ _ h => by cases h.1) (Or.inl ⟨by rfl, ?_⟩) gw3 ?_
            rotate_left 1
            · intro w' hSw
              go_simp
              try with_reducible rfl
            try simp only [Act.put, List.setIfInBounds_toArray, List.set_cons_zero, List.set_cons_succ]
            have baw3 := grown_atT gi baw2 (by simp)
            refine anyH_step1 (i := 12) rfl (by kernel_rfl) (fun K hK => ?_)
            refine step_store_row (by rfl) 113 _ _ rfl b rfl (sq ys) rfl #[.int .i64 0, .int .i64 0, .int .i64 0, .int .i64 0, .int .i64 0, .int .i64 0, .int .i64 0, .int .i64 0, .int .i64 0, .int .i64 0, .int .i64 0, .int .i64 0, .int .i64 0, .int .i64 0, .int .i64 0, .int .i64 0, .int .i64 0, .int .i64 0, .int .i64 0, .int .i64 0, .int .i64 0, .int .i64 0, .int .i64 0, .int .i64 0, .int .i64 0, .int .i64 0, .int .i64 0, .int .i64 0, .int .i64 0, .int .i64 0, .int .i64 0, .int .i64 0, .int .i64 0, .int .i64 0, .int .i64 0, .int .i64 0, .int .i64 0, .int .i64 0, .int .i64 0, .int .i64 0, .int .i64 0, .int .i64 0, .int .i64 0, .int .i64 0, .int .i64 0, .int .i64 0, .int .i64 0, .int .i64 0, .int .i64 0, .int .i64 0, .int .i64 0, .int .i64 0, .int .i64 0, .int .i64 0, .int .i64 0, .int .i64 0, .int .i64 0, .int .i64 0, .int .i64 0, .int .i64 0, .int .i64 0, .int .i64 0, .int .i64 0, .int .i64 0] 113 baw3 (by rw [sq_size, hyl]; rfl) (by rw [sq_size, hyl]; kernel_rfl) (sq_one _) ?_
            intro w9 hB9 g9
            have gw9 : Wd.grownBy w9 none := grown_new gw3 g9 (fun q e => by simp at e; omega)
            refine hK.out _ _ gw9 ?_
            clear hK K
            simp only [Act.put]
            refine anyH_step1 (i := 13) rfl (by kernel_rfl) (fun K hK => ?_)
            go_simp
            refine hK.out _ _ gw9 ?_
            clear hK K
            try simp only [Act.put, List.setIfInBounds_toArray, List.set_cons_zero, List.set_cons_succ]
            refine wpAnyH_done (by kernel_rfl) ?_ _
            exact ⟨rfl, b, ys, rfl, hyl, hyz, hB9, by have := unhide HSD; omega, grown_trans gd gw9⟩
        · skip
          go_simp
          have baw1 := heap_alloc_new Wd (.cells #[.int .i64 0, .int .i64 0, .int .i64 0, .int .i64 0, .int .i64 0, .int .i64 0, .int .i64 0, .int .i64 0, .int .i64 0, .int .i64 0, .int .i64 0, .int .i64 0, .int .i64 0, .int .i64 0, .int .i64 0, .int .i64 0, .int .i64 0, .int .i64 0, .int .i64 0, .int .i64 0, .int .i64 0, .int .i64 0, .int .i64 0, .int .i64 0, .int .i64 0, .int .i64 0, .int .i64 0, .int .i64 0, .int .i64 0, .int .i64 0, .int .i64 0, .int .i64 0, .int .i64 0, .int .i64 0, .int .i64 0, .int .i64 0, .int .i64 0, .int .i64 0, .int .i64 0, .int .i64 0, .int .i64 0, .int .i64 0, .int .i64 0, .int .i64 0, .int .i64 0, .int .i64 0, .int .i64 0, .int .i64 0, .int .i64 0, .int .i64 0, .int .i64 0, .int .i64 0, .int .i64 0, .int .i64 0, .int .i64 0, .int .i64 0, .int .i64 0, .int .i64 0, .int .i64 0, .int .i64 0, .int .i64 0, .int .i64 0, .int .i64 0, .int .i64 0] 113)
          have gw1 : Wd.grownBy (Wd.alloc (.cells #[.int .i64 0, .int .i64 0, .int .i64 0, .int .i64 0, .int .i64 0, .int .i64 0, .int .i64 0, .int .i64 0, .int .i64 0, .int .i64 0, .int .i64 0, .int .i64 0, .int .i64 0, .int .i64 0, .int .i64 0, .int .i64 0, .int .i64 0, .int .i64 0, .int .i64 0, .int .i64 0, .int .i64 0, .int .i64 0, .int .i64 0, .int .i64 0, .int .i64 0, .int .i64 0, .int .i64 0, .int .i64 0, .int .i64 0, .int .i64 0, .int .i64 0, .int .i64 0, .int .i64 0, .int .i64 0, .int .i64 0, .int .i64 0, .int .i64 0, .int .i64 0, .int .i64 0, .int .i64 0, .int .i64 0, .int .i64 0, .int .i64 0, .int .i64 0, .int .i64 0, .int .i64 0, .int .i64 0, .int .i64 0, .int .i64 0, .int .i64 0, .int .i64 0, .int .i64 0, .int .i64 0, .int .i64 0, .int .i64 0, .int .i64 0, .int .i64 0, .int .i64 0, .int .i64 0, .int .i64 0, .int .i64 0, .int .i64 0, .int .i64 0, .int .i64 0] 113)) none := grown_alloc (World.grownBy.refl Wd none) _
          obtain ⟨b, hbe⟩ : ∃ b, Wd.heap.size = b := ⟨_, rfl⟩
          have hlo : Wd.heap.size ≤ b := by rw [← hbe]; exact (World.grownBy.refl Wd none).size
          rw [hbe] at baw1 ⊢
          generalize Wd.alloc (.cells #[.int .i64 0, .int .i64 0, .int .i64 0, .int .i64 0, .int .i64 0, .int .i64 0, .int .i64 0, .int .i64 0, .int .i64 0, .int .i64 0, .int .i64 0, .int .i64 0, .int .i64 0, .int .i64 0, .int .i64 0, .int .i64 0, .int .i64 0, .int .i64 0, .int .i64 0, .int .i64 0, .int .i64 0, .int .i64 0, .int .i64 0, .int .i64 0, .int .i64 0, .int .i64 0, .int .i64 0, .int .i64 0, .int .i64 0, .int .i64 0, .int .i64 0, .int .i64 0, .int .i64 0, .int .i64 0, .int .i64 0, .int .i64 0, .int .i64 0, .int .i64 0, .int .i64 0, .int .i64 0, .int .i64 0, .int .i64 0, .int .i64 0, .int .i64 0, .int .i64 0, .int .i64 0, .int .i64 0, .int .i64 0, .int .i64 0, .int .i64 0, .int .i64 0, .int .i64 0, .int .i64 0, .int .i64 0, .int .i64 0, .int .i64 0, .int .i64 0, .int .i64 0, .int .i64 0, .int .i64 0, .int .i64 0, .int .i64 0, .int .i64 0, .int .i64 0] 113) = w1 at *
          clear hbe
          refine hK.out _ _ gw1 ?_
          clear hK K
          try simp only [Act.put, List.setIfInBounds_toArray, List.set_cons_zero, List.set_cons_succ]
          refine anyH_step1 (i := 4) rfl (by kernel_rfl) (fun K hK => ?_)
          go_simp
          refine (gridIndex bw r cc _ _ (by omega) (by omega) (by omega) pre.length HK1 w1).mono ?_
          rintro e w2 ⟨rfl, gi⟩
          have gw2 := grown_trans gw1 gi
          have baw2 := grown_atT gi baw1 (by simp)
          clear gi
          refine hK.out _ _ gw2 ?_
          clear hK K
          try simp only [Act.put, List.setIfInBounds_toArray, List.set_cons_zero, List.set_cons_succ]
          refine anyH_take (i := 5) (v := ?_) rfl (by kernel_rfl) (fun _ _ _ h => by cases h.1) (Or.inl ⟨by rfl, ?_⟩) gw2 ?_
          rotate_left 1
          · intro w' hSw
            go_simp
            try with_reducible rfl
          try simp only [Act.put, List.setIfInBounds_toArray, List.set_cons_zero, List.set_cons_succ]
          refine anyH_take (i := 6) (v := ?_) rfl (by kernel_rfl) (fun _ _ _ h => by cases h.1) (Or.inl ⟨by rfl, ?_⟩) gw2 ?_
          rotate_left 1
          · intro w' hSw
            have c6 := hSw.cell (unhide cu) (by simp)
            go_simp
            try with_reducible rfl
          try simp only [Act.put, List.setIfInBounds_toArray, List.set_cons_zero, List.set_cons_succ]
          refine anyH_step1 (i := 7) rfl (by kernel_rfl) (fun K hK => ?_)
          go_simp
          refine (fixLevels uo un uc zs w2 ((unhide ru).grown gw2) okb HOK).mono ?_
          rintro e w3 ⟨⟨ys, rfl, hyl, hyz⟩, gi⟩
          have gw3 := grown_trans gw2 gi
          refine hK.out _ _ gw3 ?_
          clear hK K
          try simp only [Act.put, List.setIfInBounds_toArray, List.set_cons_zero, List.set_cons_succ]
          refine anyH_take (i := 8) (v := ?_) rfl (by kernel_rfl) (fun _ _ _ h => by cases h.1) (Or.inl ⟨by rfl, ?_⟩) gw3 ?_
          rotate_left 1
          · intro w' hSw
            go_simp
            try with_reducible rfl
          try simp only [Act.put, List.setIfInBounds_toArray, List.set_cons_zero, List.set_cons_succ]
          refine anyH_take (i := 9) (v := ?_) rfl (by kernel_rfl) (fun _ _ _ h => by cases h.1) (Or.inl ⟨by rfl, ?_⟩) gw3 ?_
          rotate_left 1
          · intro w' hSw
            go_simp
            try with_reducible rfl
          try simp only [Act.put, List.setIfInBounds_toArray, List.set_cons_zero, List.set_cons_succ]
          refine anyH_take (i := 10) (v := ?_) rfl (by kernel_rfl) (fun _ _ _ h => by cases h.1) (Or.inl ⟨by rfl, ?_⟩) gw3 ?_
          rotate_left 1
          · intro w' hSw
            go_simp
            try with_reducible rfl
          try simp only [Act.put, List.setIfInBounds_toArray, List.set_cons_zero, List.set_cons_succ]
          have baw3 := grown_atT gi baw2 (by simp)
          refine anyH_step1 (i := 12) rfl (by kernel_rfl) (fun K hK => ?_)
          refine step_store_row (by rfl) 113 _ _ rfl b rfl (sq ys) rfl #[.int .i64 0, .int .i64 0, .int .i64 0, .int .i64 0, .int .i64 0, .int .i64 0, .int .i64 0, .int .i64 0, .int .i64 0, .int .i64 0, .int .i64 0, .int .i64 0, .int .i64 0, .int .i64 0, .int .i64 0, .int .i64 0, .int .i64 0, .int .i64 0, .int .i64 0, .int .i64 0, .int .i64 0, .int .i64 0, .int .i64 0, .int .i64 0, .int .i64 0, .int .i64 0, .int .i64 0, .int .i64 0, .int .i64 0, .int .i64 0, .int .i64 0, .int .i64 0, .int .i64 0, .int .i64 0, .int .i64 0, .int .i64 0, .int .i64 0, .int .i64 0, .int .i64 0, .int .i64 0, .int .i64 0, .int .i64 0, .int .i64 0, .int .i64 0, .int .i64 0, .int .i64 0, .int .i64 0, .int .i64 0, .int .i64 0, .int .i64 0, .int .i64 0, .int .i64 0, .int .i64 0, .int .i64 0, .int .i64 0, .int .i64 0, .int .i64 0, .int .i64 0, .int .i64 0, .int .i64 0, .int .i64 0, .int .i64 0, .int .i64 0, .int .i64 0] 113 baw3 (by rw [sq_size, hyl]; rfl) (by rw [sq_size, hyl]; kernel_rfl) (sq_one _) ?_
          intro w9 hB9 g9
          have gw9 : Wd.grownBy w9 none := grown_new gw3 g9 (fun q e => by simp at e; omega)
          refine hK.out _ _ gw9 ?_
          clear hK K
          simp only [Act.put]
          refine anyH_step1 (i := 13) rfl (by kernel_rfl) (fun K hK => ?_)
          go_simp
          refine hK.out _ _ gw9 ?_
          clear hK K
          try simp only [Act.put, List.setIfInBounds_toArray, List.set_cons_zero, List.set_cons_succ]
          refine wpAnyH_done (by kernel_rfl) ?_ _
          exact ⟨rfl, b, ys, rfl, hyl, hyz, hB9, by have := unhide HSD; omega, grown_trans gd gw9⟩
      case rest =>
        rintro e a' W' ⟨rfl, b, ys, rfl, hyl, hyz, hbB, hbl, hgr⟩
        have T1 := hide ((unhide HTA).grown hgr)
        have c6 := grown_atT hgr (unhide HRA) (by simp)
        have k6 : W'.cell? ⟨w.heap.size + 1 + 1 + 1, 0, none⟩ = some (.bool false) := by rw [cell_of_row _ _ 0 _ _ (0, 0) c6]; rfl
        have f6 := frozen_of_row W' (w.heap.size + 1 + 1 + 1) 0 _ _ c6
        have k4 : W'.cell? ⟨w.heap.size + 1, 0, none⟩ = some (.int .i64 (c : Int)) := by rw [cell_of_row _ _ 0 _ _ (0, 0) (grown_atT hgr (unhide X4) (by simp))]; rfl
        have Y3 := hide (grown_atT hgr (unhide X3) (by simp))
        have Y7 := hide (grown_atT hgr (unhide X7) (by simp))
        have HBb := hide hbB
        have HGR := hide hgr
        have H6 := hide c6
        have BUT : Hid (∀ W'', W'.grownBy W'' (some g) → But (fun k => k = g ∨ k = w.heap.size + 1 + 1 + 1) Wa W'') := fun W'' g' => (But.of_grown (unhide HGR) (fun q e => by cases e)).trans (But.of_grown g' (fun q e => by cases e; exact .inl rfl))
        have STOP : Hid (t = false → ∀ W'', W'.grownBy W'' none → W''.heap[w.heap.size + 1 + 1 + 1]? = some (.cells #[.bool false] 4 (0, 0)) ∧ (t = false ∧ (W''.setCell ⟨w.heap.size + 1 + 1 + 1, 0, none⟩ (.bool false)).heap[w.heap.size + 1 + 1 + 1]? = some (.cells #[.bool false] 4 (0, 0))) ∧ But (fun k => k = g ∨ k = w.heap.size + 1 + 1 + 1) Wa (W''.setCell ⟨w.heap.size + 1 + 1 + 1, 0, none⟩ (.bool false))) := fun ht W'' g' => by
          have c9 := grown_atT g' (unhide H6) (by simp)
          refine ⟨c9, ⟨ht, ?_⟩, ?_⟩
          · rw [heap_setCell_same W'' _ 0 _ _ _ c9]; rfl
          · exact (But.of_grown (grown_trans (unhide HGR) g') (fun q e => by cases e)).trans (But.of_grown (grown_set W'' (w.heap.size + 1 + 1 + 1) 0 (.bool false)) (fun q e => by cases e; exact .inr rfl))
        clear hbB hgr c6
        have hbad : blockB (hidB bw (nwG wd n C c) (nhG ht n C c) pre.length) (P.getD pre.length []) = false → t = false := fun h => by rw [← unhide HT]; exact plane_bad pre.length (unhide HKP) h
        have HBAD := hide hbad
        clear hbad
        cases okb
        · have htf : t = false := unhide HBAD (by unfold blockB; rw [unhide HZS, unhide HOK]; rfl)
          gi_wp2_with (refine skip_in (by rfl) ?_)
          all_goals exact (unhide STOP htf W' (World.grownBy.refl _ _)).2
        · obtain ⟨hz64, _⟩ := lev_at (unhide HOK)
          obtain rfl : ys = zs := hyz (by rw [← unhide HUN]; exact hz64)
          have HSY : Hid ((sq ys).size = 64) := by unfold Hid; rw [sq_size, hz64]
          obtain ⟨z, HZ⟩ : ∃ z, Hid ((ys == zs64) = z) := ⟨_, rfl⟩
          have hsq : ∀ w, (Op.equalIn 10000 113 (.agg (sq ys)) (.agg #[.int .i64 0, .int .i64 0, .int .i64 0, .int .i64 0, .int .i64 0, .int .i64 0, .int .i64 0, .int .i64 0, .int .i64 0, .int .i64 0, .int .i64 0, .int .i64 0, .int .i64 0, .int .i64 0, .int .i64 0, .int .i64 0, .int .i64 0, .int .i64 0, .int .i64 0, .int .i64 0, .int .i64 0, .int .i64 0, .int .i64 0, .int .i64 0, .int .i64 0, .int .i64 0, .int .i64 0, .int .i64 0, .int .i64 0, .int .i64 0, .int .i64 0, .int .i64 0, .int .i64 0, .int .i64 0, .int .i64 0, .int .i64 0, .int .i64 0, .int .i64 0, .int .i64 0, .int .i64 0, .int .i64 0, .int .i64 0, .int .i64 0, .int .i64 0, .int .i64 0, .int .i64 0, .int .i64 0, .int .i64 0, .int .i64 0, .int .i64 0, .int .i64 0, .int .i64 0, .int .i64 0, .int .i64 0, .int .i64 0, .int .i64 0, .int .i64 0, .int .i64 0, .int .i64 0, .int .i64 0, .int .i64 0, .int .i64 0, .int .i64 0, .int .i64 0])).run Tryz.prog w = .ok z w := fun w => by rw [← sq_z64, eqSq hz64 zs64_len w, unhide HZ]
          have hPLL : P.length = L.length := by rw [unhide HPL, unhide HLL]
          have hkL : pre.length < (mixL P L pre.length).length := by rw [mixL_len hPLL, ← hPLL]; exact unhide HKP
          have put0 := fun (Wp : World) (hT : Th_gridrows Wp g (mixL P L pre.length)) => gridPut bw bh g gc r cc (mixL P L pre.length) ys hz64 (by omega) (by omega) (by omega) pre.length HK1 hkL Wp hT
          rw [mixL_len hPLL] at put0
          have PUT0 := hide put0
          have GOON : Hid (blockB (hidB bw (nwG wd n C c) (nhG ht n C c) pre.length) (P.getD pre.length []) = true → ∀ Wp W'', W'.grownBy Wp none → Th_gridrows W'' g ((mixL P L pre.length).set pre.length ys) → Wp.grownBy W'' (some g) → (Th_gridrows W'' g (mixL P L (pre ++ [(r, cc)]).length) ∧ (∀ k, k < (pre ++ [(r, cc)]).length → blockB (hidB bw (nwG wd n C c) (nhG ht n C c) k) (P.getD k []) = true) ∧ W''.heap[w.heap.size + 1 + 1 + 1]? = some (.cells #[.bool false] 4 (0, 0))) ∧ But (fun k => k = g ∨ k = w.heap.size + 1 + 1 + 1) Wa W'') := fun hok Wp W'' gp tT gT => by
            have el : (pre ++ [(r, cc)]).length = pre.length + 1 := by simp
            rw [el]
            refine ⟨⟨?_, fun k hk => ?_, ?_⟩, ?_⟩
            · rw [← unhide HZS, mixL_set hPLL _ (by rw [mixL_len hPLL] at hkL; exact hkL)] at tT; exact tT
            · by_cases e9 : k < pre.length
              · exact unhide HOKS k e9
              · obtain rfl : k = pre.length := by omega
                exact hok
            · exact grown_atT gT (grown_atT gp (unhide H6) (by simp)) (by simp; omega)
            · exact (But.of_grown (grown_trans (unhide HGR) gp) (fun q e => by cases e)).trans (But.of_grown gT (fun q e => by cases e; exact .inl rfl))
          clear put0 hkL hPLL
          cases z
          · have i2 : (0 : Int) ≤ (c : Int) := i0
            obtain ⟨sh, HSH⟩ : ∃ sh, Hid ((decide (0 ≤ (c : Int) ∧ (c : Int) ≤ (n : Int) - 1) && (decide (0 ≤ (r : Int) ∧ (r : Int) ≤ (nhG ht n C (c : Int).toNat : Int) - 1) && decide (0 ≤ (cc : Int) ∧ (cc : Int) ≤ (nwG wd n C (c : Int).toNat : Int) - 1))) = sh) := ⟨_, rfl⟩
            have HSE : Hid (blockB (hidB bw (nwG wd n C c) (nhG ht n C c) pre.length) (P.getD pre.length []) = sh) := by
              unfold Hid blockB
              rw [unhide HZS, unhide HOK, ← zero_same hz64, unhide HZ, ← unhide HK1, hid_spot hk3, ← unhide HSH, Int.toNat_natCast]
              rw [Bool.eq_iff_iff]
              simp only [Bool.and_eq_true, Bool.or_eq_true, Bool.not_eq_true', Bool.or_eq_false_iff, decide_eq_true_eq, decide_eq_false_iff_not, Bool.false_eq_true, or_false, true_and]
              omega
            gi_wp2_with (first | (refine skip_in (by rfl) ?_) | (refine load_rowR rfl 113 _ rfl b rfl (sq ys) 113 (unhide HBb) _ Tryz.underlying113 rfl (by rw [unhide HSY]; kernel_rfl) ?_) | (refine load_rowR rfl 129 _ rfl W4.heap.size rfl #[.int .i64 (bw : Int), .int .i64 (bh : Int), .slice (some ⟨g, 0, none⟩) L.length gc] 129 (unhide Y7) _ Tryz.underlying129 rfl (by kernel_rfl) ?_) | (refine load_rowR rfl 96 _ rfl w.heap.size rfl (plV X (.slice (some ⟨gr, 0, none⟩) n gcap)) 96 (unhide Y3) _ Tryz.underlying96 rfl (by rw [plV_size (unhide HSX)]; kernel_rfl) ?_))
            refine ⟨trivial, (fun h => by simp [Fence.wide] at h), ?_⟩
            refine (CallsIn.inRound l' (callsIn_wide.2 (planesShows X p wd ht rs n C (unhide HX) (unhide HGE) _ (c : Int) (r : Int) (cc : Int) sh HSH W'))).mono ?_
            rintro e w9 ⟨rfl, g9⟩
            have T9 := hide ((unhide T1).grown g9)
            have Z7 := hide (grown_atT g9 (unhide Y7) (by simp))
            have Zb := hide (grown_atT g9 (unhide HBb) (by simp))
            cases sh
            · have htf : t = false := unhide HBAD (unhide HSE)
              obtain ⟨c9, st9⟩ := unhide STOP htf w9 g9
              have k9 : w9.cell? ⟨w.heap.size + 1 + 1 + 1, 0, none⟩ = some (.bool false) := by rw [cell_of_row _ _ 0 _ _ (0, 0) c9]; rfl
              have f9 := frozen_of_row w9 (w.heap.size + 1 + 1 + 1) 0 _ _ c9
              have ST9 := hide st9
              clear st9 c9
              gi_wp2
              exact unhide ST9
            · gi_wp2_with (first | (refine load_rowR rfl 113 _ rfl b rfl (sq ys) 113 (unhide Zb) _ Tryz.underlying113 rfl (by rw [unhide HSY]; kernel_rfl) ?_) | (refine load_rowR rfl 129 _ rfl W4.heap.size rfl #[.int .i64 (bw : Int), .int .i64 (bh : Int), .slice (some ⟨g, 0, none⟩) L.length gc] 129 (unhide Z7) _ Tryz.underlying129 rfl (by kernel_rfl) ?_))
              refine ⟨trivial, (fun h => by simp [Fence.wide] at h), ?_⟩
              refine (CallsIn.inRound l' (callsIn_wide.2 (unhide PUT0 w9 (unhide T9)))).mono ?_
              rintro e w10 ⟨⟨v9, rfl⟩, t9, g10⟩
              gi_wp2
              exact unhide GOON (unhide HSE) w9 w10 g9 t9 g10
          · have hblk : blockB (hidB bw (nwG wd n C c) (nhG ht n C c) pre.length) (P.getD pre.length []) = true := by
              unfold blockB
              rw [unhide HZS, unhide HOK, ← zero_same hz64, unhide HZ]
              simp
            have HBK := hide hblk
            clear hblk
            gi_wp2_with (first | (refine skip_in (by rfl) ?_) | (refine load_rowR rfl 113 _ rfl b rfl (sq ys) 113 (unhide HBb) _ Tryz.underlying113 rfl (by rw [unhide HSY]; kernel_rfl) ?_) | (refine load_rowR rfl 129 _ rfl W4.heap.size rfl #[.int .i64 (bw : Int), .int .i64 (bh : Int), .slice (some ⟨g, 0, none⟩) L.length gc] 129 (unhide Y7) _ Tryz.underlying129 rfl (by kernel_rfl) ?_) | (refine load_rowR rfl 96 _ rfl w.heap.size rfl (plV X (.slice (some ⟨gr, 0, none⟩) n gcap)) 96 (unhide Y3) _ Tryz.underlying96 rfl (by rw [plV_size (unhide HSX)]; kernel_rfl) ?_))
            refine ⟨trivial, (fun h => by simp [Fence.wide] at h), ?_⟩
            refine (CallsIn.inRound l' (callsIn_wide.2 (unhide PUT0 W' (unhide T1)))).mono ?_
            rintro e w9 ⟨⟨v9, rfl⟩, t9, g9⟩
            gi_wp2
            exact unhide GOON (unhide HBK) W' w9 (World.grownBy.refl _ _) t9 g9
    case done =>
      intro D W9 hD hi b9 hdef
      obtain ⟨t9, ok9, r9⟩ := hi
      have hlen9 : (sTo bw bh).length = L.length := by rw [sTo_len, unhide HLL, Nat.mul_comm]
      have hPLL : P.length = L.length := by rw [unhide HPL, unhide HLL]
      rw [hlen9, mixL_all hPLL] at t9
      have htt : t = true := by rw [← unhide HT]; exact plane_all (unhide HPL) (fun k hk => ok9 k (by rw [hlen9, ← hPLL]; exact hk))
      have c9 : W9.cell? ⟨w.heap.size + 1 + 1 + 1, 0, none⟩ = some (.bool false) := by rw [cell_of_row _ _ 0 _ _ (0, 0) r9]; rfl
      have f9 := frozen_of_row W9 (w.heap.size + 1 + 1 + 1) 0 _ _ r9
      have gs := grown_set W9 (w.heap.size + 1 + 1 + 1) 0 (.bool true)
      have cs : (W9.setCell ⟨w.heap.size + 1 + 1 + 1, 0, none⟩ (.bool true)).cell? ⟨w.heap.size + 1 + 1 + 1, 0, none⟩ = some (.bool true) := World.cell?_setCell_same _ _ _ c9
      have T9 := hide t9
      have HDEF := hide (grown_atT gs hdef (by have := unhide HS4; simp; omega))
      have HB9 := hide b9
      have HLE := hide hPLL
      subst htt
      clear t9 ok9 r9 hdef b9 hlen9 hPLL
      go_wp2
      refine ⟨by simp, .inl ⟨_, _, rfl, run_takeDeferred (unhide HDEF), ?_⟩⟩
      have hS4 := unhide HS4
      have cs' : ((W9.setCell ⟨w.heap.size + 1 + 1 + 1, 0, none⟩ (.bool true)).putObj D (.deferred none)).cell? ⟨w.heap.size + 1 + 1 + 1, 0, none⟩ = some (.bool true) := by
        unfold World.cell? at cs ⊢
        rw [World.putObj_heap_other (by show w.heap.size + 1 + 1 + 1 ≠ D; omega)]
        exact cs
      have w9r : Wr [g] w ((W9.setCell ⟨w.heap.size + 1 + 1 + 1, 0, none⟩ (.bool true)).putObj D (.deferred none)) := by
        have gd : w.grownBy w8 none := grown_trans (unhide HG4) (unhide D8)
        have b9 := unhide HB9
        have gp := grownBy_putObj' (W9.setCell ⟨w.heap.size + 1 + 1 + 1, 0, none⟩ (.bool true)) D (.deferred none)
        refine ⟨gp.os.trans (gs.os.trans (b9.os.trans gd.os)), gp.tape.trans (gs.tape.trans (b9.tape.trans gd.tape)), gp.output.trans (gs.output.trans (b9.output.trans gd.output)), Nat.le_trans gd.size (Nat.le_trans b9.size (Nat.le_trans gs.size gp.size)), fun q hq hn => ?_⟩
        have hqg : q ≠ g := fun e => hn (by simp [e])
        have hg8 := gd.size
        rw [World.putObj_heap_other (by omega), heap_setCell_other W9 ⟨w.heap.size + 1 + 1 + 1, 0, none⟩ q _ (by show q ≠ w.heap.size + 1 + 1 + 1; omega), b9.block q (by omega) (fun e => by omega)]
        exact gd.block q hq (by simp)
      have t9' : Th_gridrows ((W9.setCell ⟨w.heap.size + 1 + 1 + 1, 0, none⟩ (.bool true)).putObj D (.deferred none)) g P := (unhide T9).same (by rw [World.putObj_heap_other (by omega), heap_setCell_other W9 ⟨w.heap.size + 1 + 1 + 1, 0, none⟩ g _ (by show g ≠ w.heap.size + 1 + 1 + 1; omega)])
      obtain ⟨F9, o9, n9, m9⟩ := unhide TURN _ P w9r t9' (unhide HLE)
      exact ⟨_, (by rw [results_c1 rfl]; simp only [Array.getD_eq_getD_getElem?]; exact load_bool cs'), rfl, ⟨g, hgF, w9r⟩, ⟨F9, o9, n9, m9⟩⟩
    case stop =>
      intro D W9 hD hi b9 hdef
      obtain ⟨rfl, r9⟩ := hi
      refine ⟨by simp, .inl ⟨_, _, rfl, run_takeDeferred hdef, ?_⟩⟩
      have hS4 := unhide HS4
      have cs' : (W9.putObj D (.deferred none)).cell? ⟨w.heap.size + 1 + 1 + 1, 0, none⟩ = some (.bool false) := by
        rw [cell_of_row _ _ 0 _ _ (0, 0) ((World.putObj_heap_other (by omega)).trans r9)]
        rfl
      have w9r : Wr [g] w (W9.putObj D (.deferred none)) := by
        have gd : w.grownBy w8 none := grown_trans (unhide HG4) (unhide D8)
        have gp := grownBy_putObj' W9 D (.deferred none)
        refine ⟨gp.os.trans (b9.os.trans gd.os), gp.tape.trans (b9.tape.trans gd.tape), gp.output.trans (b9.output.trans gd.output), Nat.le_trans gd.size (Nat.le_trans b9.size gp.size), fun q hq hn => ?_⟩
        have hqg : q ≠ g := fun e => hn (by simp [e])
        have hg8 := gd.size
        rw [World.putObj_heap_other (by omega), b9.block q (by omega) (fun e => by omega)]
        exact gd.block q hq (by simp)
      exact ⟨_, (by rw [results_c1 rfl]; simp only [Array.getD_eq_getD_getElem?]; exact load_bool cs'), rfl, ⟨g, hgF, w9r⟩, fun e => by cases e⟩
  · have hpl : ((P.length : Int) != (bw : Int) * (bh : Int)) = true := by rw [bne_iff_ne]; intro e; exact hPL (by exact_mod_cast e)
    obtain rfl : t = false := by rw [← unhide HT]; exact plane_short hPL
    go_simp
    refine hK.out _ _ (.inl rfl) (tailL_nil (NoPanic.normal ?_))
    clear hK K
    have gs := grown_set w7 (w.heap.size + 1 + 1 + 1) 0 (.bool false)
    have cs : (w7.setCell ⟨w.heap.size + 1 + 1 + 1, 0, none⟩ (.bool false)).cell? ⟨w.heap.size + 1 + 1 + 1, 0, none⟩ = some (.bool false) := World.cell?_setCell_same _ _ _ cr
    go_wp2
    refine ⟨_, (by rw [results_c1 rfl]; simp only [Array.getD_eq_getD_getElem?]; exact load_bool cs), rfl, ⟨g, hgF, ?_⟩, fun e => by cases e⟩
    exact Wr.ofNone (grown_new (grown_trans (unhide HG4) d7) gs (fun q e => by simp at e; omega))

end Go.Proofs.YtnbpfkeppogacaaGreat

namespace Go.Proofs.YtnbpfkeppogacaaGreat
open Go.RowKit Go.Shelf

theorem dims_congr {wd ht : Int} {n : Nat} {C D : Nat → Nat → Int} (e : ∀ i, i < n → D i = C i) (c : Nat) (hc : c < n) : bwG wd n D c = bwG wd n C c ∧ bhG ht n D c = bhG ht n C c ∧ nwG wd n D c = nwG wd n C c ∧ nhG ht n D c = nhG ht n C c := by
  refine ⟨?_, ?_, ?_, ?_⟩
  · unfold bwG; rw [mostA_congr n e, e c hc]
  · unfold bhG; rw [mostA_congr n e, e c hc]
  · unfold nwG; rw [mostA_congr n e, e c hc]
  · unfold nhG; rw [mostA_congr n e, e c hc]

/-- The grids of a frame: the first i of coefficients, behind them noughts. -/
def gridsTo (wd ht : Int) (n : Nat) (C : Nat → Nat → Int) (Y : List (List (List Int))) (i : Nat) : List Gd := (List.range n).map fun c => (bwG wd n C c, bhG ht n C c, if c < i then Y.getD c [] else List.replicate (bwG wd n C c * bhG ht n C c) noughts)
theorem gridsTo_len (wd ht : Int) (n : Nat) (C : Nat → Nat → Int) (Y : List (List (List Int))) (i : Nat) : (gridsTo wd ht n C Y i).length = n := by simp [gridsTo]
theorem gridsTo_at (wd ht : Int) (n : Nat) (C : Nat → Nat → Int) (Y : List (List (List Int))) (i c : Nat) (hc : c < n) : (gridsTo wd ht n C Y i).getD c (0, 0, []) = (bwG wd n C c, bhG ht n C c, if c < i then Y.getD c [] else List.replicate (bwG wd n C c * bhG ht n C c) noughts) := by simp [gridsTo, hc]
theorem gridsTo_zero (wd ht : Int) (n : Nat) (C : Nat → Nat → Int) (Y : List (List (List Int))) : gridsTo wd ht n C Y 0 = newGr n (bwG wd n C) (bhG ht n C) := by simp [gridsTo, newGr]
theorem gridsTo_set (wd ht : Int) (n : Nat) (C : Nat → Nat → Int) (Y : List (List (List Int))) (i : Nat) (hi : i < n) : (gridsTo wd ht n C Y i).set i (bwG wd n C i, bhG ht n C i, Y.getD i []) = gridsTo wd ht n C Y (i + 1) := by
  apply List.ext_getElem?
  intro c
  by_cases hc : c < n
  · rw [List.getElem?_set]
    have e1 : (gridsTo wd ht n C Y i)[c]? = some (bwG wd n C c, bhG ht n C c, if c < i then Y.getD c [] else List.replicate (bwG wd n C c * bhG ht n C c) noughts) := by simp [gridsTo, hc]
    have e2 : (gridsTo wd ht n C Y (i + 1))[c]? = some (bwG wd n C c, bhG ht n C c, if c < i + 1 then Y.getD c [] else List.replicate (bwG wd n C c * bhG ht n C c) noughts) := by simp [gridsTo, hc]
    rw [e1, e2, gridsTo_len]
    by_cases e : i = c
    · subst e; rw [if_pos rfl, if_pos hi, if_pos (by omega)]
    · rw [if_neg e]
      by_cases h : c < i
      · rw [if_pos h, if_pos (by omega)]
      · rw [if_neg h, if_neg (by omega)]
  · rw [List.getElem?_eq_none (by rw [List.length_set, gridsTo_len]; omega), List.getElem?_eq_none (by rw [gridsTo_len]; omega)]
/-- The grids of coefficients that are ok. -/
def gridsOf (wd ht : Int) (n : Nat) (C : Nat → Nat → Int) (Y : List (List (List Int))) : List Gd := gridsTo wd ht n C Y n
theorem coefs_gridsOf {wd ht : Int} {n : Nat} {C : Nat → Nat → Int} {Y : List (List (List Int))} (h : Y.length = n) : coefsG (gridsOf wd ht n C Y) = Y := by
  apply List.ext_getElem?
  intro c
  by_cases hc : c < n
  · have : Y[c]? = some (Y.getD c []) := by simp [show c < Y.length by omega]
    rw [this]
    simp [coefsG, gridsOf, gridsTo, hc]
  · rw [List.getElem?_eq_none (by simp [coefsG, gridsOf, gridsTo]; omega), List.getElem?_eq_none (by omega)]
theorem coefs_newGr (n : Nat) (bw bh : Nat → Nat) : coefsG (newGr n bw bh) = emptyG n (fun c => bw c * bh c) := by simp [coefsG, newGr, emptyG]

set_option maxRecDepth 20000 in
/-- Planes of noughts, of a frame that was fixed. -/
theorem emptyOf (p wd ht rs : Int) (n : Nat) (C : Nat → Nat → Int) (b : Bool) (HFB : Hid (frameB p wd ht rs n C = b)) (X : Array Value) (h1 : b = false → X = #[.int .i64 0, .int .i64 0, .int .i64 0, .int .i64 0, .int .i64 0, .int .i64 0, .int .i64 0, .int .i64 0, .int .i64 0, .int .i64 0, .int .i64 0, .int .i64 0, .int .i64 0, .int .i64 0, .int .i64 0, .int .i64 0, .int .i64 0, .int .i64 0, .int .i64 0, .int .i64 0, .int .i64 0]) (h2 : b = true → ∃ D, Fx X p wd ht rs n D ∧ ∀ i, i < n → D i = C i) (w : World) :
    Calls Tryz.prog 65 #[.agg X] w fun e w' => ∃ gv F, e = .returned (.agg (plV X gv)) ∧ OwGr w' gv (if b = true then newGr n (bwG wd n C) (bhG ht n C) else []) F ∧ F.Nodup ∧ (∀ x ∈ F, w.heap.size ≤ x) ∧ w.grownBy w' none := by
  cases b
  · rw [h1 rfl]
    exact emptyPlanes #[.int .i64 0, .int .i64 0, .int .i64 0, .int .i64 0, .int .i64 0, .int .i64 0, .int .i64 0, .int .i64 0, .int .i64 0, .int .i64 0, .int .i64 0, .int .i64 0, .int .i64 0, .int .i64 0, .int .i64 0, .int .i64 0, .int .i64 0, .int .i64 0, .int .i64 0, .int .i64 0, .int .i64 0] rfl fzOne 0 (by omega) rfl (fun _ => 0) (fun _ => 0) (fun c hc => by omega) (fun c hc => by omega) w
  · obtain ⟨D, hF, hD⟩ := h2 rfl
    have hG := (geo_of (unhide HFB)).congr hD
    have em : mostA 1 C 1 n = mostA 1 D 1 n := (mostA_congr n hD).symm
    have ev : mostA 1 C 2 n = mostA 1 D 2 n := (mostA_congr n hD).symm
    rw [em, ev] at hG
    have e : newGr n (bwG wd n C) (bhG ht n C) = newGr n (bwG wd n D) (bhG ht n D) := by
      unfold newGr
      refine List.map_congr_left (fun c hc => ?_)
      have hc' : c < n := by simpa using hc
      obtain ⟨e1, e2, _, _⟩ := dims_congr (wd := wd) (ht := ht) hD c hc'
      rw [e1, e2]
    rw [if_pos rfl, e]
    refine emptyPlanes X hF.size hF.one n hG.n4 hF.c4 (bwG wd n D) (bhG ht n D) (fun c hc => ?_) (fun c hc W => ?_) w
    · have d := dims_of hG c hc
      have := d.bw1
      have := d.bh1
      omega
    · have d := dims_of hG c hc
      have e1 := d.bw
      have e2 := d.bh
      rw [Int.mul_comm] at e1 e2
      have := blocks X p wd ht rs n D hF _ _ hG c hc _ _ rfl rfl W
      rw [e1, e2] at this
      exact this

/-- What fixCoefs answers. -/
def FixedTo (p wd ht rs : Int) (n : Nat) (C : Nat → Nat → Int) (Y : List (List (List Int))) (base : Nat) (b : Bool) (A : Array Value) (w' : World) : Prop :=
  (b = false → A = #[.int .i64 0, .int .i64 0, .int .i64 0, .int .i64 0, .int .i64 0, .int .i64 0, .int .i64 0, .int .i64 0, .int .i64 0, .int .i64 0, .int .i64 0, .int .i64 0, .int .i64 0, .int .i64 0, .int .i64 0, .int .i64 0, .int .i64 0, .int .i64 0, .int .i64 0, .int .i64 0, .int .i64 0, .slice none 0 0]) ∧ (b = true → ∃ X D gv F, A = plV X gv ∧ Fx X p wd ht rs n D ∧ (∀ i, i < n → D i = C i) ∧ OwGr w' gv (gridsOf wd ht n C Y) F ∧ F.Nodup ∧ ∀ x ∈ F, base ≤ x)

end Go.Proofs.YtnbpfkeppogacaaGreat

namespace Go.Proofs.YtnbpfkeppogacaaGreat
open Go.RowKit Go.Shelf

/-- While planes are filled. -/
structure Fc (w wr : World) (X : Array Value) (gv v : Value) (b6 : Nat) : Prop where
  c : wr.heap[w.heap.size + 1]? = some (.cells #[v] 38 (0, 0))
  r : wr.heap[w.heap.size + 1 + 1]? = some (.cells #[.int .i64 0, .int .i64 0, .int .i64 0, .int .i64 0, .int .i64 0, .int .i64 0, .int .i64 0, .int .i64 0, .int .i64 0, .int .i64 0, .int .i64 0, .int .i64 0, .int .i64 0, .int .i64 0, .int .i64 0, .int .i64 0, .int .i64 0, .int .i64 0, .int .i64 0, .int .i64 0, .int .i64 0, .slice none 0 0] 96 (0, 0))
  all : wr.heap[b6]? = some (.cells (plV X gv) 96 (0, 0))
  grown : w.grownBy wr none
theorem Fc.new {w wr w' : World} {X : Array Value} {gv v : Value} {b6 : Nat} (h : Fc w wr X gv v b6) (g : wr.grownBy w' none) : Fc w w' X gv v b6 :=
  ⟨grown_atT g h.c (by simp), grown_atT g h.r (by simp), grown_atT g h.all (by simp), grown_trans h.grown g⟩

theorem pzOne : (#[.int .i64 0, .int .i64 0, .int .i64 0, .int .i64 0, .int .i64 0, .int .i64 0, .int .i64 0, .int .i64 0, .int .i64 0, .int .i64 0, .int .i64 0, .int .i64 0, .int .i64 0, .int .i64 0, .int .i64 0, .int .i64 0, .int .i64 0, .int .i64 0, .int .i64 0, .int .i64 0, .int .i64 0, .slice none 0 0] : Array Value).all (·.oneCell') = true := by simp [Value.oneCell']

set_option maxRecDepth 100000 in
set_option maxHeartbeats 6400000 in
theorem fixCoefs (p wd ht rs : Int) (ao : Option Addr) (n cap : Nat) (C : Nat → Nat → Int) (v : Value) (Y : List (List (List Int))) (w : World) (hr : RdC w ao n C) (hn : n ≤ 4194304) (hY : Rd3 w v Y) (fb b : Bool) (HFB : Hid (frameB p wd ht rs n C = fb)) (HB : Hid (coefsOkF fb wd ht n C Y = b)) :
    Calls Tryz.prog 51 #[.agg #[.int .i64 p, .int .i64 wd, .int .i64 ht, .int .i64 rs, .slice ao n cap], .agg #[v]] w fun e w' => ∃ A, e = .returned (.tuple #[.agg A, .bool b]) ∧ FixedTo p wd ht rs n C Y w.heap.size b A w' ∧ w.grownBy w' none := by
  obtain ⟨vo, vc, rfl, hYr⟩ := hY
  obtain ⟨W0, hW0⟩ : ∃ W0, ((w.alloc (.cells #[.int .i64 p, .int .i64 wd, .int .i64 ht, .int .i64 rs, .slice ao n cap] 37)).alloc (.cells #[.slice vo Y.length vc] 38)).alloc (.cells #[.int .i64 0, .int .i64 0, .int .i64 0, .int .i64 0, .int .i64 0, .int .i64 0, .int .i64 0, .int .i64 0, .int .i64 0, .int .i64 0, .int .i64 0, .int .i64 0, .int .i64 0, .int .i64 0, .int .i64 0, .int .i64 0, .int .i64 0, .int .i64 0, .int .i64 0, .int .i64 0, .int .i64 0, .slice none 0 0] 96) = W0 := ⟨_, rfl⟩
  have G0 : w.grownBy W0 none := by rw [← hW0]; exact grown_alloc (grown_alloc (World.grownBy_alloc _ _ _) _) _
  have s0 : W0.heap.size = w.heap.size + 3 := by rw [← hW0]; simp
  have p1 : W0.heap[w.heap.size + 1]? = some (.cells #[.slice vo Y.length vc] 38 (0, 0)) := by
    rw [← hW0, Below.heap_alloc _ _ _ (by simp)]
    have := heap_alloc_new (w.alloc (.cells #[.int .i64 p, .int .i64 wd, .int .i64 ht, .int .i64 rs, .slice ao n cap] 37)) (.cells #[.slice vo Y.length vc] 38)
    simpa using this
  have p2 : W0.heap[w.heap.size + 1 + 1]? = some (.cells #[.int .i64 0, .int .i64 0, .int .i64 0, .int .i64 0, .int .i64 0, .int .i64 0, .int .i64 0, .int .i64 0, .int .i64 0, .int .i64 0, .int .i64 0, .int .i64 0, .int .i64 0, .int .i64 0, .int .i64 0, .int .i64 0, .int .i64 0, .int .i64 0, .int .i64 0, .int .i64 0, .int .i64 0, .slice none 0 0] 96 (0, 0)) := by
    rw [← hW0]
    have := heap_alloc_new ((w.alloc (.cells #[.int .i64 p, .int .i64 wd, .int .i64 ht, .int .i64 rs, .slice ao n cap] 37)).alloc (.cells #[.slice vo Y.length vc] 38)) (.cells #[.int .i64 0, .int .i64 0, .int .i64 0, .int .i64 0, .int .i64 0, .int .i64 0, .int .i64 0, .int .i64 0, .int .i64 0, .int .i64 0, .int .i64 0, .int .i64 0, .int .i64 0, .int .i64 0, .int .i64 0, .int .i64 0, .int .i64 0, .int .i64 0, .int .i64 0, .int .i64 0, .int .i64 0, .slice none 0 0] 96)
    simpa using this
  have HR := hide (hr.grown G0)
  have HYR := hide hYr
  have HW := hide hW0
  have P1 := hide p1
  have P2 := hide p2
  have HG0 := hide G0
  have HS0 := hide s0
  clear hr hYr hW0 p1 p2 G0 s0
  go_enter Tryz.func51, Tryz.ntmps51
  go_wp2_with fail
  rw [unhide HW]
  clear HW
  refine (fixFrame p wd ht rs ao n cap C W0 (unhide HR) hn fb HFB).mono ?_
  rintro e w1 ⟨X, rfl, h1, h2, g1⟩
  have H1 := hide h1
  have H2 := hide h2
  have HG1 := hide g1
  have HSX : Hid (X.size = 21) := by
    cases fb
    · rw [h1 rfl]; rfl
    · obtain ⟨D, hF, _⟩ := h2 rfl; exact hF.size
  have HOX : Hid (X.all (·.oneCell') = true) := by
    cases fb
    · rw [h1 rfl]; exact fzOne
    · obtain ⟨D, hF, _⟩ := h2 rfl; exact hF.one
  clear h1 h2 g1
  go_wp2_with fail
  refine (emptyOf p wd ht rs n C fb HFB X (unhide H1) (unhide H2) w1).mono ?_
  rintro e w2 ⟨gv, F, rfl, o2, n2, l2, g2⟩
  obtain ⟨go, gcap, rfl⟩ := o2.form
  generalize hgl : (if fb = true then newGr n (bwG wd n C) (bhG ht n C) else []).length = gn at *
  have G2 : w.grownBy w2 none := grown_trans (unhide HG0) (grown_trans (unhide HG1) g2)
  have hs2 : w.heap.size + 3 ≤ w2.heap.size := by
    have h3 := (unhide HG1).size
    have h4 := g2.size
    have h5 := unhide HS0
    omega
  have hl1 : w.heap.size + 3 ≤ w1.heap.size := by
    have h3 := (unhide HG1).size
    have h5 := unhide HS0
    omega
  have HB6 := hide (heap_alloc_new w2 (.cells #[.int .i64 0, .int .i64 0, .int .i64 0, .int .i64 0, .int .i64 0, .int .i64 0, .int .i64 0, .int .i64 0, .int .i64 0, .int .i64 0, .int .i64 0, .int .i64 0, .int .i64 0, .int .i64 0, .int .i64 0, .int .i64 0, .int .i64 0, .int .i64 0, .int .i64 0, .int .i64 0, .int .i64 0, .slice none 0 0] 96))
  have HST : Hid (∀ w3 : World, w3.heap[w2.heap.size]? = some (.cells (plV X (.slice go gn gcap)) 96 (0, 0)) → (w2.alloc (.cells #[.int .i64 0, .int .i64 0, .int .i64 0, .int .i64 0, .int .i64 0, .int .i64 0, .int .i64 0, .int .i64 0, .int .i64 0, .int .i64 0, .int .i64 0, .int .i64 0, .int .i64 0, .int .i64 0, .int .i64 0, .int .i64 0, .int .i64 0, .int .i64 0, .int .i64 0, .int .i64 0, .int .i64 0, .slice none 0 0] 96)).grownBy w3 (some w2.heap.size) → Fc w w3 X (.slice go gn gcap) (.slice vo Y.length vc) w2.heap.size ∧ OwGr w3 (.slice go gn gcap) (if fb = true then newGr n (bwG wd n C) (bhG ht n C) else []) F) := by
    intro w3 hB3 g3
    have ga : w2.grownBy (w2.alloc (.cells #[.int .i64 0, .int .i64 0, .int .i64 0, .int .i64 0, .int .i64 0, .int .i64 0, .int .i64 0, .int .i64 0, .int .i64 0, .int .i64 0, .int .i64 0, .int .i64 0, .int .i64 0, .int .i64 0, .int .i64 0, .int .i64 0, .int .i64 0, .int .i64 0, .int .i64 0, .int .i64 0, .int .i64 0, .slice none 0 0] 96)) none := World.grownBy_alloc _ _ _
    have g23 : w2.grownBy w3 none := grown_new ga g3 (fun q e => by simp at e; omega)
    have g03 : W0.grownBy w3 none := grown_trans (grown_trans (unhide HG1) g2) g23
    exact ⟨⟨grown_atT g03 (unhide P1) (by simp), grown_atT g03 (unhide P2) (by simp), hB3, grown_trans (unhide HG0) g03⟩, okGr.keep o2 g23⟩
  have N2 := hide n2
  have L2 : Hid (∀ x ∈ F, w.heap.size ≤ x ∧ w.heap.size + 3 ≤ x) := fun x hx => by have := l2 x hx; omega
  have LT2 : Hid (∀ x ∈ F, x < w2.heap.size) := fun x hx => okGr.lt _ _ _ _ o2 x hx
  have HGL := hide hgl
  clear o2 n2 l2 g2 hgl G2
  go_wp2_with (first | (refine store_row rfl 96 _ _ rfl w2.heap.size rfl (plV X (.slice go gn gcap)) rfl #[.int .i64 0, .int .i64 0, .int .i64 0, .int .i64 0, .int .i64 0, .int .i64 0, .int .i64 0, .int .i64 0, .int .i64 0, .int .i64 0, .int .i64 0, .int .i64 0, .int .i64 0, .int .i64 0, .int .i64 0, .int .i64 0, .int .i64 0, .int .i64 0, .int .i64 0, .int .i64 0, .int .i64 0, .slice none 0 0] 96 (unhide HB6) (by rw [plV_size (unhide HSX)]; rfl) (by rw [plV_size (unhide HSX)]; kernel_rfl) (plV_one (unhide HOX) rfl) ?_; intro w3 hB3 g3; obtain ⟨hE, o3⟩ := unhide HST w3 hB3 g3; have HE := hide hE; have O3 := hide o3; clear hB3 g3 hE o3) | (refine load_mid rfl 91 _ rfl w2.heap.size 0 rfl X (pl_frame (unhide HE).all) _ Tryz.underlying91 rfl (by rw [unhide HSX]; kernel_rfl) ?_))
  clear HST HB6 P1 P2
  cases fb
  · have eX := unhide H1 rfl
    subst eX
    obtain rfl : b = false := by rw [← unhide HB]; rfl
    refine (isNone_yes _).mono ?_
    rintro e w4 ⟨rfl, g4⟩
    have E4 := hide ((unhide HE).new g4)
    clear g4 HE
    go_wp2_with (refine store_row rfl 96 _ _ rfl (w.heap.size + 1 + 1) rfl #[.int .i64 0, .int .i64 0, .int .i64 0, .int .i64 0, .int .i64 0, .int .i64 0, .int .i64 0, .int .i64 0, .int .i64 0, .int .i64 0, .int .i64 0, .int .i64 0, .int .i64 0, .int .i64 0, .int .i64 0, .int .i64 0, .int .i64 0, .int .i64 0, .int .i64 0, .int .i64 0, .int .i64 0, .slice none 0 0] rfl #[.int .i64 0, .int .i64 0, .int .i64 0, .int .i64 0, .int .i64 0, .int .i64 0, .int .i64 0, .int .i64 0, .int .i64 0, .int .i64 0, .int .i64 0, .int .i64 0, .int .i64 0, .int .i64 0, .int .i64 0, .int .i64 0, .int .i64 0, .int .i64 0, .int .i64 0, .int .i64 0, .int .i64 0, .slice none 0 0] 96 (unhide E4).r rfl (by kernel_rfl) pzOne ?_; intro w8 hB8 g8)
    refine bodyPost_ret (v := .tuple #[.agg #[.int .i64 0, .int .i64 0, .int .i64 0, .int .i64 0, .int .i64 0, .int .i64 0, .int .i64 0, .int .i64 0, .int .i64 0, .int .i64 0, .int .i64 0, .int .i64 0, .int .i64 0, .int .i64 0, .int .i64 0, .int .i64 0, .int .i64 0, .int .i64 0, .int .i64 0, .int .i64 0, .int .i64 0, .slice none 0 0], .bool false]) ?_ rfl ⟨_, rfl, ⟨fun _ => rfl, fun e => by cases e⟩, ?_⟩
    · exact results_c2 (p := 4) (q := 5) (ty := 96) rfl _ _ _ (w.heap.size + 1 + 1) rfl _ (run_loadVar_row w8 _ 96 96 _ (0, 0) _ hB8 Tryz.underlying96 rfl (by kernel_rfl))
    · exact grown_new (unhide E4).grown g8 (fun q e => by simp at e; omega)
  · obtain ⟨D, hF, hD⟩ := unhide H2 rfl
    have hG := (geo_of (unhide HFB)).congr hD
    have em : mostA 1 C 1 n = mostA 1 D 1 n := (mostA_congr n hD).symm
    have ev : mostA 1 C 2 n = mostA 1 D 2 n := (mostA_congr n hD).symm
    rw [em, ev] at hG
    have hn4 := hG.n4
    have hp : (p == 0) = false := by
      have h := unhide HFB
      rw [frameB, Bool.and_eq_true] at h
      rcases (headB_facts h.1).1 with rfl | rfl <;> rfl
    have HF := hide hF
    have HD := hide hD
    have HG := hide hG
    obtain rfl : gn = n := by rw [← unhide HGL, if_pos rfl, newGr_len]
    have hkB : coefsOkB wd ht gn C Y = b := by rw [← unhide HB]; rfl
    have HKB := hide hkB
    clear hF hD hG em ev hkB HB
    refine (isNone_no X p wd ht rs gn D (unhide HF) hp _).mono ?_
    rintro e w4 ⟨rfl, g4⟩
    have E4 := hide ((unhide HE).new g4)
    have O4 := hide (okGr.keep (unhide O3) g4)
    have c1 : w4.cell? ⟨w.heap.size + 1, 0, none⟩ = some (.slice vo Y.length vc) := by rw [cell_of_row _ _ 0 _ _ (0, 0) (unhide E4).c]; rfl
    have c2 := (pl_grids (unhide HSX) (unhide E4).all).1
    clear g4 HE O3 H1 H2
    by_cases hYn : Y.length = gn
    · have hyl : ((Y.length : Int) != (gn : Int)) = false := by simp [hYn]
      have HYN := hide hYn
      clear hYn
      have OT : Hid (OwGr w4 (.slice go gn gcap) (gridsTo wd ht gn C Y 0) F) := by unfold Hid; rw [gridsTo_zero]; exact unhide O4
      clear O4
      go_wp2
      clear c1 c2 hyl
      go_loopw [28] (fun iv wr => ∃ (i : Nat) (F' : List Nat), i ≤ Y.length ∧ iv = .int .i64 i ∧ Hid (Fc w wr X (.slice go gn gcap) (.slice vo Y.length vc) w2.heap.size) ∧ Hid (OwGr wr (.slice go gn gcap) (gridsTo wd ht gn C Y i) F') ∧ Hid F'.Nodup ∧ Hid (∀ x ∈ F', x ∈ F) ∧ Hid (∀ c, c < i → planeB (bwG wd gn C c) (bhG ht gn C c) (nwG wd gn C c) (nhG ht gn C c) (Y.getD c []) = true)) (fun iv _ => Y.length - (intOf iv).toNat)
      case atStart => exact ⟨0, F, Nat.zero_le _, rfl, E4, OT, N2, fun x hx => hx, fun c hc => by omega⟩
      case round =>
        clear E4 OT
        obtain ⟨i, F', hi, rfl, hE, hO, hN, hS, hK⟩ := hrel
        by_cases hlt : i < Y.length
        · have hltI : (i : Int) < (Y.length : Int) := by omega
          have hin : i < gn := by have := unhide HYN; omega
          obtain ⟨pb, poff, u, rfl, cu, ru⟩ := unhide HYR i hlt
          obtain ⟨P, HP⟩ : ∃ P, Hid (Y.getD i [] = P) := ⟨_, rfl⟩
          have eP : Y[i] = P := by rw [← unhide HP]; simp [hlt]
          rw [eP] at ru
          have cu' := (unhide hE).grown.cell cu (by simp)
          obtain ⟨uo, uc, rfl⟩ : ∃ uo uc, u = .slice uo P.length uc := by obtain ⟨uo, uc, e, _⟩ := ru; exact ⟨uo, uc, e⟩
          have RU := hide ru
          obtain ⟨e1, e2, e3, e4⟩ := dims_congr (wd := wd) (ht := ht) (unhide HD) i hin
          have hat := gridsTo_at wd ht gn C Y i i hin
          rw [if_neg (Nat.lt_irrefl i), ← e1, ← e2] at hat
          obtain ⟨t, HT⟩ : ∃ t, Hid (planeB (bwG wd gn C i) (bhG ht gn C i) (nwG wd gn C i) (nhG ht gn C i) P = t) := ⟨_, rfl⟩
          have HTD : Hid (planeB (bwG wd gn D i) (bhG ht gn D i) (nwG wd gn D i) (nhG ht gn D i) P = t) := by unfold Hid; rw [e1, e2, e3, e4]; exact unhide HT
          have FILL : Hid (Calls Tryz.prog 66 #[.agg (plV X (.slice go gn gcap)), .int .i64 (i : Int), .slice uo P.length uc] wr fun e w' => e = .returned (.bool t) ∧ (∃ g ∈ F', Wr [g] wr w') ∧ (t = true → ∃ F'', OwGr w' (.slice go gn gcap) ((gridsTo wd ht gn C Y i).set i (bwG wd gn D i, bhG ht gn D i, P)) F'' ∧ F''.Nodup ∧ ∀ x ∈ F'', x ∈ F')) := fillPlanes X p wd ht rs gn D (unhide HF) (unhide HG) _ _ F' wr (unhide hO) (unhide hN) (gridsTo_len _ _ _ _ _ _) i hin _ hat (by rw [List.length_replicate]) w (unhide hE).grown (fun x hx => (unhide L2 x (unhide hS x hx)).1) _ P (unhide RU) t HTD
          have ET : Hid (t = true → (gridsTo wd ht gn C Y i).set i (bwG wd gn D i, bhG ht gn D i, P) = gridsTo wd ht gn C Y (i + 1)) := fun _ => by rw [← unhide HP, e1, e2]; exact gridsTo_set wd ht gn C Y i hin
          have HLE : Hid (∀ x ∈ F', w.heap.size + 3 ≤ x ∧ x < w2.heap.size) := fun x hx => ⟨(unhide L2 x (unhide hS x hx)).2, unhide LT2 x (unhide hS x hx)⟩
          clear cu ru eP hat e1 e2 e3 e4 RU HTD
          go_wp2_with (refine load_row rfl 96 _ rfl w2.heap.size rfl (plV X (.slice go gn gcap)) 96 (unhide hE).all _ Tryz.underlying96 rfl (by rw [plV_size (unhide HSX)]; kernel_rfl) ?_)
          refine (unhide FILL).mono ?_
          rintro e w5 ⟨rfl, ⟨g, hgF, g5⟩, h5⟩
          obtain ⟨hg1, hg2⟩ := unhide HLE g hgF
          have hbl : w2.heap.size < wr.heap.size := (Array.getElem?_eq_some_iff.1 (unhide hE).all).1
          have E5 : Hid (Fc w w5 X (.slice go gn gcap) (.slice (some ⟨pb, poff, none⟩) Y.length vc) w2.heap.size) := by
            have E := unhide hE
            refine ⟨(g5.block _ (by omega) (fun e => by simp at e; omega)).trans E.c, (g5.block _ (by omega) (fun e => by simp at e; omega)).trans E.r, (g5.block _ hbl (fun e => by simp at e; omega)).trans E.all, Wr.new E.grown g5 (fun x hx => by simp at hx; omega)⟩
          have H5 := hide h5
          clear h5 g5 FILL hE hO cu'
          cases t
          · have hbf : b = false := by
              rw [← unhide HKB]
              cases hk : coefsOkB wd ht gn C Y with
              | false => rfl
              | true =>
                unfold coefsOkB at hk
                rw [Bool.and_eq_true] at hk
                have := List.all_eq_true.1 hk.2 i (by simpa using hlt)
                rw [unhide HP, unhide HT] at this
                exact this.symm
            subst hbf
            go_wp2_with (refine store_row rfl 96 _ _ rfl (w.heap.size + 1 + 1) rfl #[.int .i64 0, .int .i64 0, .int .i64 0, .int .i64 0, .int .i64 0, .int .i64 0, .int .i64 0, .int .i64 0, .int .i64 0, .int .i64 0, .int .i64 0, .int .i64 0, .int .i64 0, .int .i64 0, .int .i64 0, .int .i64 0, .int .i64 0, .int .i64 0, .int .i64 0, .int .i64 0, .int .i64 0, .slice none 0 0] rfl #[.int .i64 0, .int .i64 0, .int .i64 0, .int .i64 0, .int .i64 0, .int .i64 0, .int .i64 0, .int .i64 0, .int .i64 0, .int .i64 0, .int .i64 0, .int .i64 0, .int .i64 0, .int .i64 0, .int .i64 0, .int .i64 0, .int .i64 0, .int .i64 0, .int .i64 0, .int .i64 0, .int .i64 0, .slice none 0 0] 96 (unhide E5).r rfl (by kernel_rfl) pzOne ?_; intro w8 hB8 g8)
            refine bodyPost_ret (v := .tuple #[.agg #[.int .i64 0, .int .i64 0, .int .i64 0, .int .i64 0, .int .i64 0, .int .i64 0, .int .i64 0, .int .i64 0, .int .i64 0, .int .i64 0, .int .i64 0, .int .i64 0, .int .i64 0, .int .i64 0, .int .i64 0, .int .i64 0, .int .i64 0, .int .i64 0, .int .i64 0, .int .i64 0, .int .i64 0, .slice none 0 0], .bool false]) ?_ rfl ⟨_, rfl, ⟨fun _ => rfl, fun e => by cases e⟩, ?_⟩
            · exact results_c2 (p := 4) (q := 5) (ty := 96) rfl _ _ _ (w.heap.size + 1 + 1) rfl _ (run_loadVar_row w8 _ 96 96 _ (0, 0) _ hB8 Tryz.underlying96 rfl (by kernel_rfl))
            · exact grown_new (unhide E5).grown g8 (fun q e => by simp at e; omega)
          · obtain ⟨F6, o6, n6, m6⟩ := unhide H5 rfl
            rw [unhide ET rfl] at o6
            have O6 := hide o6
            have N6 := hide n6
            have M6 : Hid (∀ x ∈ F6, x ∈ F) := fun x hx => unhide hS x (m6 x hx)
            have K6 : Hid (∀ c, c < i + 1 → planeB (bwG wd gn C c) (bhG ht gn C c) (nwG wd gn C c) (nhG ht gn C c) (Y.getD c []) = true) := fun c hc => by
              by_cases e9 : c < i
              · exact unhide hK c e9
              · obtain rfl : c = i := by omega
                rw [unhide HP]
                exact unhide HT
            clear o6 n6 m6 H5 hK hS hN ET
            go_wp2
            go_roundw
            case rel => exact ⟨i + 1, F6, by omega, by go_num, E5, O6, N6, M6, K6⟩
            case measure => simp [intOf]; omega
        · obtain rfl : i = Y.length := by omega
          have hbt : b = true := by
            rw [← unhide HKB]
            unfold coefsOkB
            rw [Bool.and_eq_true]
            exact ⟨decide_eq_true (unhide HYN), List.all_eq_true.2 (fun c hc => unhide hK c (by simpa using hc))⟩
          subst hbt
          go_wp2_with (first | (refine load_row rfl 96 _ rfl w2.heap.size rfl (plV X (.slice go gn gcap)) 96 (unhide hE).all _ Tryz.underlying96 rfl (by rw [plV_size (unhide HSX)]; kernel_rfl) ?_) | (refine store_row rfl 96 _ _ rfl (w.heap.size + 1 + 1) rfl (plV X (.slice go gn gcap)) rfl #[.int .i64 0, .int .i64 0, .int .i64 0, .int .i64 0, .int .i64 0, .int .i64 0, .int .i64 0, .int .i64 0, .int .i64 0, .int .i64 0, .int .i64 0, .int .i64 0, .int .i64 0, .int .i64 0, .int .i64 0, .int .i64 0, .int .i64 0, .int .i64 0, .int .i64 0, .int .i64 0, .int .i64 0, .slice none 0 0] 96 (unhide hE).r (by rw [plV_size (unhide HSX)]; rfl) (by rw [plV_size (unhide HSX)]; kernel_rfl) (plV_one (unhide HOX) rfl) ?_; intro w8 hB8 g8))
          have o8 : OwGr w8 (.slice go gn gcap) (gridsOf wd ht gn C Y) F' := by
            unfold gridsOf
            have := unhide HYN
            rw [← this]
            rw [this]
            have h9 := unhide hO
            rw [this] at h9
            exact okGr.wr h9 (Wr.ofRow (F := [w.heap.size + 1 + 1]) g8 (fun q e => by have e9 := Option.some.inj e; simp [e9])) (fun x hx e => by simp at e; have := (unhide L2 x (unhide hS x hx)).2; omega)
          refine bodyPost_ret (v := .tuple #[.agg (plV X (.slice go gn gcap)), .bool true]) ?_ rfl ⟨_, rfl, ⟨(fun e => by cases e), fun _ => ⟨X, D, _, F', rfl, unhide HF, unhide HD, o8, unhide hN, fun x hx => (unhide L2 x (unhide hS x hx)).1⟩⟩, ?_⟩
          · exact results_c2 (p := 4) (q := 5) (ty := 96) rfl _ _ _ (w.heap.size + 1 + 1) rfl _ (run_loadVar_row w8 _ 96 96 _ (0, 0) _ hB8 Tryz.underlying96 rfl (by rw [plV_size (unhide HSX)]; kernel_rfl))
          · exact grown_new (unhide hE).grown g8 (fun q e => by simp at e; omega)
    · have hyl : ((Y.length : Int) != (gn : Int)) = true := by rw [bne_iff_ne]; intro e; exact hYn (by exact_mod_cast e)
      obtain rfl : b = false := by
        rw [← unhide HKB]
        unfold coefsOkB
        rw [decide_eq_false hYn, Bool.false_and]
      clear hYn
      go_wp2_with (refine store_row rfl 96 _ _ rfl (w.heap.size + 1 + 1) rfl #[.int .i64 0, .int .i64 0, .int .i64 0, .int .i64 0, .int .i64 0, .int .i64 0, .int .i64 0, .int .i64 0, .int .i64 0, .int .i64 0, .int .i64 0, .int .i64 0, .int .i64 0, .int .i64 0, .int .i64 0, .int .i64 0, .int .i64 0, .int .i64 0, .int .i64 0, .int .i64 0, .int .i64 0, .slice none 0 0] rfl #[.int .i64 0, .int .i64 0, .int .i64 0, .int .i64 0, .int .i64 0, .int .i64 0, .int .i64 0, .int .i64 0, .int .i64 0, .int .i64 0, .int .i64 0, .int .i64 0, .int .i64 0, .int .i64 0, .int .i64 0, .int .i64 0, .int .i64 0, .int .i64 0, .int .i64 0, .int .i64 0, .int .i64 0, .slice none 0 0] 96 (unhide E4).r rfl (by kernel_rfl) pzOne ?_; intro w8 hB8 g8)
      refine bodyPost_ret (v := .tuple #[.agg #[.int .i64 0, .int .i64 0, .int .i64 0, .int .i64 0, .int .i64 0, .int .i64 0, .int .i64 0, .int .i64 0, .int .i64 0, .int .i64 0, .int .i64 0, .int .i64 0, .int .i64 0, .int .i64 0, .int .i64 0, .int .i64 0, .int .i64 0, .int .i64 0, .int .i64 0, .int .i64 0, .int .i64 0, .slice none 0 0], .bool false]) ?_ rfl ⟨_, rfl, ⟨fun _ => rfl, fun e => by cases e⟩, ?_⟩
      · exact results_c2 (p := 4) (q := 5) (ty := 96) rfl _ _ _ (w.heap.size + 1 + 1) rfl _ (run_loadVar_row w8 _ 96 96 _ (0, 0) _ hB8 Tryz.underlying96 rfl (by kernel_rfl))
      · exact grown_new (unhide E4).grown g8 (fun q e => by simp at e; omega)

end Go.Proofs.YtnbpfkeppogacaaGreat

namespace Go.Proofs.YtnbpfkeppogacaaGreat
open Go.RowKit Go.Shelf

theorem gridsOf_len (wd ht : Int) (n : Nat) (C : Nat → Nat → Int) (Y : List (List (List Int))) : (gridsOf wd ht n C Y).length = n := gridsTo_len _ _ _ _ _ _
theorem gridsOf_at (wd ht : Int) (n : Nat) (C : Nat → Nat → Int) (Y : List (List (List Int))) (c : Nat) (hc : c < n) : (gridsOf wd ht n C Y).getD c (0, 0, []) = (bwG wd n C c, bhG ht n C c, Y.getD c []) := by
  unfold gridsOf
  rw [gridsTo_at _ _ _ _ _ _ _ hc, if_pos hc]
/-- What is so of coefficients that are ok. -/
theorem ok_dims {p wd ht rs : Int} {n : Nat} {C : Nat → Nat → Int} {Y : List (List (List Int))} (hb : frameB p wd ht rs n C = true) (h : coefsOkB wd ht n C Y = true) : n ≤ 4 ∧ Y.length = n ∧ ∀ c, c < n → bwG wd n C c ≤ 128 ∧ bhG ht n C c ≤ 128 ∧ (Y.getD c []).length = bwG wd n C c * bhG ht n C c ∧ ∀ k, k < (Y.getD c []).length → ((Y.getD c []).getD k []).length = 64 := by
  have hg := geo_of hb
  have h1 := h
  unfold coefsOkB at h1
  rw [Bool.and_eq_true] at h1
  have h2 : Y.length = n := of_decide_eq_true h1.1
  refine ⟨hg.n4, h2, fun c hc => ?_⟩
  obtain ⟨hY, h3, h4⟩ := ok_plane h c hc
  have e : Y.getD c [] = Y[c] := by simp [hY]
  have d := dims_of hg c hc
  rw [e]
  refine ⟨d.bw1.2, d.bh1.2, h3, fun k hk => ?_⟩
  have e2 : Y[c].getD k [] = Y[c][k] := by simp [hk]
  rw [e2]
  exact block_len (h4 k hk)
theorem FixedTo.shape {p wd ht rs : Int} {n : Nat} {C : Nat → Nat → Int} {Y : List (List (List Int))} {base : Nat} {b : Bool} {A : Array Value} {w : World} (h : FixedTo p wd ht rs n C Y base b A w) : A.size = 22 ∧ A.all (·.oneCell') = true := by
  cases b
  · rw [h.1 rfl]
    exact ⟨rfl, pzOne⟩
  · obtain ⟨X, D, gv, F, rfl, hF, _, o, _⟩ := h.2 rfl
    obtain ⟨ao, cap, rfl⟩ := o.form
    exact ⟨plV_size hF.size _, plV_one hF.one rfl⟩

set_option maxRecDepth 100000 in
set_option maxHeartbeats 3200000 in
theorem giveCoefsOk : ImplCoefsOk := by
  intro p wd ht rs ao n cap C v Y w hr hn hY hsz fb b HFB HB
  obtain ⟨W0, hW0⟩ : ∃ W0, (w.alloc (.cells #[.int .i64 p, .int .i64 wd, .int .i64 ht, .int .i64 rs, .slice ao n cap] 37)).alloc (.cells #[v] 38) = W0 := ⟨_, rfl⟩
  have G0 : w.grownBy W0 none := by rw [← hW0]; exact grown_alloc (World.grownBy_alloc _ _ _) _
  have HR := hide (hr.grown G0)
  have HYR := hide (RdR.st (RdR.st (RdI.st .i64)) _ _ _ _ hY G0)
  have HW := hide hW0
  have HG0 := hide G0
  clear hr hY hW0 G0
  go_enter Tryz.func26, Tryz.ntmps26
  go_wp2_with fail
  rw [unhide HW]
  clear HW
  refine (fixCoefs p wd ht rs ao n cap C v Y W0 (unhide HR) hn (unhide HYR) fb b HFB HB).mono ?_
  rintro e w1 ⟨A, rfl, hA, g1⟩
  obtain ⟨hs, ho⟩ := hA.shape
  have HSA := hide hs
  have HOA := hide ho
  have HB1 := hide (heap_alloc_new w1 (.cells #[.int .i64 0, .int .i64 0, .int .i64 0, .int .i64 0, .int .i64 0, .int .i64 0, .int .i64 0, .int .i64 0, .int .i64 0, .int .i64 0, .int .i64 0, .int .i64 0, .int .i64 0, .int .i64 0, .int .i64 0, .int .i64 0, .int .i64 0, .int .i64 0, .int .i64 0, .int .i64 0, .int .i64 0, .slice none 0 0] 96))
  clear hA hs ho
  go_wp2_with (refine store_row rfl 96 _ _ rfl w1.heap.size rfl A rfl #[.int .i64 0, .int .i64 0, .int .i64 0, .int .i64 0, .int .i64 0, .int .i64 0, .int .i64 0, .int .i64 0, .int .i64 0, .int .i64 0, .int .i64 0, .int .i64 0, .int .i64 0, .int .i64 0, .int .i64 0, .int .i64 0, .int .i64 0, .int .i64 0, .int .i64 0, .int .i64 0, .int .i64 0, .slice none 0 0] 96 (unhide HB1) (by rw [unhide HSA]; rfl) (by rw [unhide HSA]; kernel_rfl) (unhide HOA) ?_; intro w3 hB3 g3)
  go_ret
  exact ⟨rfl, grown_new (grown_alloc (grown_trans (unhide HG0) g1) (.cells #[.int .i64 0, .int .i64 0, .int .i64 0, .int .i64 0, .int .i64 0, .int .i64 0, .int .i64 0, .int .i64 0, .int .i64 0, .int .i64 0, .int .i64 0, .int .i64 0, .int .i64 0, .int .i64 0, .int .i64 0, .int .i64 0, .int .i64 0, .int .i64 0, .int .i64 0, .int .i64 0, .int .i64 0, .slice none 0 0] 96)) g3 (fun q e => by simp at e; have := (grown_trans (unhide HG0) g1).size; omega)⟩

end Go.Proofs.YtnbpfkeppogacaaGreat

namespace Go.Proofs.YtnbpfkeppogacaaGreat
open Go.RowKit

def datRow (xs : List Int) : DataW Unit := .agg (xs.map fun x => .lit (.int .i64 x))
theorem datRow_inj : ∀ {xs ys : List Int}, datRow xs = datRow ys → xs = ys := by
  intro xs ys h
  unfold datRow at h
  injection h with h
  induction xs generalizing ys with
  | nil => cases ys with
    | nil => rfl
    | cons y ys => simp at h
  | cons x xs ih => cases ys with
    | nil => simp at h
    | cons y ys =>
      simp only [List.map_cons, List.cons.injEq] at h
      obtain ⟨h1, h2⟩ := h
      injection h1 with h1
      injection h1 with _ h1
      rw [h1, ih h2]
def unInt : Value → Option Int
  | .int .i64 x => some x
  | _ => none
def unInts : List Value → Option (List Int)
  | [] => some []
  | v :: r => match unInt v, unInts r with
    | some x, some xs => some (x :: xs)
    | _, _ => none
def sqR (v : Value) : Option (DataW Unit × List MemPlace) := match v with
  | .agg cs => (unInts cs.toList).map fun xs => (datRow xs, [])
  | _ => none
theorem unInts_mk : ∀ xs : List Int, unInts (xs.map (Value.int .i64)) = some xs
  | [] => rfl
  | x :: xs => by
    show (match unInt (.int .i64 x), unInts (xs.map (Value.int .i64)) with | some x, some xs => some (x :: xs) | _, _ => none) = _
    rw [unInts_mk xs]
    rfl
theorem unInt_inv {v : Value} {x : Int} (h : unInt v = some x) : v = .int .i64 x := by
  unfold unInt at h
  split at h
  · rw [Option.some.inj h]
  · cases h
theorem unInts_inv : ∀ {vs : List Value} {xs : List Int}, unInts vs = some xs → vs = xs.map (Value.int .i64)
  | [], xs, h => by
    unfold unInts at h
    rw [← Option.some.inj h]
    rfl
  | v :: r, xs, h => by
    unfold unInts at h
    split at h
    · rename_i x ys h1 h2
      rw [← Option.some.inj h, unInt_inv h1, unInts_inv h2]
      rfl
    · cases h
theorem sqR_mk (xs : List Int) : sqR (.agg (sq xs)) = some (datRow xs, []) := by
  unfold sqR sq
  simp only [unInts_mk, Option.map_some]
theorem sqR_inv {v : Value} {z : DataW Unit × List MemPlace} (h : sqR v = some z) : ∃ xs, v = .agg (sq xs) ∧ z = (datRow xs, []) := by
  unfold sqR at h
  split at h
  · rename_i cs
    obtain ⟨xs, h1, h2⟩ := Option.map_eq_some_iff.1 h
    refine ⟨xs, ?_, h2.symm⟩
    rw [sq, ← unInts_inv h1]
  · cases h

def keyN (i : Nat) : Lit := .int .i64 i
theorem keyN_inj {i j : Nat} (h : keyN i = keyN j) : i = j := by
  unfold keyN at h
  injection h with _ h
  omega
theorem keyedN : Maps.Keyed Tryz.prog 3 := Maps.int_keyed Tryz.underlying3
theorem keyN_of {i : Nat} (h : i < 9223372036854775808) : keyOf Tryz.prog 3 (.int .i64 i) = some (keyN i) := Maps.keyOf_int_mk Tryz.underlying3 (WalkArith.wf_i64 (by omega))
theorem keyN_lit (i : Nat) : WideAt.IsKeyLit (keyN i) := trivial

/-- Block b is a map whose keys are those numbers, and whose elements are the squares of these rows. -/
def OwM (w : World) (b : Nat) (L : List (List Int)) : Prop :=
  ∃ (D : DataW Unit) (n : Nat), w.ownsMap Tryz.prog 3 sqR b n D ∧ Maps.size D = L.length ∧ (∀ i, i < L.length → ∀ z, D.atKey (keyN i) z = datRow (L.getD i [])) ∧ (∀ kl, Maps.has D kl = true → ∃ i, i < L.length ∧ kl = keyN i)
theorem own_tight {w : World} {b n : Nat} {D : DataW Unit} (h : w.ownsMap Tryz.prog 3 sqR b n D) : w.ownsMap Tryz.prog 3 sqR b (Maps.size D) D := by
  obtain ⟨es, clock, hb, F, hs, rfl⟩ := h
  exact ⟨es, clock, hb, F, by simp [Maps.size, length_sorted], rfl⟩
theorem OwM.made (w : World) : OwM (w.alloc (.map #[] 0)) w.heap.size [] :=
  ⟨.map [], 0, World.ownsMap_made _ _ _ _, rfl, fun i hi => by simp at hi, fun kl h => by simp [Maps.has] at h⟩
theorem OwM.lt {w : World} {b : Nat} {L : List (List Int)} (h : OwM w b L) : b < w.heap.size := by obtain ⟨D, n, h, _⟩ := h; exact h.lt
theorem OwM.keep {w w' : World} {b : Nat} {L : List (List Int)} {row : Option Nat} (h : OwM w b L) (g : w.grownBy w' row) (hne : some b ≠ row) : OwM w' b L := by
  obtain ⟨D, n, h, r⟩ := h
  exact ⟨D, n, h.kept g hne, r⟩
theorem zero_square (w : World) : (zeroValue 113).run Tryz.prog w = .ok (.agg (sq zs64)) w := by
  rw [sq_z64]
  kernel_rfl
theorem OwM.look {w : World} {b : Nat} {L : List (List Int)} (h : OwM w b L) (i : Nat) (hi : i < L.length) (hL : L.length < 9223372036854775808) : (Instr.lookup 100 (.map (some b)) (.int .i64 i) false).run Tryz.prog w = .ok (.agg (sq (L.getD i []))) w := by
  obtain ⟨D, n, h, _, hat, _⟩ := h
  obtain ⟨v, ps, hrun, hv⟩ := h.lookup keyedN Tryz.underlying100 (zero_square w) (sqR_mk zs64) (keyN_of (i := i) (by omega))
  rw [hat i hi] at hv
  obtain ⟨xs, rfl, e⟩ := sqR_inv hv
  rw [datRow_inj (congrArg Prod.fst e)]
  exact hrun
theorem OwM.store {w : World} {b : Nat} {L : List (List Int)} (h : OwM w b L) (i : Nat) (hi : i ≤ L.length) (hL : L.length < 1000000) (xs : List Int) : ∃ w', (Instr.mapUpdate 100 (.map (some b)) (.int .i64 i) (.agg (sq xs))).run Tryz.prog w = .ok () w' ∧ OwM w' b (if i = L.length then L ++ [xs] else L.set i xs) ∧ w.grownBy w' (some b) := by
  obtain ⟨D, n, h, hs, hat, hhas⟩ := h
  have hti := h.tidy keyedN
  obtain ⟨w', hrun, h', g⟩ := (own_tight h).update keyedN Tryz.underlying100 (by rw [hs]; unfold maxLen; omega) (keyN_of (i := i) (by omega)) (sqR_mk xs)
  refine ⟨w', hrun, ⟨_, _, h', ?_, ?_, ?_⟩, g⟩
  · rw [Maps.size_put hti]
    split
    · rename_i hh
      obtain ⟨j, hj, e⟩ := hhas _ hh
      rw [keyN_inj e, if_neg (by omega), List.length_set, hs]
    · rename_i hh
      split
      · rw [List.length_append, hs]; rfl
      · exfalso
        exact hh (Maps.has_true_of_atKey (hat i (by omega)))
  · intro j hj z
    by_cases e : j = i
    · subst e
      rw [Maps.atKey_put_same hti.isMap (keyN_lit j)]
      split
      · rename_i h; simp [h]
      · rw [List.getD_eq_getElem?_getD, List.getElem?_set_self (by omega)]; rfl
    · rw [Maps.atKey_put_other (fun h => e (keyN_inj h))]
      have hj' : j < L.length := by
        split at hj
        · rw [List.length_append, List.length_singleton] at hj; omega
        · rw [List.length_set] at hj; exact hj
      rw [hat j hj']
      split
      · simp [List.getD_eq_getElem?_getD, List.getElem?_append_left hj']
      · simp [List.getD_eq_getElem?_getD, Ne.symm e]
  · intro kl hk
    by_cases e : kl = keyN i
    · refine ⟨i, ?_, e⟩
      split
      · rw [List.length_append, List.length_singleton]; omega
      · rw [List.length_set]; omega
    · rw [Maps.has_put_other e] at hk
      obtain ⟨j, hj, ej⟩ := hhas _ hk
      refine ⟨j, ?_, ej⟩
      split
      · rw [List.length_append, List.length_singleton]; omega
      · rw [List.length_set]; omega
theorem OwM.len {w : World} {b : Nat} {L : List (List Int)} (h : OwM w b L) (ty : TypeId) : (Builtin.len_ #[100] ty #[.map (some b)]).run Tryz.prog w = .ok (.int .i64 L.length) w := by
  obtain ⟨D, n, h, hs, _⟩ := h
  rw [← hs]
  exact h.len Tryz.underlying100 ty

/-- At the operation. -/
theorem wp_storeM {ops : Array Oper} {rest : List Oper} {op : Oper} {a : Act} {w : World} {Q : Exit → Act → World → Prop} (hw : Region.wanted op (yielded ops a.tmps) = true) (m x y : Operand) (ho : op.op = .mapUpdate 100 m x y) (b : Nat) (L : List (List Int)) (i : Nat) (xs : List Int)
    (hm : a.eval m = .map (some b)) (hx : a.eval x = .int .i64 i) (hy : a.eval y = .agg (sq xs)) (h : OwM w b L) (hi : i ≤ L.length) (hL : L.length < 1000000)
    (hK : ∀ w', OwM w' b (if i = L.length then L ++ [xs] else L.set i xs) → w.grownBy w' (some b) → wpList Tryz.prog ops Q rest (a.put op.dst undef) w') : wpList Tryz.prog ops Q (op :: rest) a w :=
  BigFrame.wpList_want hw fun _ hC => by
    obtain ⟨w', hrun, h1, h2⟩ := h.store i hi hL xs
    unfold Oper.wp
    simp [execOp, ho, hm, hx, hy, hrun, Result.andThen]
    exact hC _ _ (hK w' h1 h2)

end Go.Proofs.YtnbpfkeppogacaaGreat

namespace Go.Proofs.YtnbpfkeppogacaaGreat
open Go.RowKit

/-- The number ahead of place k, -1 ahead of the first. -/
def lastC (cs : List Int) (k : Nat) : Int := if k = 0 then -1 else cs.getD (k - 1) 0
theorem lastC_succ (cs : List Int) (k : Nat) : lastC cs (k + 1) = cs.getD k 0 := by simp [lastC]

set_option maxRecDepth 20000 in
set_option maxHeartbeats 1600000 in
theorem hasComps (X : Array Value) (hs : X.size = 21) (n : Nat) (F : Hid (∀ (c : Int) (w : World), Calls Tryz.prog 100 #[.agg X, .int .i64 c] w fun e w' => e = .returned (.bool (decide (0 ≤ c ∧ c ≤ (n : Int) - 1))) ∧ w.grownBy w' none))
    (ao : Option Addr) (m cap : Nat) (cs : List Int) (w : World) (hr : Rd .i64 w ao m cs) (hm : m ≤ 4194304) :
    Calls Tryz.prog 90 #[.agg X, .slice ao m cap] w fun e w' => e = .returned (.bool (okComps n cs)) ∧ w.grownBy w' none := by
  have hml := hr.1
  obtain ⟨wx, hW0⟩ : ∃ wx, w.alloc (.cells X 91) = wx := ⟨_, rfl⟩
  have G0 : w.grownBy wx none := by rw [← hW0]; exact grown_alloc (World.grownBy.refl _ _) _
  have B0 : Hid (wx.heap[w.heap.size]? = some (.cells X 91 (0, 0))) := by rw [← hW0]; exact heap_alloc_new w _
  have hgs : w.heap.size < wx.heap.size := by rw [← hW0]; simp
  have HR := hide (hr.grown G0)
  have HG0 := hide G0
  have HW := hide hW0
  clear hr G0 hW0
  go_enter Tryz.func90, Tryz.ntmps90
  go_wp2
  rw [unhide HW]
  clear HW
  go_loopw [5, 10] (fun l i wr => ∃ k : Nat, k ≤ m ∧ i = .int .i64 k ∧ l = .int .i64 (lastC cs k) ∧ compsTo n cs k = true ∧ wx.grownBy wr none) (fun _ i _ => m - (intOf i).toNat)
  case atStart => exact ⟨0, Nat.zero_le _, rfl, rfl, rfl, World.grownBy.refl _ _⟩
  case round =>
    obtain ⟨k, hk, rfl, rfl, hok, hgk⟩ := hrel
    by_cases hlt : k < m
    · obtain ⟨b, off, rfl, hc⟩ := ((unhide HR).grown hgk).2 k hlt
      have hB := (hgk.block w.heap.size hgs (by simp)).trans (unhide B0)
      have HS : Hid (compsTo n cs (k + 1) = (compsTo n cs k && (decide (0 ≤ cs.getD k 0 ∧ cs.getD k 0 ≤ (n : Int) - 1) && decide (k = 0 ∨ cs.getD (k - 1) 0 < cs.getD k 0)))) := rfl
      have HOK := hide hok
      have STOP : Hid (compsTo n cs (k + 1) = false → okComps n cs = false) := fun h => by
        rw [okComps, compsTo_false h cs.length (by omega)]; rfl
      have HL0 : Hid (cs.getD k 0 ≤ lastC cs k → compsTo n cs (k + 1) = false) := fun h => by
        rw [unhide HS]
        unfold lastC at h
        split at h
        · have e : decide (0 ≤ cs.getD k 0 ∧ cs.getD k 0 ≤ (n : Int) - 1) = false := decide_eq_false (by omega)
          rw [e]; simp
        · have e : decide (k = 0 ∨ cs.getD (k - 1) 0 < cs.getD k 0) = false := decide_eq_false (by omega)
          rw [e]; simp
      have HL1 : Hid (lastC cs k < cs.getD k 0 → compsTo n cs (k + 1) = decide (0 ≤ cs.getD k 0 ∧ cs.getD k 0 ≤ (n : Int) - 1)) := fun h => by
        rw [unhide HS, unhide HOK]
        unfold lastC at h
        split at h
        · rename_i e0
          rw [show decide (k = 0 ∨ cs.getD (k - 1) 0 < cs.getD k 0) = true from decide_eq_true (.inl e0)]; simp
        · rw [show decide (k = 0 ∨ cs.getD (k - 1) 0 < cs.getD k 0) = true from decide_eq_true (.inr h)]; simp
      clear hok HS
      generalize lastC cs k = l0 at *
      generalize hcE : cs.getD k 0 = c at *
      have HCE := hide hcE
      clear hcE
      by_cases hle : c ≤ l0
      · go_wp2
        go_ret
        exact ⟨ret_bool (by rw [unhide STOP (unhide HL0 hle)]), grown_trans (unhide HG0) hgk⟩
      · obtain ⟨t, HT⟩ : ∃ t, Hid (decide (0 ≤ c ∧ c ≤ (n : Int) - 1) = t) := ⟨_, rfl⟩
        have HF := hide ((unhide F) c wr)
        rw [unhide HT] at HF
        have HCT : Hid (compsTo n cs (k + 1) = t) := by unfold Hid; rw [unhide HL1 (by omega), unhide HT]
        clear HL0 HL1 HT
        go_wp2_with (refine wpList_load_row rfl 91 _ rfl w.heap.size rfl X 91 hB _ Tryz.underlying91 rfl (by rw [hs]; kernel_rfl) ?_)
        refine (unhide HF).mono ?_
        rintro e w2 ⟨rfl, g2⟩
        have G2 := grown_trans hgk g2
        clear HF
        cases t
        · go_wp2
          go_ret
          exact ⟨ret_bool (by rw [unhide STOP (unhide HCT)]), grown_trans (unhide HG0) G2⟩
        · go_wp2
          go_roundw
          case rel => exact ⟨k + 1, by omega, by go_num, by rw [lastC_succ, unhide HCE], unhide HCT, G2⟩
          case measure => simp [intOf]; omega
    · have hkn : k = m := by omega
      subst hkn
      have HE : Hid (okComps n cs = decide (0 < k)) := by
        unfold Hid okComps
        rw [hml, hok, Bool.true_and]
      clear hok
      go_wp2
      go_ret
      exact ⟨ret_bool (by rw [unhide HE]), grown_trans (unhide HG0) hgk⟩

end Go.Proofs.YtnbpfkeppogacaaGreat
