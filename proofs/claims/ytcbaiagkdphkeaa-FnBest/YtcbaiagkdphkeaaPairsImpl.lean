/-
  Pairs of things, in the program.
-/
import Derived.Test.YtcbaiagkdphkeaaHeapTake
import Derived.Test.YtcbaiagkdphkeaaConcatImpl
namespace Go.Proofs.Ytcbaiagkdphkeaa
open Go.RowKit

/-- What a thing tells: its weight and its symbols. -/
def cont (h : Hp) : Int × List Int := (h.w, h.ss)
def pairsP : List (Int × List Int) → List (Int × List Int)
  | a :: b :: r => (a.1 + b.1, a.2 ++ b.2) :: pairsP r
  | _ => []
theorem pairsP_len : ∀ l : List (Int × List Int), (pairsP l).length = l.length / 2
  | a :: b :: r => by
    have := pairsP_len r
    simp only [pairsP, List.length_cons, this]
    omega
  | [a] => by simp [pairsP]
  | [] => by simp [pairsP]
theorem pairsP_step {A : List Hp} {p : Nat} (h : 2 * p + 1 < A.length) : pairsP ((A.map cont).drop (2 * p)) = ((at_ A (2 * p)).w + (at_ A (2 * p + 1)).w, (at_ A (2 * p)).ss ++ (at_ A (2 * p + 1)).ss) :: pairsP ((A.map cont).drop (2 * (p + 1))) := by
  have h1 : 2 * p < (A.map cont).length := by rw [List.length_map]; omega
  have h2 : 2 * p + 1 < (A.map cont).length := by rw [List.length_map]; omega
  rw [List.drop_eq_getElem_cons h1, List.drop_eq_getElem_cons h2]
  have e : 2 * (p + 1) = 2 * p + 1 + 1 := by omega
  have e1 : at_ A (2 * p) = A[2 * p]'(by omega) := by simp [at_, show 2 * p < A.length by omega]
  have e2 : at_ A (2 * p + 1) = A[2 * p + 1]'h := by simp [at_, h]
  rw [e, e1, e2]
  simp [pairsP, cont]
theorem pairsP_end {A : List Hp} {p : Nat} (h : A.length ≤ 2 * p + 1) : pairsP ((A.map cont).drop (2 * p)) = [] := by
  have hl : ((A.map cont).drop (2 * p)).length ≤ 1 := by rw [List.length_drop, List.length_map]; omega
  match (A.map cont).drop (2 * p), hl with
  | [], _ => rfl
  | [a], _ => simp [pairsP]

/-- A list of things of one's own. -/
structure OwnQ (B : World) (w : World) (v : Value) (P : List Hp) : Prop where
  own : w.ownsRow B.heap.size 54 3 v P.length (hpCells P)
  rd : ∀ h ∈ P, Rd .i64 w h.co h.ss.length h.ss
  away : ∀ h ∈ P, ∀ b off, h.co = some ⟨b, off, none⟩ → v.ownBlock ≠ some b ∧ B.heap.size ≤ b
  pos : ∀ h ∈ P, 0 < h.ss.length
  grown : B.grownBy w none
theorem OwnQ.more {B w w' : World} {v : Value} {P : List Hp} (h : OwnQ B w v P) (g : w.grownBy w' none) : OwnQ B w' v P :=
  ⟨own_grown h.own g, fun x hx => (h.rd x hx).grown g, h.away, h.pos, grown_trans h.grown g⟩
theorem OwnQ.app {B w w' : World} {v : Value} {P : List Hp} {x : Hp} {g cap n1 : Nat} (h : OwnQ B w v P) (hr : Rd .i64 w x.co x.ss.length x.ss) (hpos : 0 < x.ss.length) (haw : ∀ b off, x.co = some ⟨b, off, none⟩ → v.ownBlock ≠ some b ∧ B.heap.size ≤ b)
    (hn1 : n1 = (P ++ [x]).length) (o1 : w'.ownsRow B.heap.size 54 3 (.slice (some ⟨g, 0, none⟩) n1 cap) n1 (hpCells (P ++ [x]))) (g1 : w.grownBy w' v.ownBlock) (hat : v.ownBlock = some g ∨ w.heap.size ≤ g) :
    OwnQ B w' (.slice (some ⟨g, 0, none⟩) n1 cap) (P ++ [x]) := by
  subst hn1
  have hall : ∀ y ∈ P ++ [x], Rd .i64 w y.co y.ss.length y.ss ∧ (∀ b off, y.co = some ⟨b, off, none⟩ → v.ownBlock ≠ some b ∧ B.heap.size ≤ b) ∧ 0 < y.ss.length := by
    intro y hy
    rcases List.mem_append.1 hy with hy | hy
    · exact ⟨h.rd y hy, h.away y hy, h.pos y hy⟩
    · rw [List.mem_singleton] at hy
      subst hy
      exact ⟨hr, haw, hpos⟩
  refine ⟨o1, fun y hy => rd_besideP (hall y hy).1 g1 (fun b off e => ((hall y hy).2.1 b off e).1), fun y hy b off e => ⟨fun e2 => ?_, ((hall y hy).2.1 b off e).2⟩, fun y hy => (hall y hy).2.2, grown_new h.grown g1 (fun k e => (h.own.lt k e).1)⟩
  have e3 : g = b := Option.some.inj e2
  rcases hat with e4 | e4
  · exact ((hall y hy).2.1 b off e).1 (by rw [e4, e3])
  · have := (hall y hy).1.lt (hall y hy).2.2 b off e
    omega

theorem two_boxes (w : World) (X Y : Array Value) (t : TypeId) : (((w.alloc (.cells X t)).alloc (.cells Y t)).drew).heap[w.heap.size]? = some (.cells X t (0, 0)) ∧ (((w.alloc (.cells X t)).alloc (.cells Y t)).drew).heap[w.heap.size + 1]? = some (.cells Y t (0, 0)) ∧ w.grownBy ((w.alloc (.cells X t)).alloc (.cells Y t)).drew none := by
  refine ⟨(Below.heap_alloc _ _ _ (by simp)).trans (heap_alloc_new w _), ?_, grown_drew (grown_alloc (World.grownBy_alloc _ _ _) _)⟩
  have h : w.heap.size + 1 = (w.alloc (.cells X t)).heap.size := by simp
  rw [h]
  exact heap_alloc_new (w.alloc (.cells X t)) _

theorem step_append_hpL {w : World} {ops : Array Oper} {o : Oper} {a : Act} {K : Act → World → Prop} {Q : Exit → Act → World → Prop} {E : Prop} (hgd : o.guard = none) (s x : Operand)
    (ho : o.op = .call { callee := .builtin .append, args := #[s, x], argTypes := #[50, 50] })
    (base : Nat) (v : Value) (L : List Hp) (hs : a.eval s = v) (hown : w.ownsRow base 54 3 v L.length (hpCells L)) (h : Hp) (m : Nat) (hm : h.ss.length = m) (H : Nat) (hx : a.eval x = .slice (some ⟨H, 0, none⟩) 1 1) (hH : w.heap.size = H) (hb : L.length ≤ 1000) (hbase : base ≤ w.heap.size)
    (hK : ∀ g cap w', w'.ownsRow base 54 3 (.slice (some ⟨g, 0, none⟩) (L.length + 1) cap) (L.length + 1) (hpCells (L ++ [h])) → w.grownBy w' v.ownBlock → (v.ownBlock = some g ∨ w.heap.size ≤ g) → K (a.put o.dst (.slice (some ⟨g, 0, none⟩) (L.length + 1) cap)) w') :
    if Region.wanted o (yielded ops a.tmps) = true then Oper.wp Try.prog o a (w.alloc (.cells #[.int .i64 h.w, .slice h.co m h.cap, .int .i64 h.c] 54)) K Q else E := by
  subst hm hH
  obtain ⟨i0, hi, hz0, hz1, hz2⟩ := info_parts info_hp
  refine step_append_lies _ hgd s x 50 ho base 54 i0 _ 3 40 Try.underlying50 hi hz0 hz1 hz2 rfl (by decide) v L.length _ hs (hown.alloc _) ⟨w.heap.size, 0, none⟩ 1 1 [.int .i64 h.w, .slice h.co h.ss.length h.cap, .int .i64 h.c] hx rfl (World.news_of_block (cs := #[.int .i64 h.w, .slice h.co h.ss.length h.cap, .int .i64 h.c]) (t := 54) (fr := (0, 0)) (heap_alloc_new w _)) (by intro u hu; simp at hu; rcases hu with rfl | rfl | rfl <;> rfl) (by omega) (by unfold maxLen; omega) (by omega) (by simp; omega) _ rfl ?_
  intro g cap w' h1 h2 h3 _
  refine hK g cap w' ?_ ?_ ?_
  · rw [hpCells_app]; exact h1
  · exact ⟨h2.os, h2.tape, h2.output, by have h := h2.size; simp at h; omega, fun k hk hr => (h2.block k (by simp; omega) hr).trans (Below.heap_alloc _ _ _ hk)⟩
  · rcases h3 with h3 | h3
    · exact .inl h3
    · exact .inr (by simp at h3; omega)

set_option maxRecDepth 20000 in
set_option maxHeartbeats 6400000 in
theorem implPairs (ao : Option Addr) (n ca : Nat) (A : List Hp) (w : World) (hr : RdP w ao n A) (hrd : ∀ x ∈ A, Rd .i64 w x.co x.ss.length x.ss) (hpos : ∀ x ∈ A, 0 < x.ss.length) (hn : n ≤ 600) (hwb : ∀ x ∈ A, 0 ≤ x.w ∧ x.w ≤ 1000000000000) (hsb : ∀ x ∈ A, x.ss.length ≤ 200000) :
    Calls Try.prog 57 #[.slice ao n ca] w fun e w' => ∃ u P, e = .returned u ∧ OwnQ w w' u P ∧ P.map cont = pairsP (A.map cont) := by
  have hAl := hr.1
  have HR := hide hr
  have HRD := hide hrd
  have HPOS := hide hpos
  have HWB := hide hwb
  have HSB := hide hsb
  have HAL := hide hAl
  obtain ⟨i0, hi, hz0, hz1, hz2⟩ := info_parts info_hp
  obtain ⟨T, HT⟩ : ∃ T, Hid (pairsP (A.map cont) = T) := ⟨_, rfl⟩
  have hTl : T.length ≤ 300 := by rw [← unhide HT, pairsP_len, List.length_map]; omega
  have HTL := hide hTl
  rw [unhide HT]
  have hdiv : ((n : Int)).tdiv 2 = ((n / 2 : Nat) : Int) := by rw [Int.tdiv_eq_ediv_of_nonneg (by omega)]; omega
  obtain ⟨n2, hn2⟩ : ∃ n2, n / 2 = n2 := ⟨_, rfl⟩
  rw [hn2] at hdiv
  clear hr hrd hpos hwb hsb hAl hTl
  go_enter Try.func57, Try.ntmps57
  go_wp2_with (at_make; refine wpList_make_own _ rfl _ _ 50 rfl w.heap.size 54 i0 (.agg #[.int .i64 0, .slice none 0 0, .int .i64 0]) 3 Try.underlying50 hi hz0 hz1 .i64 .i64 _ n2 rfl rfl (by omega) (by rw [hz2]; omega) (by unfold maxLen; omega) (Nat.le_refl _) ?_)
  intro w1 hown hgrow
  have HO1 : Hid (OwnQ w w1 (.slice (some ⟨w.heap.size, 0, none⟩) 0 n2) []) := ⟨hown, fun _ h => by simp at h, fun _ h => by simp at h, fun _ h => by simp at h, hgrow⟩
  clear hown hgrow hi hz0 hz1 hz2
  go_wp2
  go_loopw [3, 4] (fun v iv wr => ∃ (p i : Nat) (P : List Hp), 2 * p + 1 = i ∧ i ≤ n + 2 ∧ iv = .int .i64 i ∧ Hid (OwnQ w wr v P) ∧ Hid (P.map cont ++ pairsP ((A.map cont).drop (2 * p)) = T)) (fun _ iv _ => n + 3 - (intOf iv).toNat)
  case atStart => exact ⟨0, 1, [], rfl, by omega, rfl, HO1, by unfold Hid; simpa using unhide HT⟩
  case round =>
    clear HO1
    obtain ⟨p, i, P, hpi, hi, rfl, ho, hT⟩ := hrel
    have hPl : P.length ≤ 300 := by
      have h2 : (P.map cont ++ pairsP ((A.map cont).drop (2 * p))).length = T.length := by rw [unhide hT]
      rw [List.length_append, List.length_map] at h2
      have := unhide HTL
      omega
    have HPL := hide hPl
    obtain ⟨so, sc, rfl⟩ := own_form (unhide ho).own
    have e0 := i64_in ((i : Int) - 1) (by omega)
    have e00 := i64_in ((i : Int) + 2) (by omega)
    clear hPl
    by_cases hlt : i < n
    · obtain ⟨q, hq⟩ : ∃ q, 2 * p = q := ⟨_, rfl⟩
      have hqi : (i : Int) - 1 = (q : Int) := by omega
      rw [hqi] at e0
      have hr2 := (unhide HR).grown (unhide ho).grown
      obtain ⟨bb, off, hbo, c0, c1, c2⟩ := hr2.2 q (by omega)
      obtain ⟨bb', off', hbo', d0, d1, d2⟩ := hr2.2 i (by omega)
      rw [hbo] at hbo'
      simp only [Option.some.injEq, Addr.mk.injEq, and_true] at hbo'
      obtain ⟨rfl, rfl⟩ := hbo'
      subst hbo
      have hmem : ∀ j, j < n → at_ A j ∈ A := fun j hj => by
        have hj2 : j < A.length := by rw [unhide HAL]; exact hj
        have e : at_ A j = A[j] := by simp [at_, hj2]
        rw [e]; exact List.getElem_mem _
      have ma := hmem q (by omega)
      have mb := hmem i (by omega)
      have hst := pairsP_step (A := A) (p := p) (by rw [unhide HAL]; omega)
      rw [hpi, hq] at hst
      have hT2 := unhide hT
      rw [hq, hst] at hT2
      have wa := unhide HWB _ ma
      have wb := unhide HWB _ mb
      have sa := unhide HSB _ ma
      have sb := unhide HSB _ mb
      have pa := unhide HPOS _ ma
      have pb := unhide HPOS _ mb
      have ra := (unhide HRD _ ma).grown (unhide ho).grown
      have rb := (unhide HRD _ mb).grown (unhide ho).grown
      clear ma mb hmem hst hT hr2
      generalize at_ A q = x at *
      generalize at_ A i = y at *
      obtain ⟨xw, xo, xc, xs, xk⟩ := x
      obtain ⟨yw, yo, yc, ys, yk⟩ := y
      dsimp only at c0 c1 c2 d0 d1 d2 wa wb sa sb pa pb ra rb hT2
      obtain ⟨xn, hxn⟩ : ∃ xn, xs.length = xn := ⟨_, rfl⟩
      obtain ⟨yn, hyn⟩ : ∃ yn, ys.length = yn := ⟨_, rfl⟩
      rw [hxn] at c1 sa pa ra
      rw [hyn] at d1 sb pb rb
      have HXN := hide hxn
      have HYN := hide hyn
      have HRA := hide ra
      have HRB := hide rb
      have HT2 := hide hT2
      have e1 := i64_in (xw + yw) (by omega)
      have hiI : (i : Int) < (n : Int) := by omega
      have hqI : (q : Int) < (n : Int) := by omega
      have hq0 : (0 : Int) ≤ (q : Int) := by omega
      clear ra rb hT2 hxn hyn
      go_wp2
      refine wp_region_noPanic ?_
      refine wp_region_raw (fun w' => (w'.cell? ⟨bb, off + q * 3, none⟩ = some (.int .i64 xw) ∧ w'.cell? ⟨bb, off + q * 3 + 1, none⟩ = some (.slice xo xn xc) ∧ w'.cell? ⟨bb, off + q * 3 + 2, none⟩ = some (.int .i64 xk)) ∧ w'.cell? ⟨bb, off + i * 3, none⟩ = some (.int .i64 yw) ∧ w'.cell? ⟨bb, off + i * 3 + 1, none⟩ = some (.slice yo yn yc) ∧ w'.cell? ⟨bb, off + i * 3 + 2, none⟩ = some (.int .i64 yk)) [true, true, true, true, true, true, true, true, true, false, false, false, false] (by kernel_rfl) (fun _ _ _ _ _ h => h) rfl (by kernel_rfl) ⟨⟨c0, c1, c2⟩, d0, d1, d2⟩ ?_
      iterate 9
        refine heldF_take (v := ?_) (Or.inl ⟨by rfl, ?_⟩) ?_
        rotate_left 1
        · intro w' hSw
          try dsimp only at hSw
          obtain ⟨⟨z0, z1, z2⟩, z3, z4, z5⟩ := hSw
          go_simp
          try with_reducible rfl
        simp only [Act.put, List.setIfInBounds_toArray, List.set_cons_zero, List.set_cons_succ]
      iterate 4 refine heldF_skip ?_
      refine heldF_nil ?_
      have KEEP : Hid (∀ W, wr.grownBy W none → (W.cell? ⟨bb, off + q * 3, none⟩ = some (.int .i64 xw) ∧ W.cell? ⟨bb, off + q * 3 + 1, none⟩ = some (.slice xo xn xc) ∧ W.cell? ⟨bb, off + q * 3 + 2, none⟩ = some (.int .i64 xk)) ∧ W.cell? ⟨bb, off + i * 3, none⟩ = some (.int .i64 yw) ∧ W.cell? ⟨bb, off + i * 3 + 1, none⟩ = some (.slice yo yn yc) ∧ W.cell? ⟨bb, off + i * 3 + 2, none⟩ = some (.int .i64 yk)) := fun W g => ⟨⟨g.cell c0 (by simp), g.cell c1 (by simp), g.cell c2 (by simp)⟩, g.cell d0 (by simp), g.cell d1 (by simp), g.cell d2 (by simp)⟩
      have HG0 : Hid (wr.grownBy wr.drew none) := grown_drew (World.grownBy.refl _ _)
      clear c0 c1 c2 d0 d1 d2
      refine anyH_step2 (i := 9) (j := 10) rfl rfl (by kernel_rfl) (fun K hK => ?_) (fun K hK => ?_)
      · go_simp
        refine hK.out _ _ (unhide KEEP _ (grown_drew (World.grownBy_alloc _ _ _))) ?_
        clear hK K
        try simp only [Act.put, List.setIfInBounds_toArray, List.set_cons_zero, List.set_cons_succ]
        refine anyH_step1 (i := 10) rfl (by kernel_rfl) (fun K hK => ?_)
        go_simp
        refine hK.out _ _ (unhide KEEP _ (grown_drew (grown_alloc (World.grownBy_alloc _ _ _) _))) ?_
        clear hK K
        try simp only [Act.put, List.setIfInBounds_toArray, List.set_cons_zero, List.set_cons_succ]
        refine anyH_step1 (i := 11) rfl (by kernel_rfl) (fun K hK => ?_)
        go_simp
        refine hK.out _ _ (unhide KEEP _ (grown_drew (grown_alloc (World.grownBy_alloc _ _ _) _))) ?_
        clear hK K
        try simp only [Act.put, List.setIfInBounds_toArray, List.set_cons_zero, List.set_cons_succ]
        refine anyH_step1 (i := 12) rfl (by kernel_rfl) (fun K hK => ?_)
        go_simp
        refine hK.out _ _ (unhide KEEP _ (grown_drew (grown_alloc (World.grownBy_alloc _ _ _) _))) ?_
        clear hK K
        try simp only [Act.put, List.setIfInBounds_toArray, List.set_cons_zero, List.set_cons_succ]
        refine wpAnyH_done (by kernel_rfl) (NoPanic.normal ?_) _
        obtain ⟨b5, b6, gW⟩ := two_boxes wr #[.int .i64 xw, .slice xo xn xc, .int .i64 xk] #[.int .i64 yw, .slice yo yn yc, .int .i64 yk] 54
        generalize ((wr.alloc (.cells #[.int .i64 xw, .slice xo xn xc, .int .i64 xk] 54)).alloc (.cells #[.int .i64 yw, .slice yo yn yc, .int .i64 yk] 54)).drew = W at *
        have hv5 : (Value.slice so P.length sc).ownBlock ≠ some (wr.heap.size) := fun e => by have := ((unhide ho).own.lt _ e).2; omega
        have hv6 : (Value.slice so P.length sc).ownBlock ≠ some (wr.heap.size + 1) := fun e => by have := ((unhide ho).own.lt _ e).2; omega
        generalize wr.heap.size + 1 = g6 at *
        generalize wr.heap.size = g5 at *
        have HO2 := hide ((unhide ho).more gW)
        have HRA2 := hide ((unhide HRA).grown gW)
        have HRB2 := hide ((unhide HRB).grown gW)
        have a0 : W.cell? ⟨g5, 0, none⟩ = some (.int .i64 xw) := by rw [cell_of_row W _ 0 _ _ (0, 0) b5]; rfl
        have a1 : W.cell? ⟨g5, 1, none⟩ = some (.slice xo xn xc) := by rw [cell_of_row W _ 1 _ _ (0, 0) b5]; rfl
        have a2 : W.cell? ⟨g6, 0, none⟩ = some (.int .i64 yw) := by rw [cell_of_row W _ 0 _ _ (0, 0) b6]; rfl
        have a3 : W.cell? ⟨g6, 1, none⟩ = some (.slice yo yn yc) := by rw [cell_of_row W _ 1 _ _ (0, 0) b6]; rfl
        have KEEP2 : Hid (∀ W' row, W.grownBy W' row → row ≠ some g5 → row ≠ some g6 → W'.cell? ⟨g5, 0, none⟩ = some (.int .i64 xw) ∧ W'.cell? ⟨g5, 1, none⟩ = some (.slice xo xn xc) ∧ W'.cell? ⟨g6, 0, none⟩ = some (.int .i64 yw) ∧ W'.cell? ⟨g6, 1, none⟩ = some (.slice yo yn yc)) := fun W' row g r5 r6 => ⟨g.cell a0 (fun e => r5 e.symm), g.cell a1 (fun e => r5 e.symm), g.cell a2 (fun e => r6 e.symm), g.cell a3 (fun e => r6 e.symm)⟩
        obtain ⟨R, HRR⟩ : ∃ R, Hid (xs ++ ys = R) := ⟨_, rfl⟩
        have HRL : Hid (R.length = xn + yn) := by unfold Hid; rw [← unhide HRR, List.length_append, unhide HXN, unhide HYN]
        have HV5 := hide hv5
        have HV6 := hide hv6
        clear KEEP HG0 b5 b6 gW hv5 hv6 ho HRA HRB
        go_wp2
        refine wp_region_noPanic ?_
        refine wp_region_tail (fun w' => w'.cell? ⟨g5, 0, none⟩ = some (.int .i64 xw) ∧ w'.cell? ⟨g5, 1, none⟩ = some (.slice xo xn xc) ∧ w'.cell? ⟨g6, 0, none⟩ = some (.int .i64 yw) ∧ w'.cell? ⟨g6, 1, none⟩ = some (.slice yo yn yc)) [true, true, true, true, true, true, true, true, true, true, false, false, false, false, false, false] (by kernel_rfl) (fun _ _ _ _ _ h => h) rfl (by kernel_rfl) ⟨a0, a1, a2, a3⟩ ?_
        iterate 10
          refine heldF_take (v := ?_) (Or.inl ⟨by rfl, ?_⟩) ?_
          rotate_left 1
          · intro w' hSw
            try dsimp only at hSw
            obtain ⟨z0, z1, z2, z3⟩ := hSw
            go_simp
            try with_reducible rfl
          simp only [Act.put, List.setIfInBounds_toArray, List.set_cons_zero, List.set_cons_succ]
        iterate 6 refine heldF_skip ?_
        refine heldF_nil ?_
        iterate 10 refine tailF_skip ?_
        clear a0 a1 a2 a3
        refine tailF_step (fun K hK => ?_)
        go_simp
        refine hK.out _ _ (unhide KEEP2 _ none (grown_drew (World.grownBy_alloc _ _ _)) (by simp) (by simp)) ?_
        clear hK K
        try simp only [Act.put, List.setIfInBounds_toArray, List.set_cons_zero, List.set_cons_succ]
        refine tailF_step (fun K hK => ?_)
        go_simp
        obtain ⟨W2, hW2⟩ : ∃ W2, (W.alloc (.cells #[.slice xo xn xc, .slice yo yn yc] 24)).drew = W2 := ⟨_, rfl⟩
        have gW2 : W.grownBy W2 none := by rw [← hW2]; exact grown_drew (World.grownBy_alloc _ _ _)
        have bW2 : W2.heap[W.heap.size]? = some (.cells #[.slice xo xn xc, .slice yo yn yc] 24 (0, 0)) := by rw [← hW2]; exact heap_alloc_new W _
        rw [hW2]
        refine (implConcat W.heap.size xn xc yn yc xo yo xs ys W2 (by rw [cell_of_row W2 _ 0 _ _ (0, 0) bW2]; rfl) (by rw [cell_of_row W2 _ 1 _ _ (0, 0) bW2]; rfl) ((unhide HRA2).grown gW2) ((unhide HRB2).grown gW2) ⟨by omega, by omega⟩ ⟨by omega, by omega⟩ R HRR).mono ?_
        rintro e w3 ⟨ro, rc, rfl, o3, g3⟩
        have HO3 := hide ((unhide HO2).more (grown_trans gW2 g3))
        have HG3 := hide (grown_trans gW2 g3)
        have hRp : 0 < R.length := by have := unhide HRL; omega
        have HRP := hide hRp
        have HXR : Hid (Rd .i64 w3 ro R.length R) := own_rd o3
        have HXA : Hid (∀ b off, ro = some ⟨b, off, none⟩ → (Value.slice so P.length sc).ownBlock ≠ some b ∧ w.heap.size ≤ b) := fun b off e => by
          obtain ⟨gg, e2, e3, _⟩ := own_at o3 hRp
          rw [e] at e2
          simp only [Option.some.injEq, Addr.mk.injEq, and_true] at e2
          have hs1 := (unhide HO2).grown.size
          have hs2 := gW2.size
          refine ⟨fun e4 => ?_, by omega⟩
          have := ((unhide HO2).own.lt b e4).2
          omega
        clear o3 g3 hW2 gW2 bW2 hRp HRA2 HRB2
        go_simp
        refine hK.out _ _ (unhide KEEP2 _ none (unhide HG3) (by simp) (by simp)) ?_
        clear hK K
        try simp only [Act.put, List.setIfInBounds_toArray, List.set_cons_zero, List.set_cons_succ]
        refine tailF_step (fun K hK => ?_)
        go_simp
        refine hK.out _ _ (unhide KEEP2 _ none (unhide HG3) (by simp) (by simp)) ?_
        clear hK K
        try simp only [Act.put, List.setIfInBounds_toArray, List.set_cons_zero, List.set_cons_succ]
        refine tailF_step (fun K hK => ?_)
        go_simp
        refine hK.out _ _ (unhide KEEP2 _ none (grown_alloc (unhide HG3) _) (by simp) (by simp)) ?_
        clear hK K
        try simp only [Act.put, List.setIfInBounds_toArray, List.set_cons_zero, List.set_cons_succ]
        refine tailF_step (fun K hK => ?_)
        refine step_append_hpL (by rfl) _ _ (by rfl) w.heap.size (.slice so P.length sc) P (by rfl) (unhide HO3).own ⟨xw + yw, ro, rc, R, 0⟩ R.length rfl _ (by rfl) (by rfl) (by have := unhide HPL; omega) (unhide HO3).grown.size ?_
        intro g7 c7 w7 o7 g7w hat7
        have HO7 := hide ((unhide HO3).app (x := ⟨xw + yw, ro, rc, R, 0⟩) (unhide HXR) (unhide HRP) (unhide HXA) (by simp) o7 g7w hat7)
        have hg7 : W.grownBy w7 (Value.slice so P.length sc).ownBlock := grown_trans (grown_any (unhide HG3)) g7w
        refine hK.out _ _ (unhide KEEP2 _ _ hg7 (unhide HV5) (unhide HV6)) ?_
        clear hK K
        have HG7 := hide hg7
        clear o7 g7w hat7 hg7
        try simp only [Act.put, List.setIfInBounds_toArray, List.set_cons_zero, List.set_cons_succ]
        refine tailF_step (fun K hK => ?_)
        go_simp
        refine hK.out _ _ (unhide KEEP2 _ _ (unhide HG7) (unhide HV5) (unhide HV6)) ?_
        clear hK K
        refine tailF_nil (NoPanic.normal ?_)
        have HT7 : Hid ((P ++ [(⟨xw + yw, ro, rc, R, 0⟩ : Hp)]).map cont ++ pairsP ((A.map cont).drop (2 * (p + 1))) = T) := by
          have h := unhide HT2
          unfold Hid
          rw [List.map_append, List.append_assoc, ← h, ← unhide HRR]
          rfl
        clear HT2 KEEP2 HO2 HO3 HXR HXA HG7 HG3 HV5 HV6
        go_wp2
        go_roundw
        case rel => exact ⟨p + 1, i + 2, P ++ [⟨xw + yw, ro, rc, R, 0⟩], by omega, by omega, by go_num, HO7, HT7⟩
        case measure => simp [intOf]; omega
      · go_simp
        refine hK.out _ _ (unhide KEEP _ (grown_drew (World.grownBy_alloc _ _ _))) ?_
        clear hK K
        try simp only [Act.put, List.setIfInBounds_toArray, List.set_cons_zero, List.set_cons_succ]
        refine anyH_step1 (i := 9) rfl (by kernel_rfl) (fun K hK => ?_)
        go_simp
        refine hK.out _ _ (unhide KEEP _ (grown_drew (grown_alloc (World.grownBy_alloc _ _ _) _))) ?_
        clear hK K
        try simp only [Act.put, List.setIfInBounds_toArray, List.set_cons_zero, List.set_cons_succ]
        refine anyH_step1 (i := 11) rfl (by kernel_rfl) (fun K hK => ?_)
        go_simp
        refine hK.out _ _ (unhide KEEP _ (grown_drew (grown_alloc (World.grownBy_alloc _ _ _) _))) ?_
        clear hK K
        try simp only [Act.put, List.setIfInBounds_toArray, List.set_cons_zero, List.set_cons_succ]
        refine anyH_step1 (i := 12) rfl (by kernel_rfl) (fun K hK => ?_)
        go_simp
        refine hK.out _ _ (unhide KEEP _ (grown_drew (grown_alloc (World.grownBy_alloc _ _ _) _))) ?_
        clear hK K
        try simp only [Act.put, List.setIfInBounds_toArray, List.set_cons_zero, List.set_cons_succ]
        refine wpAnyH_done (by kernel_rfl) (NoPanic.normal ?_) _
        obtain ⟨b6, b5, gW⟩ := two_boxes wr #[.int .i64 yw, .slice yo yn yc, .int .i64 yk] #[.int .i64 xw, .slice xo xn xc, .int .i64 xk] 54
        generalize ((wr.alloc (.cells #[.int .i64 yw, .slice yo yn yc, .int .i64 yk] 54)).alloc (.cells #[.int .i64 xw, .slice xo xn xc, .int .i64 xk] 54)).drew = W at *
        have hv5 : (Value.slice so P.length sc).ownBlock ≠ some (wr.heap.size + 1) := fun e => by have := ((unhide ho).own.lt _ e).2; omega
        have hv6 : (Value.slice so P.length sc).ownBlock ≠ some (wr.heap.size) := fun e => by have := ((unhide ho).own.lt _ e).2; omega
        generalize wr.heap.size + 1 = g5 at *
        generalize wr.heap.size = g6 at *
        have HO2 := hide ((unhide ho).more gW)
        have HRA2 := hide ((unhide HRA).grown gW)
        have HRB2 := hide ((unhide HRB).grown gW)
        have a0 : W.cell? ⟨g5, 0, none⟩ = some (.int .i64 xw) := by rw [cell_of_row W _ 0 _ _ (0, 0) b5]; rfl
        have a1 : W.cell? ⟨g5, 1, none⟩ = some (.slice xo xn xc) := by rw [cell_of_row W _ 1 _ _ (0, 0) b5]; rfl
        have a2 : W.cell? ⟨g6, 0, none⟩ = some (.int .i64 yw) := by rw [cell_of_row W _ 0 _ _ (0, 0) b6]; rfl
        have a3 : W.cell? ⟨g6, 1, none⟩ = some (.slice yo yn yc) := by rw [cell_of_row W _ 1 _ _ (0, 0) b6]; rfl
        have KEEP2 : Hid (∀ W' row, W.grownBy W' row → row ≠ some g5 → row ≠ some g6 → W'.cell? ⟨g5, 0, none⟩ = some (.int .i64 xw) ∧ W'.cell? ⟨g5, 1, none⟩ = some (.slice xo xn xc) ∧ W'.cell? ⟨g6, 0, none⟩ = some (.int .i64 yw) ∧ W'.cell? ⟨g6, 1, none⟩ = some (.slice yo yn yc)) := fun W' row g r5 r6 => ⟨g.cell a0 (fun e => r5 e.symm), g.cell a1 (fun e => r5 e.symm), g.cell a2 (fun e => r6 e.symm), g.cell a3 (fun e => r6 e.symm)⟩
        obtain ⟨R, HRR⟩ : ∃ R, Hid (xs ++ ys = R) := ⟨_, rfl⟩
        have HRL : Hid (R.length = xn + yn) := by unfold Hid; rw [← unhide HRR, List.length_append, unhide HXN, unhide HYN]
        have HV5 := hide hv5
        have HV6 := hide hv6
        clear KEEP HG0 b5 b6 gW hv5 hv6 ho HRA HRB
        go_wp2
        refine wp_region_noPanic ?_
        refine wp_region_tail (fun w' => w'.cell? ⟨g5, 0, none⟩ = some (.int .i64 xw) ∧ w'.cell? ⟨g5, 1, none⟩ = some (.slice xo xn xc) ∧ w'.cell? ⟨g6, 0, none⟩ = some (.int .i64 yw) ∧ w'.cell? ⟨g6, 1, none⟩ = some (.slice yo yn yc)) [true, true, true, true, true, true, true, true, true, true, false, false, false, false, false, false] (by kernel_rfl) (fun _ _ _ _ _ h => h) rfl (by kernel_rfl) ⟨a0, a1, a2, a3⟩ ?_
        iterate 10
          refine heldF_take (v := ?_) (Or.inl ⟨by rfl, ?_⟩) ?_
          rotate_left 1
          · intro w' hSw
            try dsimp only at hSw
            obtain ⟨z0, z1, z2, z3⟩ := hSw
            go_simp
            try with_reducible rfl
          simp only [Act.put, List.setIfInBounds_toArray, List.set_cons_zero, List.set_cons_succ]
        iterate 6 refine heldF_skip ?_
        refine heldF_nil ?_
        iterate 10 refine tailF_skip ?_
        clear a0 a1 a2 a3
        refine tailF_step (fun K hK => ?_)
        go_simp
        refine hK.out _ _ (unhide KEEP2 _ none (grown_drew (World.grownBy_alloc _ _ _)) (by simp) (by simp)) ?_
        clear hK K
        try simp only [Act.put, List.setIfInBounds_toArray, List.set_cons_zero, List.set_cons_succ]
        refine tailF_step (fun K hK => ?_)
        go_simp
        obtain ⟨W2, hW2⟩ : ∃ W2, (W.alloc (.cells #[.slice xo xn xc, .slice yo yn yc] 24)).drew = W2 := ⟨_, rfl⟩
        have gW2 : W.grownBy W2 none := by rw [← hW2]; exact grown_drew (World.grownBy_alloc _ _ _)
        have bW2 : W2.heap[W.heap.size]? = some (.cells #[.slice xo xn xc, .slice yo yn yc] 24 (0, 0)) := by rw [← hW2]; exact heap_alloc_new W _
        rw [hW2]
        refine (implConcat W.heap.size xn xc yn yc xo yo xs ys W2 (by rw [cell_of_row W2 _ 0 _ _ (0, 0) bW2]; rfl) (by rw [cell_of_row W2 _ 1 _ _ (0, 0) bW2]; rfl) ((unhide HRA2).grown gW2) ((unhide HRB2).grown gW2) ⟨by omega, by omega⟩ ⟨by omega, by omega⟩ R HRR).mono ?_
        rintro e w3 ⟨ro, rc, rfl, o3, g3⟩
        have HO3 := hide ((unhide HO2).more (grown_trans gW2 g3))
        have HG3 := hide (grown_trans gW2 g3)
        have hRp : 0 < R.length := by have := unhide HRL; omega
        have HRP := hide hRp
        have HXR : Hid (Rd .i64 w3 ro R.length R) := own_rd o3
        have HXA : Hid (∀ b off, ro = some ⟨b, off, none⟩ → (Value.slice so P.length sc).ownBlock ≠ some b ∧ w.heap.size ≤ b) := fun b off e => by
          obtain ⟨gg, e2, e3, _⟩ := own_at o3 hRp
          rw [e] at e2
          simp only [Option.some.injEq, Addr.mk.injEq, and_true] at e2
          have hs1 := (unhide HO2).grown.size
          have hs2 := gW2.size
          refine ⟨fun e4 => ?_, by omega⟩
          have := ((unhide HO2).own.lt b e4).2
          omega
        clear o3 g3 hW2 gW2 bW2 hRp HRA2 HRB2
        go_simp
        refine hK.out _ _ (unhide KEEP2 _ none (unhide HG3) (by simp) (by simp)) ?_
        clear hK K
        try simp only [Act.put, List.setIfInBounds_toArray, List.set_cons_zero, List.set_cons_succ]
        refine tailF_step (fun K hK => ?_)
        go_simp
        refine hK.out _ _ (unhide KEEP2 _ none (unhide HG3) (by simp) (by simp)) ?_
        clear hK K
        try simp only [Act.put, List.setIfInBounds_toArray, List.set_cons_zero, List.set_cons_succ]
        refine tailF_step (fun K hK => ?_)
        go_simp
        refine hK.out _ _ (unhide KEEP2 _ none (grown_alloc (unhide HG3) _) (by simp) (by simp)) ?_
        clear hK K
        try simp only [Act.put, List.setIfInBounds_toArray, List.set_cons_zero, List.set_cons_succ]
        refine tailF_step (fun K hK => ?_)
        refine step_append_hpL (by rfl) _ _ (by rfl) w.heap.size (.slice so P.length sc) P (by rfl) (unhide HO3).own ⟨xw + yw, ro, rc, R, 0⟩ R.length rfl _ (by rfl) (by rfl) (by have := unhide HPL; omega) (unhide HO3).grown.size ?_
        intro g7 c7 w7 o7 g7w hat7
        have HO7 := hide ((unhide HO3).app (x := ⟨xw + yw, ro, rc, R, 0⟩) (unhide HXR) (unhide HRP) (unhide HXA) (by simp) o7 g7w hat7)
        have hg7 : W.grownBy w7 (Value.slice so P.length sc).ownBlock := grown_trans (grown_any (unhide HG3)) g7w
        refine hK.out _ _ (unhide KEEP2 _ _ hg7 (unhide HV5) (unhide HV6)) ?_
        clear hK K
        have HG7 := hide hg7
        clear o7 g7w hat7 hg7
        try simp only [Act.put, List.setIfInBounds_toArray, List.set_cons_zero, List.set_cons_succ]
        refine tailF_step (fun K hK => ?_)
        go_simp
        refine hK.out _ _ (unhide KEEP2 _ _ (unhide HG7) (unhide HV5) (unhide HV6)) ?_
        clear hK K
        refine tailF_nil (NoPanic.normal ?_)
        have HT7 : Hid ((P ++ [(⟨xw + yw, ro, rc, R, 0⟩ : Hp)]).map cont ++ pairsP ((A.map cont).drop (2 * (p + 1))) = T) := by
          have h := unhide HT2
          unfold Hid
          rw [List.map_append, List.append_assoc, ← h, ← unhide HRR]
          rfl
        clear HT2 KEEP2 HO2 HO3 HXR HXA HG7 HG3 HV5 HV6
        go_wp2
        go_roundw
        case rel => exact ⟨p + 1, i + 2, P ++ [⟨xw + yw, ro, rc, R, 0⟩], by omega, by omega, by go_num, HO7, HT7⟩
        case measure => simp [intOf]; omega
    · have HF : Hid (P.map cont = T) := by
        have h := unhide hT
        rw [pairsP_end (by rw [unhide HAL]; omega), List.append_nil] at h
        exact h
      clear hT HPL
      generalize P.length = pl at *
      go_wp2
      go_ret
      exact ⟨_, P, rfl, unhide ho, unhide HF⟩

end Go.Proofs.Ytcbaiagkdphkeaa
