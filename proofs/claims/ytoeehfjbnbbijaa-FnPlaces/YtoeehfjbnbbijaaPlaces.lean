/-
  Places of an area, one by one, made of its spots.
-/
import Derived.Test.YtoeehfjbnbbijaaSpots
import Derived.Test.YtoeehfjbnbbijaaGeoOrd
namespace Go.Proofs.Ytoeehfjbnbbijaa
open Go.RowKit Go.Shelf

attribute [local go_sem] Oper.semAt_some

set_option maxHeartbeats 1600000 in
theorem places_in (F : Fence) (n : Nat) (hf : F.fn 77) (hro : F.round = none) (a b c r k : Int) (w : World) :
    CallsIn F n Try.prog 77 #[.agg #[.int .i64 a, .int .i64 b], .int .i64 c, .int .i64 r, .int .i64 k] w fun e w' => e = .returned (.func (.func 87) #[] #[.pointer (some ⟨w.heap.size, 0, none⟩), .pointer (some ⟨w.heap.size + 1, 0, none⟩), .pointer (some ⟨w.heap.size + 2, 0, none⟩), .pointer (some ⟨w.heap.size + 3, 0, none⟩)]) ∧
      w' = (((w.alloc (.cells #[.int .i64 a, .int .i64 b] 98)).alloc (.cells #[.int .i64 c] 3)).alloc (.cells #[.int .i64 r] 3)).alloc (.cells #[.int .i64 k] 3) := by
  refine callsIn_of_wp Try.func77 rfl hf ?_ hro
  simp only [Try.ntmps77, List.size_toArray, List.length_cons, List.length_nil, Nat.reduceAdd, Nat.reduceSub, Array.replicate_succ, Array.replicate_zero, List.push_toArray, List.append_toArray, List.nil_append, List.cons_append]
  gi_wp2
  go_ret
  exact ⟨rfl, rfl⟩

/-- The place of a spot, as the program reckons it. -/
def plAt (c r k : Int) (x : Nat × Nat) : Pl := (c, wrap64 (r + (x.1 : Int)), wrap64 (k + (x.2 : Int)))
theorem sCol_map (c r k : Int) (hr0 : 0 ≤ r ∧ r ≤ 1000000) (hk0 : 0 ≤ k ∧ k ≤ 1000000) (a : Nat) (ha : a ≤ 4096) : ∀ m, m ≤ 4096 → (sCol a m).map (plAt c r k) = zTo c (r + a) k m
  | 0, _ => rfl
  | m + 1, h => by simp [sCol, zTo, sCol_map c r k hr0 hk0 a ha m (by omega), plAt, IntWalk.wrap64_in (r + (a : Int)) (by omega), IntWalk.wrap64_in (k + (m : Int)) (by omega)]
theorem sTo_map (c r k : Int) (hr0 : 0 ≤ r ∧ r ≤ 1000000) (hk0 : 0 ≤ k ∧ k ≤ 1000000) (W : Nat) (hW : W ≤ 4096) : ∀ m, m ≤ 4096 → (sTo W m).map (plAt c r k) = yTo c r k W m
  | 0, _ => rfl
  | m + 1, h => by simp [sTo, yTo, sTo_map c r k hr0 hk0 W hW m (by omega), sCol_map c r k hr0 hk0 m (by omega) W hW]

set_option maxRecDepth 100000 in
set_option maxHeartbeats 3200000 in
theorem places_gives (Ba Bc Br Bk wd ht : Nat) (hwd : wd ≤ 4096) (hht : ht ≤ 4096) (c r k : Int) (hr0 : 0 ≤ r ∧ r ≤ 1000000) (hk0 : 0 ≤ k ∧ k ≤ 1000000) (O : Nat → Prop) (w : World)
    (ba : w.heap[Ba]? = some (.cells #[.int .i64 (wd : Int), .int .i64 (ht : Int)] 98 (0, 0))) (bc : w.heap[Bc]? = some (.cells #[.int .i64 c] 3 (0, 0))) (br : w.heap[Br]? = some (.cells #[.int .i64 r] 3 (0, 0))) (bk : w.heap[Bk]? = some (.cells #[.int .i64 k] 3 (0, 0)))
    (hOa : ¬ O Ba) (hOc : ¬ O Bc) (hOr : ¬ O Br) (hOk : ¬ O Bk) :
    Gives Try.prog 87 #[.pointer (some ⟨Ba, 0, none⟩), .pointer (some ⟨Bc, 0, none⟩), .pointer (some ⟨Br, 0, none⟩), .pointer (some ⟨Bk, 0, none⟩)] (fun x : Pl => #[.agg #[.int .i64 x.1, .int .i64 x.2.1, .int .i64 x.2.2]]) (yTo c r k wd ht) O w := by
  intro n l J W hW hOb hl hOl hwl hJ hY h0
  have la : Ba < w.heap.size := (Array.getElem?_eq_some_iff.1 ba).1
  have lc : Bc < w.heap.size := (Array.getElem?_eq_some_iff.1 bc).1
  have lr : Br < w.heap.size := (Array.getElem?_eq_some_iff.1 br).1
  have lk : Bk < w.heap.size := (Array.getElem?_eq_some_iff.1 bk).1
  have hsW := hW.size
  have baW := (hW.block Ba la hOa).trans ba
  have bcW := (hW.block Bc lc hOc).trans bc
  have brW := (hW.block Br lr hOr).trans br
  have bkW := (hW.block Bk lk hOk).trans bk
  obtain ⟨W1, hW1⟩ : ∃ W1, W.alloc (.cells #[.func (.yield l) #[] #[]] 116) = W1 := ⟨_, rfl⟩
  have g1 : W.grownBy W1 none := by rw [← hW1]; exact World.grownBy_alloc _ _ _
  have s1 : W1.heap.size = W.heap.size + 1 := by rw [← hW1]; simp
  have by1 : W1.heap[W.heap.size]? = some (.cells #[.func (.yield l) #[] #[]] 116 (0, 0)) := by rw [← hW1]; exact heap_alloc_new _ _
  obtain ⟨W2, hW2⟩ : ∃ W2, W1.alloc (.cells #[.int .i64 (wd : Int), .int .i64 (ht : Int)] 98) = W2 := ⟨_, rfl⟩
  have g2 : W1.grownBy W2 none := by rw [← hW2]; exact World.grownBy_alloc _ _ _
  have s2 : W2.heap.size = W1.heap.size + 1 := by rw [← hW2]; simp
  have ba2 : W2.heap[W1.heap.size]? = some (.cells #[.int .i64 (wd : Int), .int .i64 (ht : Int)] 98 (0, 0)) := by rw [← hW2]; exact heap_alloc_new _ _
  have g12 := grown_trans g1 g2
  have ca := areaCells ((g1.block Ba (by omega) (by simp)).trans baW)
  have B2 : ∀ O', But O' W W2 := fun O' => But.of_grown g12 (fun g e => by cases e)
  have loc : LocalJ (fun k => O k ∨ k = l) (fun (pre : List (Nat × Nat)) W' => J (pre.map (plAt c r k)) W') := fun pre A B h hk => hJ _ A B h hk
  have hOin : ∀ q, (O q ∨ q = l) → q < W2.heap.size := fun q e => by
    rcases e with e | e
    · have := hOb q e; omega
    · omega
  refine callsIn_of_wp_marks Try.func87 rfl trivial ?_ rfl
  simp only [Try.ntmps87, List.size_toArray, List.length_cons, List.length_nil, Nat.reduceAdd, Nat.reduceSub, Array.replicate_succ, Array.replicate_zero, List.push_toArray, List.append_toArray, List.nil_append, List.cons_append]
  gi_wp2_with fail
  refine ⟨trivial, (fun h => by simp [Fence.wide] at h), ?_⟩
  refine (spots_in Fence.wide _ trivial rfl _ _ _).mono ?_
  rintro e w' ⟨rfl, rfl⟩
  gi_wp2
  refine rangeFunc_gives (gf := 93) (lb := #[.pointer (some ⟨W.heap.size + 1, 0, none⟩)]) rfl (enters_of Try.func93 (by kernel_rfl) rfl) hOin
    (spots_gives (W.heap.size + 1) wd ht hwd hht _ W2 (by rw [← s1]; exact ba2) (fun e => by rcases e with e | e; (have := hOb _ e; omega); omega)) (fun _ => rfl) _ loc (hJ _ _ _ h0 (fun q hq => (B2 (fun _ => False)).block q (by rcases hq with e | e; exact hOb q e; omega) (fun e => e)))
    (fun x => { tmps := #[.func (.yield l) #[] #[], .pointer (some ⟨Ba, 0, none⟩), .pointer (some ⟨Bc, 0, none⟩), .pointer (some ⟨Br, 0, none⟩), .pointer (some ⟨Bk, 0, none⟩), .pointer (some ⟨W.heap.size, 0, none⟩), .int .i64 (x.1 : Int), .int .i64 (x.2 : Int), .agg #[.int .i64 (wd : Int), .int .i64 (ht : Int)], .func (.func 93) #[] #[.pointer (some ⟨W.heap.size + 1, 0, none⟩)], .int .i64 (x.1 : Int), .int .i64 (x.2 : Int), undef, undef, undef, undef, undef, undef, undef, undef, undef, undef, undef], defers := [] }) ?assign ?body ?done
  case assign =>
    intro l' m x Wa K hK
    gi_wp2
    exact hK
  case body =>
    intro l' m pre x Wa hi hb hlen
    have s1' := hb.size
    have hbW : But (fun k => O k ∨ k = l) W Wa := (B2 _).trans hb
    have kc : Wa.cell? ⟨Bc, 0, none⟩ = some (.int .i64 c) := by rw [cell_of_row Wa _ 0 _ _ (0, 0) ((hbW.block Bc (by omega) (fun e => by rcases e with e | e; exact hOc e; omega)).trans bcW)]; rfl
    have kr : Wa.cell? ⟨Br, 0, none⟩ = some (.int .i64 r) := by rw [cell_of_row Wa _ 0 _ _ (0, 0) ((hbW.block Br (by omega) (fun e => by rcases e with e | e; exact hOr e; omega)).trans brW)]; rfl
    have kk : Wa.cell? ⟨Bk, 0, none⟩ = some (.int .i64 k) := by rw [cell_of_row Wa _ 0 _ _ (0, 0) ((hbW.block Bk (by omega) (fun e => by rcases e with e | e; exact hOk e; omega)).trans bkW)]; rfl
    have ky : Wa.cell? ⟨W.heap.size, 0, none⟩ = some (.func (.yield l) #[] #[]) := by
      rw [cell_of_row Wa _ 0 _ _ (0, 0) ((hb.block W.heap.size (by omega) (fun e => by rcases e with e | e; (have := hOb _ e; omega); omega)).trans ((g2.block W.heap.size (by omega) (by simp)).trans by1))]; rfl
    obtain ⟨fn, tmps, assign, body, hy, hR⟩ := hY _ (plAt c r k x) Wa (m - 1) hi hbW (by rw [← sTo_map c r k hr0 hk0 wd hwd ht hht]; have h := hlen.map (plAt c r k); rw [List.map_append] at h; exact h)
    have HM : Hid (∀ W', J (pre.map (plAt c r k) ++ [plAt c r k x]) W' → J ((pre ++ [x]).map (plAt c r k)) W') := fun W' h => by rw [List.map_append]; exact h
    unfold plAt at hy
    dsimp only at hy
    gi_wp2
    refine ⟨fun h => by simp [Fence.wide] at h, ?_⟩
    refine RoundIn.mono (F := Fence.wide.inRound l') hR ?_
    rintro e W3 ⟨rfl, hj, hb3⟩
    gi_wp2
    exact ⟨unhide HM _ hj, hb3⟩
  case done =>
    intro D W5 hD hi b5 hdef
    rw [sTo_map c r k hr0 hk0 wd hwd ht hht] at hi
    gi_wp2
    refine ⟨by simp, .inl ⟨_, _, rfl, run_takeDeferred hdef, ?_⟩⟩
    have hDn : ∀ q, (O q ∨ q = l) → q ≠ D := fun q e h => by have := hOin q e; omega
    refine ⟨_, results_none rfl _ _ _, ⟨_, rfl⟩, hJ _ _ _ hi (fun q hq => World.putObj_heap_other (hDn q hq)), ?_⟩
    have b6 := (B2 (fun k => O k ∨ k = l)).trans b5
    exact ⟨b6.os, b6.tape, b6.output, Nat.le_trans b6.size (grownBy_putObj' W5 D _).size, fun q hq ho => (World.putObj_heap_other (by omega)).trans (b6.block q hq ho)⟩

end Go.Proofs.Ytoeehfjbnbbijaa
