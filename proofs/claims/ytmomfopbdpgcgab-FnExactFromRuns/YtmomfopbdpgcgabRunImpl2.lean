/-
  Items told and repeated in the program.
-/
import Derived.Test.YtmomfopbdpgcgabRunImpl
import Derived.Test.YtmomfopbdpgcgabRunSpec3
import Derived.Test.YtmomfopbdpgcgabHeldTail
import Derived.Laws.CopyOwn
import Derived.Deep.RegionLaw
import Derived.Laws.ResultCell
namespace Go.Proofs.Ytmomfopbdpgcgab
open Go.RowKit

set_option maxHeartbeats 1600000 in
theorem implMul64 (k : Nat) (hk : k = 1 ∨ k = 2 ∨ k = 3) (w : World) :
    Calls Try.prog 35 #[.int .u64 1, .int .u64 k] w fun e w' => e = .returned (.tuple #[.int .u64 0, .int .u64 k]) ∧ w' = w := by
  rcases hk with rfl | rfl | rfl
  all_goals (go_enter Try.func35, Try.ntmps35; go_wp2; exact bodyPost_ret (v := .tuple #[.int .u64 0, .int .u64 _]) (by simp [results, Try.results35, go_sem]; rfl) rfl ⟨rfl, rfl⟩)

theorem implMul (k : Nat) (hk : k = 1 ∨ k = 2 ∨ k = 3) (w : World) :
    Calls Try.prog 31 #[.int .u64 1, .int .u64 k] w fun e w' => e = .returned (.tuple #[.int .u64 0, .int .u64 k]) ∧ w' = w := by
  go_enter Try.func31, Try.ntmps31
  go_wp2_with fail
  refine (implMul64 k hk w).mono ?_
  rintro e w1 ⟨rfl, rfl⟩
  go_wp2
  exact bodyPost_ret (v := .tuple #[.int .u64 0, .int .u64 k]) (by simp [results, Try.results31, go_sem]) rfl ⟨rfl, rfl⟩

/-- Copying elements of so many cells each, into a row that is known whole. -/
theorem run_copyI {P : Program} (w : World) (dT sT ty elem : TypeId) (sz : Nat) (g off dLen dCap : Nat) (ad : Addr) (sLen sCap : Nat) (cur : Array Value) (t : TypeId) (cs : List Value)
    (hu : P.underlying dT = some (.slice elem)) (hs : (P.info? elem).map (·.size) = some sz) (hg : w.heap[g]? = some (.cells cur t (0, 0))) (hn : cs.length = Nat.min sLen dLen * sz)
    (hsrc : ∀ j v, cs[j]? = some v → w.cell? (ad.add j) = some v) (hfit : off + cs.length ≤ cur.size) (h1 : ∀ v ∈ cs, v.oneCell' = true) :
    (Builtin.copy_ #[dT, sT] ty #[.slice (some ⟨g, off, none⟩) dLen dCap, .slice (some ad) sLen sCap]).run P w = .ok (goInt (Nat.min sLen dLen)) (w.setRow g (cur.toList.take off ++ cs ++ cur.toList.drop (off + cs.length)).toArray) := by
  have hst := run_storeCells_at P g off t cs 0 cur w hg (by simpa using hfit) h1
  cases hq : P.info? elem with
  | none => simp [hq] at hs
  | some i =>
    have hi : i.size = sz := by simpa [hq] using hs
    have hl := run_loadCells_list (P := P) w ad cs hsrc
    simp [Builtin.copy_, run_underlying hu, Builtin.lenOf, Builtin.firstCells, sizeOf, typeInfo, hq, hi, ← hn, hl, hst]

theorem grown_setRowI (w : World) (g : Nat) (X : Array Value) : w.grownBy (w.setRow g X) (some g) :=
  ⟨rfl, rfl, rfl, by simp [World.setRow], fun k _ hk => setRow_other w g k X (fun e => hk (by simp [e]))⟩

theorem wp_copyI {P : Program} {o : Oper} {a : Act} {w : World} {K : Act → World → Prop} {Q : Exit → Act → World → Prop} (d s : Operand) (dT sT : TypeId)
    (ho : o.op = .call { callee := .builtin .copy, args := #[d, s], argTypes := #[dT, sT] }) (elem : TypeId) (hu : P.underlying dT = some (.slice elem)) (sz : Nat) (hsz : (P.info? elem).map (·.size) = some sz)
    (g off dLen dCap : Nat) (ad : Addr) (sLen sCap : Nat) (hd : a.eval d = .slice (some ⟨g, off, none⟩) dLen dCap) (hs : a.eval s = .slice (some ad) sLen sCap)
    (cur : Array Value) (t : TypeId) (hg : w.heap[g]? = some (.cells cur t (0, 0))) (m : Nat) (hm : Nat.min sLen dLen = m) (cs : List Value) (hn : cs.length = m * sz)
    (hsrc : ∀ j v, cs[j]? = some v → w.cell? (ad.add j) = some v) (hfit : off + cs.length ≤ cur.size) (h1 : ∀ v ∈ cs, v.oneCell' = true) (R : List Value) (hR : cur.toList.take off ++ cs ++ cur.toList.drop (off + cs.length) = R)
    (h : ∀ w', Hid (w'.heap[g]? = some (.cells R.toArray t (0, 0))) → w.grownBy w' (some g) → K (a.put o.dst (.int .i64 m)) w') : Oper.wp P o a w K Q := by
  subst hm
  have hrun := run_copyI (P := P) w dT sT o.type elem sz g off dLen dCap ad sLen sCap cur t cs hu hsz hg hn hsrc hfit h1
  rw [hR] at hrun
  unfold Oper.wp
  simp only [execOp, ho, resolve, invoke, builtin, Sem.run_bind, Sem.run_pure, Result.andThen_ok, List.map_toArray, List.map_cons, List.map_nil, hd, hs, hrun]
  exact h _ (setRow_heap w g _ _ t _ hg) (grown_setRowI w g _)

theorem wpList_copyI {P : Program} {ops : Array Oper} {rest : List Oper} {o : Oper} {a : Act} {w : World} {Q : Exit → Act → World → Prop} (hgd : o.guard = none) (d s : Operand) (dT sT : TypeId)
    (ho : o.op = .call { callee := .builtin .copy, args := #[d, s], argTypes := #[dT, sT] }) (elem : TypeId) (hu : P.underlying dT = some (.slice elem)) (sz : Nat) (hsz : (P.info? elem).map (·.size) = some sz)
    (g off dLen dCap : Nat) (ad : Addr) (sLen sCap : Nat) (hd : a.eval d = .slice (some ⟨g, off, none⟩) dLen dCap) (hs : a.eval s = .slice (some ad) sLen sCap)
    (cur : Array Value) (t : TypeId) (hg : w.heap[g]? = some (.cells cur t (0, 0))) (m : Nat) (hm : Nat.min sLen dLen = m) (cs : List Value) (hn : cs.length = m * sz)
    (hsrc : ∀ j v, cs[j]? = some v → w.cell? (ad.add j) = some v) (hfit : off + cs.length ≤ cur.size) (h1 : ∀ v ∈ cs, v.oneCell' = true) (R : List Value) (hR : cur.toList.take off ++ cs ++ cur.toList.drop (off + cs.length) = R)
    (h : ∀ w', Hid (w'.heap[g]? = some (.cells R.toArray t (0, 0))) → w.grownBy w' (some g) → wpList P ops Q rest (a.put o.dst (.int .i64 m)) w') : wpList P ops Q (o :: rest) a w :=
  wpList_plain hgd fun _ hK => wp_copyI d s dT sT ho elem hu sz hsz g off dLen dCap ad sLen sCap hd hs cur t hg m hm cs hn hsrc hfit h1 R hR (fun w' h1 h2 => hK _ _ (h w' h1 h2))

theorem step_copyI {P : Program} {ops : Array Oper} {o : Oper} {a : Act} {w : World} {K : Act → World → Prop} {Q : Exit → Act → World → Prop} {E : Prop} (hgd : o.guard = none) (d s : Operand) (dT sT : TypeId)
    (ho : o.op = .call { callee := .builtin .copy, args := #[d, s], argTypes := #[dT, sT] }) (elem : TypeId) (hu : P.underlying dT = some (.slice elem)) (sz : Nat) (hsz : (P.info? elem).map (·.size) = some sz)
    (g off dLen dCap : Nat) (ad : Addr) (sLen sCap : Nat) (hd : a.eval d = .slice (some ⟨g, off, none⟩) dLen dCap) (hs : a.eval s = .slice (some ad) sLen sCap)
    (cur : Array Value) (t : TypeId) (hg : w.heap[g]? = some (.cells cur t (0, 0))) (m : Nat) (hm : Nat.min sLen dLen = m) (cs : List Value) (hn : cs.length = m * sz)
    (hsrc : ∀ j v, cs[j]? = some v → w.cell? (ad.add j) = some v) (hfit : off + cs.length ≤ cur.size) (h1 : ∀ v ∈ cs, v.oneCell' = true) (R : List Value) (hR : cur.toList.take off ++ cs ++ cur.toList.drop (off + cs.length) = R)
    (h : ∀ w', Hid (w'.heap[g]? = some (.cells R.toArray t (0, 0))) → w.grownBy w' (some g) → K (a.put o.dst (.int .i64 m)) w') :
    if Region.wanted o (yielded ops a.tmps) = true then Oper.wp P o a w K Q else E := by
  have hw : Region.wanted o (yielded ops a.tmps) = true := by simp [Region.wanted, hgd]
  rw [if_pos hw]
  exact wp_copyI d s dT sT ho elem hu sz hsz g off dLen dCap ad sLen sCap hd hs cur t hg m hm cs hn hsrc hfit h1 R hR h

theorem grown_atI {w w' : World} {g : Nat} {o : Obj} (h : w.grownBy w' none) (hg : w.heap[g]? = some o) : w'.heap[g]? = some o :=
  (h.block g (Array.getElem?_eq_some_iff.1 hg).1 (by simp)).trans hg

theorem own_full {w : World} {base : Nat} {e : TypeId} {g k sz : Nat} {xs : List Value} (h : w.ownsRow base e sz (.slice (some ⟨g, 0, none⟩) k k) k xs) : w.heap[g]? = some (.cells xs.toArray e (0, 0)) ∧ base ≤ g := by
  rcases h.2 with ⟨h1, _⟩ | ⟨g', cap, cur, h1, h2, h3, h4, h5, h6, h7⟩
  · simp at h1
  · simp only [Value.slice.injEq, Option.some.injEq, Addr.mk.injEq, true_and, and_true] at h1
    obtain ⟨rfl, rfl⟩ := h1
    rw [List.take_of_length_le (by simp; omega)] at h7
    refine ⟨?_, h2⟩
    rw [h3, ← h7]
theorem full_own {w : World} {base : Nat} {e : TypeId} {g k sz : Nat} {xs : List Value} (h : w.heap[g]? = some (.cells xs.toArray e (0, 0))) (hb : base ≤ g) (hl : xs.length = k * sz) (hk : k ≤ maxLen) : w.ownsRow base e sz (.slice (some ⟨g, 0, none⟩) k k) k xs :=
  ⟨hl, .inr ⟨g, k, xs.toArray, rfl, hb, h, Nat.le_refl _, hk, by simpa using hl, by rw [← hl]; simp⟩⟩
theorem itCells_one : ∀ (X : List It), ∀ v ∈ itCells X, v.oneCell' = true
  | [], v, h => by simp [itCells] at h
  | p :: X, v, h => by
    simp only [itCells, List.mem_cons] at h
    rcases h with rfl | rfl | rfl | h
    · rfl
    · rfl
    · rfl
    · exact itCells_one X v h
theorem itCells_take : ∀ (X : List It) (n : Nat), (itCells X).take (n * 3) = itCells (X.take n)
  | [], n => by simp [itCells]
  | p :: X, 0 => by simp [itCells]
  | p :: X, n + 1 => by
    have e : (n + 1) * 3 = n * 3 + 1 + 1 + 1 := by omega
    rw [e]
    simp [itCells, itCells_take X n]
theorem itCells_drop : ∀ (X : List It) (n : Nat), (itCells X).drop (n * 3) = itCells (X.drop n)
  | [], n => by simp [itCells]
  | p :: X, 0 => by simp [itCells]
  | p :: X, n + 1 => by
    have e : (n + 1) * 3 = n * 3 + 1 + 1 + 1 := by omega
    rw [e]
    simp [itCells, itCells_drop X n]
theorem made_items (k : Nat) : (madeCells (#[.int .i64 0, .int .i64 0, .int .i64 0] : Array Value) (k * 3)).toList = itCells (List.replicate k (0, 0, 0)) := by
  induction k with
  | zero => simp [madeCells, itCells]
  | succ k ih =>
    rw [List.replicate_succ', itCells_app, ← ih]
    have e : (k + 1) * 3 = k * 3 + 1 + 1 + 1 := by omega
    have h0 : (k * 3) % 3 = 0 := by omega
    have h1 : (k * 3 + 1) % 3 = 1 := by omega
    have h2 : (k * 3 + 1 + 1) % 3 = 2 := by omega
    rw [e]
    simp [madeCells, List.range_succ, h0, h1, h2, itCells]

/-- So many sixteens of noughts, and then items that are not told yet. -/
def reps (k n : Nat) : List It := List.replicate n (15, 0, 0) ++ List.replicate (k - n) (0, 0, 0)
theorem reps_len {k n : Nat} (h : n ≤ k) : (reps k n).length = k := by simp [reps]; omega
theorem reps_more (k n m : Nat) : (itCells (reps k n)).take (n * 3) ++ itCells (List.replicate m (15, 0, 0)) ++ (itCells (reps k n)).drop (n * 3 + (itCells (List.replicate m ((15, 0, 0) : It))).length) = itCells (reps k (n + m)) := by
  have e1 : n * 3 + (itCells (List.replicate m ((15, 0, 0) : It))).length = (n + m) * 3 := by rw [itCells_len, List.length_replicate]; omega
  rw [e1, itCells_take, itCells_drop, ← itCells_app, ← itCells_app]
  congr 1
  have e2 : (reps k n).take n = List.replicate n (15, 0, 0) := by simp [reps]
  have e3 : (reps k n).drop (n + m) = List.replicate (k - (n + m)) (0, 0, 0) := by
    unfold reps
    rw [List.drop_append, List.drop_eq_nil_of_le (by simp), List.drop_replicate, List.nil_append]
    congr 1
    simp; omega
  rw [e2, e3, reps, List.replicate_append_replicate]

set_option maxRecDepth 20000 in
set_option maxHeartbeats 1600000 in
theorem implRepeat (b : Nat) (k : Nat) (hk : k = 1 ∨ k = 2 ∨ k = 3) (w : World) (hb : w.heap[b]? = some (.cells #[.int .i64 15, .int .i64 0, .int .i64 0] 36 (0, 0))) :
    Calls Try.prog 27 #[.slice (some ⟨b, 0, none⟩) 1 1, .int .i64 k] w fun e w' => ∃ v, e = .returned v ∧ w'.ownsRow w.heap.size 36 3 v (List.replicate k ((15, 0, 0) : It)).length (itCells (List.replicate k (15, 0, 0))) ∧ w.grownBy w' none := by
  have HB := hide hb
  clear hb
  have HK := hide hk
  have hk1 : 1 ≤ k ∧ k ≤ 3 := by omega
  clear hk
  have hd0 : decide ((k : Int) < 0) = false := decide_eq_false (by omega)
  have hd1 : decide ((9223372036854775807 : Int) < (k : Int)) = false := decide_eq_false (by omega)
  go_enter Try.func27, Try.ntmps27
  go_wp2_with fail
  refine (implMul k (unhide HK) w).mono ?_
  rintro e w1 ⟨rfl, rfl⟩
  obtain ⟨i0, hi, hz0, hz1, hz2⟩ := info_parts info_item
  go_wp2_with (at_make; refine wpList_make_full _ rfl _ _ 27 rfl w1.heap.size 36 i0 (.agg #[.int .i64 0, .int .i64 0, .int .i64 0]) 3 Try.underlying27 hi hz0 hz1 .i64 .i64 _ _ k rfl rfl rfl rfl (by rw [hz2]; omega) (by unfold maxLen; omega) (Nat.le_refl _) ?_)
  intro w2 hown hgrow
  have hB2 : w2.heap[w1.heap.size]? = some (.cells (itCells (reps k 0)).toArray 36 (0, 0)) := by
    have h := (own_full hown).1
    rw [h]
    have e := made_items k
    rw [show itCells (reps k 0) = (madeCells (#[.int .i64 0, .int .i64 0, .int .i64 0] : Array Value) (k * 3)).toList from by rw [e]; simp [reps]]
  have HB2 := hide hB2
  have HG2 := hide hgrow
  have HBX : Hid (w2.heap[b]? = some (.cells #[.int .i64 15, .int .i64 0, .int .i64 0] 36 (0, 0))) := grown_atI hgrow (unhide HB)
  clear hown hgrow hB2
  have hpb := (Array.getElem?_eq_some_iff.1 (unhide HB)).1
  have HSRC : Hid (∀ j v, (itCells (List.replicate 1 ((15, 0, 0) : It)))[j]? = some v → w2.cell? ((⟨b, 0, none⟩ : Addr).add j) = some v) := by
    intro j v hv
    rw [Addr.add_lit, Nat.zero_add, cell_of_row w2 b j _ _ (0, 0) (unhide HBX), ← hv]
    simp [itCells]
  have HFIT : Hid (0 + (itCells (List.replicate 1 ((15, 0, 0) : It))).length ≤ (itCells (reps k 0)).toArray.size) := by
    unfold Hid; rw [List.size_toArray, itCells_len, itCells_len, reps_len (by omega)]; simp; omega
  have HM : Hid (Nat.min 1 k = 1) := by show min 1 k = 1; omega
  have HRR : Hid ((itCells (reps k 0)).toArray.toList.take 0 ++ itCells (List.replicate 1 (15, 0, 0)) ++ (itCells (reps k 0)).toArray.toList.drop (0 + (itCells (List.replicate 1 ((15, 0, 0) : It))).length) = itCells (reps k 1)) := by
    have h := reps_more k 0 1
    rw [Nat.zero_mul, Nat.zero_add] at h
    exact h
  go_wp2_with (refine wpList_copyI rfl (.tmp 31) (.tmp 32) 27 27 rfl 36 Try.underlying27 3 (by kernel_rfl) w1.heap.size 0 k k ⟨b, 0, none⟩ 1 1 rfl rfl (itCells (reps k 0)).toArray 36 (unhide HB2) 1 (unhide HM) (itCells (List.replicate 1 (15, 0, 0))) rfl (unhide HSRC) (unhide HFIT) (itCells_one _) (itCells (reps k 1)) (unhide HRR) ?_; intro w3 hB3 g3)
  have HB3 := hB3
  have HG3 : Hid (w1.grownBy w3 none) := grown_new (unhide HG2) g3 (fun g e => by simp at e; omega)
  clear hB3 g3 HSRC HFIT HM HRR HB2 HBX HG2 HB hpb
  go_loopw [8] (fun i wr => ∃ n : Nat, 1 ≤ n ∧ n ≤ k ∧ i = .int .i64 n ∧ Hid (wr.heap[w1.heap.size]? = some (.cells (itCells (reps k n)).toArray 36 (0, 0))) ∧ Hid (w1.grownBy wr none)) (fun i _ => k - (intOf i).toNat)
  case atStart => exact ⟨1, Nat.le_refl _, by omega, rfl, HB3, HG3⟩
  case round =>
    clear HB3 HG3
    obtain ⟨n, hn1, hnk, rfl, hB, hg⟩ := hrel
    by_cases hlt : n < k
    · have hd2 : decide ((n : Int) < (k : Int)) = true := decide_eq_true (by omega)
      have hne : (k = n) = False := by simp; omega
      obtain ⟨m, hm⟩ : ∃ m, Nat.min n (k - n) = m := ⟨_, rfl⟩
      have hm2 : 1 ≤ m ∧ n + m ≤ k ∧ m ≤ n := by
        have : Nat.min n (k - n) = min n (k - n) := rfl
        omega
      have HSRC : Hid (∀ j v, (itCells (List.replicate m ((15, 0, 0) : It)))[j]? = some v → wr.cell? ((⟨w1.heap.size, 0, none⟩ : Addr).add j) = some v) := by
        intro j v hv
        rw [Addr.add_lit, Nat.zero_add, cell_of_row wr _ j _ _ (0, 0) (unhide hB), List.getElem?_toArray, reps, itCells_app, show n = m + (n - m) by omega, ← List.replicate_append_replicate, itCells_app, List.append_assoc, List.getElem?_append_left (List.getElem?_eq_some_iff.1 hv).1]
        exact hv
      have HFIT : Hid (n * 3 + (itCells (List.replicate m ((15, 0, 0) : It))).length ≤ (itCells (reps k n)).toArray.size) := by
        unfold Hid; rw [List.size_toArray, itCells_len, itCells_len, reps_len (by omega)]; simp; omega
      have HM := hide hm
      have HRR : Hid ((itCells (reps k n)).toArray.toList.take (n * 3) ++ itCells (List.replicate m (15, 0, 0)) ++ (itCells (reps k n)).toArray.toList.drop (n * 3 + (itCells (List.replicate m ((15, 0, 0) : It))).length) = itCells (reps k (n + m))) := reps_more k n m
      have HLN : Hid ((itCells (List.replicate m ((15, 0, 0) : It))).length = m * 3) := by unfold Hid; rw [itCells_len, List.length_replicate]
      have e1 := i64_in ((n : Int) + (m : Int)) (by omega)
      clear hm
      go_wp2
      refine wp_region_noPanic ?_
      refine wp_region_tail (fun _ => True) [true, true, true, true, true, true, true, false, false, false] (by kernel_rfl) (fun _ _ _ _ _ h => h) rfl (by kernel_rfl) trivial ?_
      iterate 7
        refine heldF_take (v := ?_) (Or.inl ⟨by rfl, ?_⟩) ?_
        rotate_left 1
        · intro w' hSw
          try dsimp only at hSw
          go_simp
          try with_reducible rfl
        simp only [Act.put, List.setIfInBounds_toArray, List.set_cons_zero, List.set_cons_succ]
      refine heldF_skip (heldF_skip (heldF_skip (heldF_nil ?_)))
      iterate 7 refine tailF_skip ?_
      refine tailF_step (fun K hK => ?_)
      refine step_copyI rfl (.tmp 41) (.tmp 44) 27 27 rfl 36 Try.underlying27 3 (by kernel_rfl) w1.heap.size (n * 3) (k - n) (k - n) ⟨w1.heap.size, 0, none⟩ n k rfl rfl (itCells (reps k n)).toArray 36 (unhide hB) m (unhide HM) (itCells (List.replicate m (15, 0, 0))) (unhide HLN) (unhide HSRC) (unhide HFIT) (itCells_one _) (itCells (reps k (n + m))) (unhide HRR) ?_
      intro w4 hB4 g4
      refine hK.out _ _ trivial ?_
      clear hK K
      simp only [Act.put, List.setIfInBounds_toArray, List.set_cons_zero, List.set_cons_succ]
      refine tailF_step (fun K hK => ?_)
      go_simp
      refine hK.out _ _ trivial ?_
      clear hK K
      refine tailF_step (fun K hK => ?_)
      go_simp
      refine hK.out _ _ trivial ?_
      clear hK K
      refine tailF_nil (NoPanic.normal ?_)
      have HB4 := hB4
      have HG4 : Hid (w1.grownBy w4 none) := grown_new (grown_drew (unhide hg)) g4 (fun g e => by simp at e; omega)
      clear hB4 g4 HSRC HFIT HM HRR HLN hB hg
      go_wp2
      go_roundw
      case rel => exact ⟨n + m, by omega, by omega, by go_num, HB4, HG4⟩
      case measure => simp [intOf]; omega
    · obtain rfl : n = k := by omega
      have hx : reps n n = List.replicate n (15, 0, 0) := by simp [reps]
      have hb := unhide hB
      rw [hx] at hb
      have HO : Hid (wr.ownsRow w1.heap.size 36 3 (.slice (some ⟨w1.heap.size, 0, none⟩) n n) n (itCells (List.replicate n (15, 0, 0)))) := full_own hb (Nat.le_refl _) (by rw [itCells_len, List.length_replicate]) (by unfold maxLen; omega)
      clear hb hB hx
      go_wp2
      go_ret
      exact ⟨_, rfl, by rw [List.length_replicate]; exact unhide HO, unhide hg⟩

end Go.Proofs.Ytmomfopbdpgcgab
