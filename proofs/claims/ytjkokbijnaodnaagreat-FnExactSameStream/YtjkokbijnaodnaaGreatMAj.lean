/-
  GiveCoefs, MapSq, GeoHasC, PassImpl, NothingImpl, TellLeft, PassOk, ScanImpl, GiveScanOk, LeftImpl, ToldImpl, ListsImpl, GiveLeft, StreamOkWalk.
-/
import Derived.Maps.RangeWalk
import Derived.Test.YtjkokbijnaodnaaGreatMAi

namespace Go.Proofs.YtjkokbijnaodnaaGreat
open Go.RowKit Go.Shelf

theorem gridsOf_len (wd ht : Int) (n : Nat) (C : Nat → Nat → Int) (Y : List (List (List Int))) : (gridsOf wd ht n C Y).length = n := gridsTo_len _ _ _ _ _ _
theorem gridsOf_at (wd ht : Int) (n : Nat) (C : Nat → Nat → Int) (Y : List (List (List Int))) (c : Nat) (hc : c < n) : (gridsOf wd ht n C Y).getD c (0, 0, []) = (bwG wd n C c, bhG ht n C c, Y.getD c []) := by
  unfold gridsOf
  rw [gridsTo_at _ _ _ _ _ _ _ hc, if_pos hc]
/-- What is so of coefficients that are ok. -/
theorem ok_dims {p wd ht rs : Int} {n : Nat} {C : Nat → Nat → Int} {Y : List (List (List Int))} (hb : frameB p wd ht rs n C = true) (h : coefsOkB wd ht n C Y = true) : n ≤ 4 ∧ Y.length = n ∧ ∀ c, c < n → bwG wd n C c ≤ 128 ∧ bhG ht n C c ≤ 128 ∧ (Y.getD c []).length = bwG wd n C c * bhG ht n C c ∧ ∀ k, k < (Y.getD c []).length → ((Y.getD c []).getD k []).length = 64 := by
  have hg := geo_of hb
  have h1 := h
  unfold coefsOkB at h1
  rw [Bool.and_eq_true] at h1
  have h2 : Y.length = n := of_decide_eq_true h1.1
  refine ⟨hg.n4, h2, fun c hc => ?_⟩
  obtain ⟨hY, h3, h4⟩ := ok_plane h c hc
  have e : Y.getD c [] = Y[c] := by simp [hY]
  have d := dims_of hg c hc
  rw [e]
  refine ⟨d.bw1.2, d.bh1.2, h3, fun k hk => ?_⟩
  have e2 : Y[c].getD k [] = Y[c][k] := by simp [hk]
  rw [e2]
  exact block_len (h4 k hk)
theorem FixedTo.shape {p wd ht rs : Int} {n : Nat} {C : Nat → Nat → Int} {Y : List (List (List Int))} {base : Nat} {b : Bool} {A : Array Value} {w : World} (h : FixedTo p wd ht rs n C Y base b A w) : A.size = 22 ∧ A.all (·.oneCell') = true := by
  cases b
  · rw [h.1 rfl]
    exact ⟨rfl, pzOne⟩
  · obtain ⟨X, D, gv, F, rfl, hF, _, o, _⟩ := h.2 rfl
    obtain ⟨ao, cap, rfl⟩ := o.form
    exact ⟨plV_size hF.size _, plV_one hF.one rfl⟩

set_option maxRecDepth 100000 in
set_option maxHeartbeats 3200000 in
theorem giveCoefsOk : ImplCoefsOk := by
  intro p wd ht rs ao n cap C v Y w hr hn hY hsz fb b HFB HB
  obtain ⟨W0, hW0⟩ : ∃ W0, (w.alloc (.cells #[.int .i64 p, .int .i64 wd, .int .i64 ht, .int .i64 rs, .slice ao n cap] 37)).alloc (.cells #[v] 38) = W0 := ⟨_, rfl⟩
  have G0 : w.grownBy W0 none := by rw [← hW0]; exact grown_alloc (World.grownBy_alloc _ _ _) _
  have HR := hide (hr.grown G0)
  have HYR := hide (RdR.st (RdR.st (RdI.st .i64)) _ _ _ _ hY G0)
  have HW := hide hW0
  have HG0 := hide G0
  clear hr hY hW0 G0
  go_enter Tryz.func47, Tryz.ntmps47
  go_wp2_with fail
  rw [unhide HW]
  clear HW
  refine (fixCoefs p wd ht rs ao n cap C v Y W0 (unhide HR) hn (unhide HYR) fb b HFB HB).mono ?_
  rintro e w1 ⟨A, rfl, hA, g1⟩
  obtain ⟨hs, ho⟩ := hA.shape
  have HSA := hide hs
  have HOA := hide ho
  have HB1 := hide (heap_alloc_new w1 (.cells #[.int .i64 0, .int .i64 0, .int .i64 0, .int .i64 0, .int .i64 0, .int .i64 0, .int .i64 0, .int .i64 0, .int .i64 0, .int .i64 0, .int .i64 0, .int .i64 0, .int .i64 0, .int .i64 0, .int .i64 0, .int .i64 0, .int .i64 0, .int .i64 0, .int .i64 0, .int .i64 0, .int .i64 0, .slice none 0 0] 105))
  clear hA hs ho
  go_wp2_with (refine store_row rfl 105 _ _ rfl w1.heap.size rfl A rfl #[.int .i64 0, .int .i64 0, .int .i64 0, .int .i64 0, .int .i64 0, .int .i64 0, .int .i64 0, .int .i64 0, .int .i64 0, .int .i64 0, .int .i64 0, .int .i64 0, .int .i64 0, .int .i64 0, .int .i64 0, .int .i64 0, .int .i64 0, .int .i64 0, .int .i64 0, .int .i64 0, .int .i64 0, .slice none 0 0] 105 (unhide HB1) (by rw [unhide HSA]; rfl) (by rw [unhide HSA]; kernel_rfl) (unhide HOA) ?_; intro w3 hB3 g3)
  go_ret
  exact ⟨rfl, grown_new (grown_alloc (grown_trans (unhide HG0) g1) (.cells #[.int .i64 0, .int .i64 0, .int .i64 0, .int .i64 0, .int .i64 0, .int .i64 0, .int .i64 0, .int .i64 0, .int .i64 0, .int .i64 0, .int .i64 0, .int .i64 0, .int .i64 0, .int .i64 0, .int .i64 0, .int .i64 0, .int .i64 0, .int .i64 0, .int .i64 0, .int .i64 0, .int .i64 0, .slice none 0 0] 105)) g3 (fun q e => by simp at e; have := (grown_trans (unhide HG0) g1).size; omega)⟩

end Go.Proofs.YtjkokbijnaodnaaGreat

namespace Go.Proofs.YtjkokbijnaodnaaGreat
open Go.RowKit

def datRow (xs : List Int) : DataW Unit := .agg (xs.map fun x => .lit (.int .i64 x))
theorem datRow_inj : ∀ {xs ys : List Int}, datRow xs = datRow ys → xs = ys := by
  intro xs ys h
  unfold datRow at h
  injection h with h
  induction xs generalizing ys with
  | nil => cases ys with
    | nil => rfl
    | cons y ys => simp at h
  | cons x xs ih => cases ys with
    | nil => simp at h
    | cons y ys =>
      simp only [List.map_cons, List.cons.injEq] at h
      obtain ⟨h1, h2⟩ := h
      injection h1 with h1
      injection h1 with _ h1
      rw [h1, ih h2]
def unInt : Value → Option Int
  | .int .i64 x => some x
  | _ => none
def unInts : List Value → Option (List Int)
  | [] => some []
  | v :: r => match unInt v, unInts r with
    | some x, some xs => some (x :: xs)
    | _, _ => none
def sqR (v : Value) : Option (DataW Unit × List MemPlace) := match v with
  | .agg cs => (unInts cs.toList).map fun xs => (datRow xs, [])
  | _ => none
theorem unInts_mk : ∀ xs : List Int, unInts (xs.map (Value.int .i64)) = some xs
  | [] => rfl
  | x :: xs => by
    show (match unInt (.int .i64 x), unInts (xs.map (Value.int .i64)) with | some x, some xs => some (x :: xs) | _, _ => none) = _
    rw [unInts_mk xs]
    rfl
theorem unInt_inv {v : Value} {x : Int} (h : unInt v = some x) : v = .int .i64 x := by
  unfold unInt at h
  split at h
  · rw [Option.some.inj h]
  · cases h
theorem unInts_inv : ∀ {vs : List Value} {xs : List Int}, unInts vs = some xs → vs = xs.map (Value.int .i64)
  | [], xs, h => by
    unfold unInts at h
    rw [← Option.some.inj h]
    rfl
  | v :: r, xs, h => by
    unfold unInts at h
    split at h
    · rename_i x ys h1 h2
      rw [← Option.some.inj h, unInt_inv h1, unInts_inv h2]
      rfl
    · cases h
theorem sqR_mk (xs : List Int) : sqR (.agg (sq xs)) = some (datRow xs, []) := by
  unfold sqR sq
  simp only [unInts_mk, Option.map_some]
theorem sqR_inv {v : Value} {z : DataW Unit × List MemPlace} (h : sqR v = some z) : ∃ xs, v = .agg (sq xs) ∧ z = (datRow xs, []) := by
  unfold sqR at h
  split at h
  · rename_i cs
    obtain ⟨xs, h1, h2⟩ := Option.map_eq_some_iff.1 h
    refine ⟨xs, ?_, h2.symm⟩
    rw [sq, ← unInts_inv h1]
  · cases h

def keyN (i : Nat) : Lit := .int .i64 i
theorem keyN_inj {i j : Nat} (h : keyN i = keyN j) : i = j := by
  unfold keyN at h
  injection h with _ h
  omega
theorem keyedN : Maps.Keyed Tryz.prog 3 := Maps.int_keyed Tryz.underlying3
theorem keyN_of {i : Nat} (h : i < 9223372036854775808) : keyOf Tryz.prog 3 (.int .i64 i) = some (keyN i) := Maps.keyOf_int_mk Tryz.underlying3 (WalkArith.wf_i64 (by omega))
theorem keyN_lit (i : Nat) : WideAt.IsKeyLit (keyN i) := trivial

/-- Block b is a map whose keys are those numbers, and whose elements are the squares of these rows. -/
def OwM (w : World) (b : Nat) (L : List (List Int)) : Prop :=
  ∃ (D : DataW Unit) (n : Nat), w.ownsMap Tryz.prog 3 sqR b n D ∧ Maps.size D = L.length ∧ (∀ i, i < L.length → ∀ z, D.atKey (keyN i) z = datRow (L.getD i [])) ∧ (∀ kl, Maps.has D kl = true → ∃ i, i < L.length ∧ kl = keyN i)
theorem own_tight {w : World} {b n : Nat} {D : DataW Unit} (h : w.ownsMap Tryz.prog 3 sqR b n D) : w.ownsMap Tryz.prog 3 sqR b (Maps.size D) D := by
  obtain ⟨es, clock, hb, F, hs, rfl⟩ := h
  exact ⟨es, clock, hb, F, by simp [Maps.size, length_sorted], rfl⟩
theorem OwM.made (w : World) : OwM (w.alloc (.map #[] 0)) w.heap.size [] :=
  ⟨.map [], 0, World.ownsMap_made _ _ _ _, rfl, fun i hi => by simp at hi, fun kl h => by simp [Maps.has] at h⟩
theorem OwM.lt {w : World} {b : Nat} {L : List (List Int)} (h : OwM w b L) : b < w.heap.size := by obtain ⟨D, n, h, _⟩ := h; exact h.lt
theorem OwM.keep {w w' : World} {b : Nat} {L : List (List Int)} {row : Option Nat} (h : OwM w b L) (g : w.grownBy w' row) (hne : some b ≠ row) : OwM w' b L := by
  obtain ⟨D, n, h, r⟩ := h
  exact ⟨D, n, h.kept g hne, r⟩
theorem zero_square (w : World) : (zeroValue 116).run Tryz.prog w = .ok (.agg (sq zs64)) w := by
  rw [sq_z64]
  kernel_rfl
theorem OwM.look {w : World} {b : Nat} {L : List (List Int)} (h : OwM w b L) (i : Nat) (hi : i < L.length) (hL : L.length < 9223372036854775808) : (Instr.lookup 109 (.map (some b)) (.int .i64 i) false).run Tryz.prog w = .ok (.agg (sq (L.getD i []))) w := by
  obtain ⟨D, n, h, _, hat, _⟩ := h
  obtain ⟨v, ps, hrun, hv⟩ := h.lookup keyedN Tryz.underlying109 (zero_square w) (sqR_mk zs64) (keyN_of (i := i) (by omega))
  rw [hat i hi] at hv
  obtain ⟨xs, rfl, e⟩ := sqR_inv hv
  rw [datRow_inj (congrArg Prod.fst e)]
  exact hrun
theorem OwM.store {w : World} {b : Nat} {L : List (List Int)} (h : OwM w b L) (i : Nat) (hi : i ≤ L.length) (hL : L.length < 1000000) (xs : List Int) : ∃ w', (Instr.mapUpdate 109 (.map (some b)) (.int .i64 i) (.agg (sq xs))).run Tryz.prog w = .ok () w' ∧ OwM w' b (if i = L.length then L ++ [xs] else L.set i xs) ∧ w.grownBy w' (some b) := by
  obtain ⟨D, n, h, hs, hat, hhas⟩ := h
  have hti := h.tidy keyedN
  obtain ⟨w', hrun, h', g⟩ := (own_tight h).update keyedN Tryz.underlying109 (by rw [hs]; unfold maxLen; omega) (keyN_of (i := i) (by omega)) (sqR_mk xs)
  refine ⟨w', hrun, ⟨_, _, h', ?_, ?_, ?_⟩, g⟩
  · rw [Maps.size_put hti]
    split
    · rename_i hh
      obtain ⟨j, hj, e⟩ := hhas _ hh
      rw [keyN_inj e, if_neg (by omega), List.length_set, hs]
    · rename_i hh
      split
      · rw [List.length_append, hs]; rfl
      · exfalso
        exact hh (Maps.has_true_of_atKey (hat i (by omega)))
  · intro j hj z
    by_cases e : j = i
    · subst e
      rw [Maps.atKey_put_same hti.isMap (keyN_lit j)]
      split
      · rename_i h; simp [h]
      · rw [List.getD_eq_getElem?_getD, List.getElem?_set_self (by omega)]; rfl
    · rw [Maps.atKey_put_other (fun h => e (keyN_inj h))]
      have hj' : j < L.length := by
        split at hj
        · rw [List.length_append, List.length_singleton] at hj; omega
        · rw [List.length_set] at hj; exact hj
      rw [hat j hj']
      split
      · simp [List.getD_eq_getElem?_getD, List.getElem?_append_left hj']
      · simp [List.getD_eq_getElem?_getD, Ne.symm e]
  · intro kl hk
    by_cases e : kl = keyN i
    · refine ⟨i, ?_, e⟩
      split
      · rw [List.length_append, List.length_singleton]; omega
      · rw [List.length_set]; omega
    · rw [Maps.has_put_other e] at hk
      obtain ⟨j, hj, ej⟩ := hhas _ hk
      refine ⟨j, ?_, ej⟩
      split
      · rw [List.length_append, List.length_singleton]; omega
      · rw [List.length_set]; omega
theorem OwM.len {w : World} {b : Nat} {L : List (List Int)} (h : OwM w b L) (ty : TypeId) : (Builtin.len_ #[109] ty #[.map (some b)]).run Tryz.prog w = .ok (.int .i64 L.length) w := by
  obtain ⟨D, n, h, hs, _⟩ := h
  rw [← hs]
  exact h.len Tryz.underlying109 ty

/-- At the operation. -/
theorem wp_storeM {ops : Array Oper} {rest : List Oper} {op : Oper} {a : Act} {w : World} {Q : Exit → Act → World → Prop} (hw : Region.wanted op (yielded ops a.tmps) = true) (m x y : Operand) (ho : op.op = .mapUpdate 109 m x y) (b : Nat) (L : List (List Int)) (i : Nat) (xs : List Int)
    (hm : a.eval m = .map (some b)) (hx : a.eval x = .int .i64 i) (hy : a.eval y = .agg (sq xs)) (h : OwM w b L) (hi : i ≤ L.length) (hL : L.length < 1000000)
    (hK : ∀ w', OwM w' b (if i = L.length then L ++ [xs] else L.set i xs) → w.grownBy w' (some b) → wpList Tryz.prog ops Q rest (a.put op.dst undef) w') : wpList Tryz.prog ops Q (op :: rest) a w :=
  BigFrame.wpList_want hw fun _ hC => by
    obtain ⟨w', hrun, h1, h2⟩ := h.store i hi hL xs
    unfold Oper.wp
    simp [execOp, ho, hm, hx, hy, hrun, Result.andThen]
    exact hC _ _ (hK w' h1 h2)

end Go.Proofs.YtjkokbijnaodnaaGreat

namespace Go.Proofs.YtjkokbijnaodnaaGreat
open Go.RowKit

/-- The number ahead of place k, -1 ahead of the first. -/
def lastC (cs : List Int) (k : Nat) : Int := if k = 0 then -1 else cs.getD (k - 1) 0
theorem lastC_succ (cs : List Int) (k : Nat) : lastC cs (k + 1) = cs.getD k 0 := by simp [lastC]

set_option maxRecDepth 20000 in
set_option maxHeartbeats 1600000 in
theorem hasComps (X : Array Value) (hs : X.size = 21) (n : Nat) (F : Hid (∀ (c : Int) (w : World), Calls Tryz.prog 112 #[.agg X, .int .i64 c] w fun e w' => e = .returned (.bool (decide (0 ≤ c ∧ c ≤ (n : Int) - 1))) ∧ w.grownBy w' none))
    (ao : Option Addr) (m cap : Nat) (cs : List Int) (w : World) (hr : Rd .i64 w ao m cs) (hm : m ≤ 4194304) :
    Calls Tryz.prog 102 #[.agg X, .slice ao m cap] w fun e w' => e = .returned (.bool (okComps n cs)) ∧ w.grownBy w' none := by
  have hml := hr.1
  obtain ⟨wx, hW0⟩ : ∃ wx, w.alloc (.cells X 83) = wx := ⟨_, rfl⟩
  have G0 : w.grownBy wx none := by rw [← hW0]; exact grown_alloc (World.grownBy.refl _ _) _
  have B0 : Hid (wx.heap[w.heap.size]? = some (.cells X 83 (0, 0))) := by rw [← hW0]; exact heap_alloc_new w _
  have hgs : w.heap.size < wx.heap.size := by rw [← hW0]; simp
  have HR := hide (hr.grown G0)
  have HG0 := hide G0
  have HW := hide hW0
  clear hr G0 hW0
  go_enter Tryz.func102, Tryz.ntmps102
  go_wp2
  rw [unhide HW]
  clear HW
  go_loopw [5, 10] (fun l i wr => ∃ k : Nat, k ≤ m ∧ i = .int .i64 k ∧ l = .int .i64 (lastC cs k) ∧ compsTo n cs k = true ∧ wx.grownBy wr none) (fun _ i _ => m - (intOf i).toNat)
  case atStart => exact ⟨0, Nat.zero_le _, rfl, rfl, rfl, World.grownBy.refl _ _⟩
  case round =>
    obtain ⟨k, hk, rfl, rfl, hok, hgk⟩ := hrel
    by_cases hlt : k < m
    · obtain ⟨b, off, rfl, hc⟩ := ((unhide HR).grown hgk).2 k hlt
      have hB := (hgk.block w.heap.size hgs (by simp)).trans (unhide B0)
      have HS : Hid (compsTo n cs (k + 1) = (compsTo n cs k && (decide (0 ≤ cs.getD k 0 ∧ cs.getD k 0 ≤ (n : Int) - 1) && decide (k = 0 ∨ cs.getD (k - 1) 0 < cs.getD k 0)))) := rfl
      have HOK := hide hok
      have STOP : Hid (compsTo n cs (k + 1) = false → okComps n cs = false) := fun h => by
        rw [okComps, compsTo_false h cs.length (by omega)]; rfl
      have HL0 : Hid (cs.getD k 0 ≤ lastC cs k → compsTo n cs (k + 1) = false) := fun h => by
        rw [unhide HS]
        unfold lastC at h
        split at h
        · have e : decide (0 ≤ cs.getD k 0 ∧ cs.getD k 0 ≤ (n : Int) - 1) = false := decide_eq_false (by omega)
          rw [e]; simp
        · have e : decide (k = 0 ∨ cs.getD (k - 1) 0 < cs.getD k 0) = false := decide_eq_false (by omega)
          rw [e]; simp
      have HL1 : Hid (lastC cs k < cs.getD k 0 → compsTo n cs (k + 1) = decide (0 ≤ cs.getD k 0 ∧ cs.getD k 0 ≤ (n : Int) - 1)) := fun h => by
        rw [unhide HS, unhide HOK]
        unfold lastC at h
        split at h
        · rename_i e0
          rw [show decide (k = 0 ∨ cs.getD (k - 1) 0 < cs.getD k 0) = true from decide_eq_true (.inl e0)]; simp
        · rw [show decide (k = 0 ∨ cs.getD (k - 1) 0 < cs.getD k 0) = true from decide_eq_true (.inr h)]; simp
      clear hok HS
      generalize lastC cs k = l0 at *
      generalize hcE : cs.getD k 0 = c at *
      have HCE := hide hcE
      clear hcE
      by_cases hle : c ≤ l0
      · go_wp2
        go_ret
        exact ⟨ret_bool (by rw [unhide STOP (unhide HL0 hle)]), grown_trans (unhide HG0) hgk⟩
      · obtain ⟨t, HT⟩ : ∃ t, Hid (decide (0 ≤ c ∧ c ≤ (n : Int) - 1) = t) := ⟨_, rfl⟩
        have HF := hide ((unhide F) c wr)
        rw [unhide HT] at HF
        have HCT : Hid (compsTo n cs (k + 1) = t) := by unfold Hid; rw [unhide HL1 (by omega), unhide HT]
        clear HL0 HL1 HT
        go_wp2_with (refine wpList_load_row rfl 83 _ rfl w.heap.size rfl X 83 hB _ Tryz.underlying83 rfl (by rw [hs]; kernel_rfl) ?_)
        refine (unhide HF).mono ?_
        rintro e w2 ⟨rfl, g2⟩
        have G2 := grown_trans hgk g2
        clear HF
        cases t
        · go_wp2
          go_ret
          exact ⟨ret_bool (by rw [unhide STOP (unhide HCT)]), grown_trans (unhide HG0) G2⟩
        · go_wp2
          go_roundw
          case rel => exact ⟨k + 1, by omega, by go_num, by rw [lastC_succ, unhide HCE], unhide HCT, G2⟩
          case measure => simp [intOf]; omega
    · have hkn : k = m := by omega
      subst hkn
      have HE : Hid (okComps n cs = decide (0 < k)) := by
        unfold Hid okComps
        rw [hml, hok, Bool.true_and]
      clear hok
      go_wp2
      go_ret
      exact ⟨ret_bool (by rw [unhide HE]), grown_trans (unhide HG0) hgk⟩

end Go.Proofs.YtjkokbijnaodnaaGreat

namespace Go.Proofs.YtjkokbijnaodnaaGreat
open Go.RowKit

/-- High and Low are those of a pass. -/
def bitsB (a : Scn) : Bool := decide (0 ≤ a.lo ∧ a.lo ≤ 13) && (decide (a.hi = 0) || decide (a.hi = a.lo + 1))
def pV (a : Scn) : Value := if a.hi = 0 then .iface 149 (.agg #[.int .i64 a.lo]) else .iface 151 (.agg #[.int .i64 a.hi, .int .i64 a.lo])
def pVN (a : Scn) : Value := if bitsB a = true then pV a else .nilIface

set_option maxRecDepth 20000 in
set_option maxHeartbeats 1600000 in
theorem passOf (w : World) (v0 : Value) (a : Scn) (pv : Value) (HP : Hid (pVN a = pv)) :
    Calls Tryz.prog 104 #[scV v0 a] w fun e w' => e = .returned pv ∧ w.grownBy w' none := by
  obtain ⟨cs, fr, to, hi, lo⟩ := a
  have hp := unhide HP
  unfold pVN bitsB pV at hp
  unfold scV
  dsimp only at hp ⊢
  have HG0 : Hid (w.grownBy (w.alloc (.cells #[v0, .int .i64 fr, .int .i64 to, .int .i64 hi, .int .i64 lo] 77)) none) := World.grownBy_alloc _ _ _
  obtain ⟨c0, c1, c2, c3, c4⟩ := scanCells (heap_alloc_new w (.cells #[v0, .int .i64 fr, .int .i64 to, .int .i64 hi, .int .i64 lo] 77))
  obtain ⟨b3, HB3⟩ : ∃ b, Hid (decide (0 ≤ lo ∧ lo ≤ 13) = b) := ⟨_, rfl⟩
  rw [unhide HB3] at hp
  clear HP
  go_enter Tryz.func104, Tryz.ntmps104
  go_wp2_with fail
  refine (inRange lo 0 13 b3 HB3 _).mono ?_
  rintro e w1 ⟨rfl, rfl⟩
  cases b3 with
  | false =>
    have e : pv = .nilIface := by rw [← hp]; simp
    subst e
    clear hp
    go_wp2
    go_ret
    exact ⟨rfl, unhide HG0⟩
  | true =>
    have hlo := of_decide_eq_true (unhide HB3)
    have e1 := i64_in (lo + 1) (by omega)
    by_cases h0 : hi = 0
    · have n0 : (hi == 0) = true := by simp [h0]
      have e : pv = .iface 149 (.agg #[.int .i64 lo]) := by rw [← hp]; simp [h0]
      subst e
      clear h0 hp
      go_wp2
      go_ret
      exact ⟨rfl, unhide HG0⟩
    · have n0 : (hi == 0) = false := by simp [h0]
      by_cases h1 : hi = lo + 1
      · have n1 : (hi == lo + 1) = true := by simp [h1]
        have e : pv = .iface 151 (.agg #[.int .i64 hi, .int .i64 lo]) := by rw [← hp, if_neg h0]; simp [h1]
        subst e
        clear h0 h1 hp
        go_wp2
        go_ret
        exact ⟨rfl, unhide HG0⟩
      · have n1 : (hi == lo + 1) = false := by simp [h1]
        have e : pv = .nilIface := by rw [← hp]; simp [h0, h1]
        subst e
        clear h0 h1 hp
        go_wp2
        go_ret
        exact ⟨rfl, unhide HG0⟩

theorem firstBit (lo : Int) (w : World) : Calls Tryz.prog 135 #[.agg #[.int .i64 lo]] w fun e w' => e = .returned (.int .i64 lo) ∧ w.grownBy w' none := by
  go_enter Tryz.func135, Tryz.ntmps135
  go_wp2
  go_ret
  exact ⟨rfl, World.grownBy_alloc _ _ _⟩

theorem refiningBit (hi lo : Int) (w : World) : Calls Tryz.prog 136 #[.agg #[.int .i64 hi, .int .i64 lo]] w fun e w' => e = .returned (.int .i64 lo) ∧ w.grownBy w' none := by
  go_enter Tryz.func136, Tryz.ntmps136
  go_wp2
  go_ret
  exact ⟨rfl, World.grownBy_alloc _ _ _⟩

theorem asFirst (lo : Int) (w : World) : (Instr.typeAssert (.iface 149 (.agg #[.int .i64 lo])) 142 149 true).run Tryz.prog w = .ok (.tuple #[.agg #[.int .i64 lo], .bool true]) w := by kernel_rfl

theorem asFirst_no (hi lo : Int) (w : World) : (Instr.typeAssert (.iface 151 (.agg #[.int .i64 hi, .int .i64 lo])) 142 149 true).run Tryz.prog w = .ok (.tuple #[.agg #[.int .i64 0], .bool false]) w := by kernel_rfl

theorem asRefining (hi lo : Int) (w : World) : (Instr.typeAssert (.iface 151 (.agg #[.int .i64 hi, .int .i64 lo])) 142 151 true).run Tryz.prog w = .ok (.tuple #[.agg #[.int .i64 hi, .int .i64 lo], .bool true]) w := by kernel_rfl

theorem methFirst (lo : Int) (w : World) : (method 270 149 (.agg #[.int .i64 lo]) "loop.example/g00139/impl.bit").run Tryz.prog w = .ok (135, .agg #[.int .i64 lo]) w := by kernel_rfl

theorem methRefining (hi lo : Int) (w : World) : (method 270 151 (.agg #[.int .i64 hi, .int .i64 lo]) "loop.example/g00139/impl.bit").run Tryz.prog w = .ok (136, .agg #[.int .i64 hi, .int .i64 lo]) w := by kernel_rfl

theorem notNilP (t : TypeId) (v : Value) (w : World) : (binOp .neq 142 (.iface t v) .nilIface).run Tryz.prog w = .ok (.bool true) w := by kernel_rfl

theorem nilP (w : World) : (binOp .neq 142 .nilIface .nilIface).run Tryz.prog w = .ok (.bool false) w := by kernel_rfl

set_option maxRecDepth 20000 in
set_option maxHeartbeats 1600000 in
theorem mayTell (w : World) (hi lo : Int) (last : Int) :
    Calls Tryz.prog 105 #[pV ⟨[], 0, 0, hi, lo⟩, .int .i64 last] w fun e w' => e = .returned (.bool (decide (last = if hi = 0 then -1 else hi))) ∧ w.grownBy w' none := by
  unfold pV
  dsimp only
  by_cases h0 : hi = 0
  · rw [if_pos h0, if_pos h0]
    have h1 := fun w => asFirst lo w
    have e : decide (last = -1) = (last == -1) := by by_cases h : last = -1 <;> simp [h]
    rw [e]
    clear e h0
    go_enter Tryz.func105, Tryz.ntmps105
    go_wp2
    go_ret
    exact ⟨rfl, World.grownBy_alloc _ _ _⟩
  · rw [if_neg h0, if_neg h0]
    have h1 := fun w => asFirst_no hi lo w
    have h2 := fun w => asRefining hi lo w
    have e : decide (last = hi) = (last == hi) := by by_cases h : last = hi <;> simp [h]
    rw [e]
    clear e h0
    go_enter Tryz.func105, Tryz.ntmps105
    go_wp2
    go_ret
    exact ⟨rfl, World.grownBy_alloc _ _ _⟩

end Go.Proofs.YtjkokbijnaodnaaGreat

namespace Go.Proofs.YtjkokbijnaodnaaGreat
open Go.RowKit

theorem toNoBit (x : Int) (w : World) : Calls Tryz.prog 101 #[.int .i64 x] w fun e w' => e = .returned (.int .i64 (-1)) ∧ w.grownBy w' none := by
  go_enter Tryz.func101, Tryz.ntmps101
  go_wp2
  go_ret
  exact ⟨rfl, World.grownBy.refl _ _⟩
theorem nothing_app (i : Nat) : nothing i ++ [List.replicate 64 (-1)] = nothing (i + 1) := by
  unfold nothing
  generalize List.replicate 64 (-1 : Int) = r
  rw [List.replicate_succ']
theorem nothing_len (i : Nat) : (nothing i).length = i := by unfold nothing; rw [List.length_replicate]
theorem made_minus : made (fun _ => -1) = List.replicate 64 (-1) := rfl
theorem eachNoBit (w : World) : Calls Tryz.prog 100 #[.agg #[.int .i64 0, .int .i64 0, .int .i64 0, .int .i64 0, .int .i64 0, .int .i64 0, .int .i64 0, .int .i64 0, .int .i64 0, .int .i64 0, .int .i64 0, .int .i64 0, .int .i64 0, .int .i64 0, .int .i64 0, .int .i64 0, .int .i64 0, .int .i64 0, .int .i64 0, .int .i64 0, .int .i64 0, .int .i64 0, .int .i64 0, .int .i64 0, .int .i64 0, .int .i64 0, .int .i64 0, .int .i64 0, .int .i64 0, .int .i64 0, .int .i64 0, .int .i64 0, .int .i64 0, .int .i64 0, .int .i64 0, .int .i64 0, .int .i64 0, .int .i64 0, .int .i64 0, .int .i64 0, .int .i64 0, .int .i64 0, .int .i64 0, .int .i64 0, .int .i64 0, .int .i64 0, .int .i64 0, .int .i64 0, .int .i64 0, .int .i64 0, .int .i64 0, .int .i64 0, .int .i64 0, .int .i64 0, .int .i64 0, .int .i64 0, .int .i64 0, .int .i64 0, .int .i64 0, .int .i64 0, .int .i64 0, .int .i64 0, .int .i64 0, .int .i64 0], .func (.func 101) #[] #[]] w fun e w' => e = .returned (.agg (sq (List.replicate 64 (-1)))) ∧ w.grownBy w' none := by
  rw [← sq_z64, ← made_minus]
  exact each zs64 zs64_len (fun _ => -1) 101 #[] (fun args w => by kernel_rfl) w (fun k _ W _ => toNoBit _ W)

set_option maxRecDepth 100000 in
set_option maxHeartbeats 1600000 in
theorem nothingTold (n : Nat) (hn : n ≤ 4) (w : World) : Calls Tryz.prog 80 #[.int .i64 n] w fun e w' => ∃ b, e = .returned (.map (some b)) ∧ w.heap.size ≤ b ∧ OwM w' b (nothing n) ∧ w.grownBy w' none := by
  have hmm := @run_makeMap Tryz.prog
  have HO0 := hide (OwM.made w)
  have HG0 : Hid (w.grownBy (w.alloc (.map #[] 0)) none) := World.grownBy_alloc _ _ _
  go_enter Tryz.func80, Tryz.ntmps80
  go_wp2
  clear hmm
  go_loopw [7] (fun iv wr => ∃ k : Nat, k ≤ n ∧ iv = .int .i64 k ∧ Hid (OwM wr w.heap.size (nothing k)) ∧ Hid (w.grownBy wr none)) (fun iv _ => n - (intOf iv).toNat)
  case atStart => exact ⟨0, Nat.zero_le _, rfl, HO0, HG0⟩
  case round =>
    clear HO0 HG0
    obtain ⟨k, hk, rfl, hO, hG⟩ := hrel
    by_cases hlt : k < n
    · have hd : decide ((k : Int) < (n : Int)) = true := decide_eq_true (by omega)
      go_wp2_with fail
      obtain ⟨Z, HZ⟩ : ∃ Z, Hid (Value.agg #[.int .i64 0, .int .i64 0, .int .i64 0, .int .i64 0, .int .i64 0, .int .i64 0, .int .i64 0, .int .i64 0, .int .i64 0, .int .i64 0, .int .i64 0, .int .i64 0, .int .i64 0, .int .i64 0, .int .i64 0, .int .i64 0, .int .i64 0, .int .i64 0, .int .i64 0, .int .i64 0, .int .i64 0, .int .i64 0, .int .i64 0, .int .i64 0, .int .i64 0, .int .i64 0, .int .i64 0, .int .i64 0, .int .i64 0, .int .i64 0, .int .i64 0, .int .i64 0, .int .i64 0, .int .i64 0, .int .i64 0, .int .i64 0, .int .i64 0, .int .i64 0, .int .i64 0, .int .i64 0, .int .i64 0, .int .i64 0, .int .i64 0, .int .i64 0, .int .i64 0, .int .i64 0, .int .i64 0, .int .i64 0, .int .i64 0, .int .i64 0, .int .i64 0, .int .i64 0, .int .i64 0, .int .i64 0, .int .i64 0, .int .i64 0, .int .i64 0, .int .i64 0, .int .i64 0, .int .i64 0, .int .i64 0, .int .i64 0, .int .i64 0, .int .i64 0] = Z) := ⟨_, rfl⟩
      have HE := hide (fun w => eachNoBit w)
      rw [unhide HZ] at HE ⊢
      clear HZ
      refine (unhide HE _).mono ?_
      rintro e w2 ⟨rfl, g2⟩
      have HO2 := hide ((unhide hO).keep g2 (by simp))
      have HG2 := hide (grown_trans (unhide hG) g2)
      clear g2 hO hG HE
      obtain ⟨R, HR⟩ : ∃ R, Hid (List.replicate 64 (-1 : Int) = R) := ⟨_, rfl⟩
      rw [unhide HR]
      go_wp2_with (at_mapUpdate; refine wp_storeM rfl _ _ _ rfl w.heap.size (nothing k) k R rfl rfl rfl (unhide HO2) (Nat.le_of_eq (nothing_len k).symm) (by rw [nothing_len]; omega) ?_; intro w3 hO3 g3; rw [if_pos (nothing_len k).symm, ← unhide HR, nothing_app] at hO3; replace hO3 := hide hO3; replace g3 := hide g3)
      have HG3 := hide (grown_new (unhide HG2) (unhide g3) (fun g e => by simp at e; omega))
      go_roundw
      case rel => exact ⟨k + 1, by omega, by go_num, hO3, HG3⟩
      case measure => simp [intOf]; omega
    · obtain rfl : n = k := by omega
      have hd : decide ((n : Int) < (n : Int)) = false := decide_eq_false (by omega)
      go_wp2
      go_ret
      exact ⟨_, rfl, Nat.le_refl _, unhide hO, unhide hG⟩

theorem wp_bit {ops : Array Oper} {rest : List Oper} {op : Oper} {a : Act} {w : World} {Q : Exit → Act → World → Prop} (hw : Region.wanted op (yielded ops a.tmps) = true) (x : Operand) (ho : op.op = .call { callee := .invoke x "loop.example/g00139/impl.bit", args := #[], argTypes := #[] }) (s : Scn) (hx : a.eval x = pV s)
    (hK : ∀ w', w.grownBy w' none → wpList Tryz.prog ops Q rest (a.put op.dst (.int .i64 s.lo)) w') : wpList Tryz.prog ops Q (op :: rest) a w :=
  BigFrame.wpList_want hw fun K hC => by
    have h1 := fun w => methFirst s.lo w
    have h2 := fun w => methRefining s.hi s.lo w
    unfold pV at hx
    unfold Oper.wp
    by_cases h0 : s.hi = 0
    · rw [if_pos h0] at hx
      simp only [execOp, ho, resolve, hx]
      go_simp
      refine (firstBit s.lo w).mono ?_
      rintro e w2 ⟨rfl, g2⟩
      exact hC _ _ (hK w2 g2)
    · rw [if_neg h0] at hx
      simp only [execOp, ho, resolve, hx]
      go_simp
      refine (refiningBit s.hi s.lo w).mono ?_
      rintro e w2 ⟨rfl, g2⟩
      exact hC _ _ (hK w2 g2)

end Go.Proofs.YtjkokbijnaodnaaGreat

namespace Go.Proofs.YtjkokbijnaodnaaGreat
open Go.RowKit

theorem wp_setM {ops : Array Oper} {rest : List Oper} {op : Oper} {a : Act} {w : World} {Q : Exit → Act → World → Prop} (hw : Region.wanted op (yielded ops a.tmps) = true) (m x y : Operand) (ho : op.op = .mapUpdate 109 m x y) (b : Nat) (L : List (List Int)) (i : Nat) (xs : List Int)
    (hm : a.eval m = .map (some b)) (hx : a.eval x = .int .i64 i) (hy : a.eval y = .agg (sq xs)) (h : OwM w b L) (hi : i < L.length) (hL : L.length < 1000000) (L' : List (List Int)) (hL' : L.set i xs = L')
    (hK : ∀ w', OwM w' b L' → w.grownBy w' (some b) → wpList Tryz.prog ops Q rest (a.put op.dst undef) w') : wpList Tryz.prog ops Q (op :: rest) a w :=
  wp_storeM hw m x y ho b L i xs hm hx hy h (Nat.le_of_lt hi) hL (fun w' h1 h2 => hK w' (by rw [if_neg (by omega), hL'] at h1; exact h1) h2)
theorem wp_lookM {ops : Array Oper} {rest : List Oper} {op : Oper} {a : Act} {w : World} {Q : Exit → Act → World → Prop} (hw : Region.wanted op (yielded ops a.tmps) = true) (m x : Operand) (ho : op.op = .lookup 109 m x false) (b : Nat) (L : List (List Int)) (i : Nat)
    (hm : a.eval m = .map (some b)) (hx : a.eval x = .int .i64 i) (h : OwM w b L) (hi : i < L.length) (hL : L.length < 1000000) (xs : List Int) (hxs : L.getD i [] = xs)
    (hK : wpList Tryz.prog ops Q rest (a.put op.dst (.agg (sq xs))) w) : wpList Tryz.prog ops Q (op :: rest) a w :=
  BigFrame.wpList_want hw fun _ hC => by
    have hrun := h.look i hi (by omega)
    rw [hxs] at hrun
    unfold Oper.wp
    simp [execOp, ho, hm, hx, hrun, Result.andThen]
    exact hC _ _ hK
theorem OwM.ne {w : World} {b : Nat} {L : List (List Int)} (h : OwM w b L) {x o : Nat} {v : Value} (hc : w.cell? ⟨x, o, none⟩ = some v) : some x ≠ some b := by
  intro e
  injection e with e
  subst e
  obtain ⟨D, n, ⟨es, clock, hb, _⟩, _⟩ := h
  simp [World.cell?, hb] at hc

theorem sq_setT (zs : List Int) (j : Nat) (v : Int) : (sq zs).setIfInBounds j (.int .i64 v) = sq (zs.set j v) := by simp [sq]
/-- The map goes on; the scan lies in its box. -/
structure Tm (w wr : World) (b : Nat) (sx : Array Value) (Y : List (List Int)) : Prop where
  sc : wr.heap[w.heap.size]? = some (.cells sx 77 (0, 0))
  own : OwM wr b Y
  lt : b < w.heap.size
  grown : w.grownBy wr (some b)
theorem Tm.size {w wr : World} {b : Nat} {sx : Array Value} {Y : List (List Int)} (h : Tm w wr b sx Y) : w.heap.size + 1 ≤ wr.heap.size := (Array.getElem?_eq_some_iff.1 h.sc).1
theorem Tm.new {w wr w' : World} {b : Nat} {sx : Array Value} {Y : List (List Int)} (h : Tm w wr b sx Y) (g : wr.grownBy w' none) : Tm w w' b sx Y :=
  ⟨at_rowS g h.sc (by simp), h.own.keep g (by simp), h.lt, grown_trans h.grown (grown_any g)⟩
theorem Tm.wr {w wr w' : World} {b x : Nat} {sx : Array Value} {Y : List (List Int)} (h : Tm w wr b sx Y) (g : wr.grownBy w' (some x)) (hx : w.heap.size + 1 ≤ x) : Tm w w' b sx Y := by
  have hl := h.lt
  exact ⟨at_rowS g h.sc (fun e => by injection e with e; omega), h.own.keep g (fun e => by injection e with e; omega), h.lt, World.grownBy.andThen h.grown g (fun j e => by injection e with e; left; omega)⟩
theorem Tm.put {w wr w' : World} {b : Nat} {sx : Array Value} {Y Z : List (List Int)} (h : Tm w wr b sx Y) (o : OwM w' b Z) (g : wr.grownBy w' (some b)) : Tm w w' b sx Z := by
  have hl := h.lt
  exact ⟨at_rowS g h.sc (fun e => by injection e with e; omega), o, h.lt, grown_trans h.grown g⟩

set_option maxRecDepth 20000 in
set_option maxHeartbeats 6400000 in
theorem tell (n : Nat) (hn : n ≤ 4) (X : List (List Int)) (hX : Rows64 n X) (b : Nat) (vo : Option Addr) (vn vc : Nat) (a : Scn) (w : World) (hv : Rd .i64 w vo vn a.cs) (hvn : vn ≤ 4194304) (hM : OwM w b X) (ha : scanB true n a = true) (r : Option (List (List Int))) (HR : Hid (leftScan a X = r)) :
    Calls Tryz.prog 82 #[.map (some b), scV (.slice vo vn vc) a] w fun e w' => e = .returned (.bool r.isSome) ∧ (∀ Y, r = some Y → OwM w' b Y) ∧ w.grownBy w' (some b) := by
  have hp : passB a = true := by unfold scanB at ha; simp only [Bool.and_eq_true] at ha; exact ha.2
  have hc : okComps n a.cs = true := by unfold scanB at ha; simp only [Bool.and_eq_true] at ha; exact ha.1.2
  obtain ⟨q0, q1, q2, q3, q4⟩ := passB_in hp
  have HIN := hide (okComps_in hc)
  have hbit : bitsB a = true := by
    unfold passB at hp
    unfold bitsB
    simp only [Bool.and_eq_true] at hp ⊢
    exact ⟨hp.1.2, hp.2⟩
  have HPASS := hide (fun W => passOf W (.slice vo vn vc) a (pV a) (by unfold Hid pVN; rw [if_pos hbit]))
  have HMAY := hide (fun W last => mayTell W a.hi a.lo last)
  have HRL : Hid (∀ j, j ≤ a.cs.length → ∀ Y, leftComps (wantOf a) a.lo a.fr.toNat (a.to - a.fr + 1).toNat (a.cs.take j) X = some Y → Rows64 n Y) := fun j _ Y h => (leftComps_step (by omega) (by unfold wantOf; split <;> omega) q3 (a.cs.take j) X Y hX (fun c hc' => unhide HIN c (List.mem_of_mem_take hc')) h).1
  have hpe : pV ⟨[], 0, 0, a.hi, a.lo⟩ = pV a := rfl
  rw [hpe] at HMAY
  obtain ⟨pv, HPV⟩ : ∃ pv, Hid (pV a = pv) := ⟨_, rfl⟩
  rw [unhide HPV] at HPASS HMAY
  have hl := hv.1
  have hr := unhide HR
  unfold leftScan at hr
  obtain ⟨want, HWN⟩ : ∃ z, Hid (wantOf a = z) := ⟨_, rfl⟩
  have hwe : (if a.hi = 0 then -1 else a.hi) = want := unhide HWN
  rw [hwe] at HMAY
  rw [unhide HWN] at hr HRL
  have hMl := hM.lt
  have HAE := hide (Eq.refl a)
  clear hp hc ha hbit HR hX hpe hwe HWN
  obtain ⟨cs, fr, to, hi, lo⟩ := a
  unfold scV at HPASS ⊢
  dsimp only at hv hl q0 q1 q2 q3 q4 HPASS HMAY HRL hr HIN ⊢
  clear HAE
  obtain ⟨k0, rfl⟩ := Int.eq_ofNat_of_zero_le q0
  obtain ⟨k1, rfl⟩ := Int.eq_ofNat_of_zero_le (show 0 ≤ to by omega)
  have em : ((k1 : Int) - (k0 : Int) + 1).toNat = k1 + 1 - k0 := by omega
  have ek : ((k0 : Int)).toNat = k0 := rfl
  rw [em, ek] at hr HRL
  have HT0 : Hid (Tm w (w.alloc (.cells #[.slice vo vn vc, .int .i64 k0, .int .i64 k1, .int .i64 hi, .int .i64 lo] 77)) b #[.slice vo vn vc, .int .i64 k0, .int .i64 k1, .int .i64 hi, .int .i64 lo] X) :=
    ⟨heap_alloc_new w _, hM.keep (World.grownBy_alloc _ _ none) (by simp), hMl, World.grownBy_alloc _ _ _⟩
  obtain ⟨c0, c1, c2, c3, c4⟩ := scanCells (unhide HT0).sc
  have HRR := hide hr
  have HV := hide hv
  have HMM := hide hM
  clear hr hv em ek hM
  go_enter Tryz.func82, Tryz.ntmps82
  go_wp2_with fail
  clear c0 c1 c2 c3 c4
  refine (unhide HPASS _).mono ?_
  rintro e w1 ⟨rfl, g1⟩
  have HT1 := hide ((unhide HT0).new g1)
  clear HT0 g1 HPASS
  obtain ⟨c0, c1, c2, c3, c4⟩ := scanCells (unhide HT1).sc
  go_wp2
  clear c0 c1 c2 c3 c4
  go_loopw [15] (fun iv wr => ∃ (j : Nat) (Y : List (List Int)), j ≤ vn ∧ iv = .int .i64 j ∧ Hid (Tm w wr b #[.slice vo vn vc, .int .i64 k0, .int .i64 k1, .int .i64 hi, .int .i64 lo] Y) ∧ Hid (leftComps want lo k0 (k1 + 1 - k0) (cs.take j) X = some Y)) (fun iv _ => vn - (intOf iv).toNat)
  case atStart => exact ⟨0, X, Nat.zero_le _, rfl, HT1, rfl⟩
  case round =>
    clear HT1
    obtain ⟨j, Y, hj, rfl, hT, hY⟩ := hrel
    have HR64 := hide (unhide HRL j (by omega) Y (unhide hY))
    by_cases hlt : j < vn
    · have hd : decide ((j : Int) < (vn : Int)) = true := decide_eq_true (by omega)
      have hjI : (0 : Int) ≤ (j : Int) := by omega
      obtain ⟨vb, voff, rfl, hc⟩ := (unhide HV).2 j hlt
      have hcw := (unhide hT).grown.cell hc ((unhide HMM).ne hc)
      have hin := unhide HIN (cs.getD j 0) (by rw [show cs.getD j 0 = cs[j]'(by omega) by simp [show j < cs.length by omega]]; exact List.getElem_mem _)
      have NEXT : Hid (∀ row, leftRow want lo k0 (k1 + 1 - k0) (Y.getD (cs.getD j 0).toNat []) = some row → leftComps want lo k0 (k1 + 1 - k0) (cs.take (j + 1)) X = some (Y.set (cs.getD j 0).toNat row)) := fun row h => leftComps_next j (by omega) (unhide hY) h
      have FAIL : Hid (leftRow want lo k0 (k1 + 1 - k0) (Y.getD (cs.getD j 0).toNat []) = none → r = none) := fun h => by rw [← unhide HRR]; exact leftComps_fails j (by omega) (unhide hY) h
      obtain ⟨c, hce⟩ := Int.eq_ofNat_of_zero_le hin.1
      have hcn : c < n := by have := hin.2; omega
      rw [hce] at NEXT FAIL hcw
      have ec : ((c : Int)).toNat = c := rfl
      rw [ec] at NEXT FAIL
      obtain ⟨row, HROW⟩ : ∃ row, Hid (Y.getD c [] = row) := ⟨_, rfl⟩
      have hYl := (unhide HR64).1
      have hrl : row.length = 64 := by rw [← unhide HROW]; exact (unhide HR64).2 c hcn
      rw [unhide HROW] at NEXT FAIL
      clear hin hce ec hc
      obtain ⟨d0, d1, d2, d3, d4⟩ := scanCells (unhide hT).sc
      have HZ0 := hide (heap_alloc_new wr (.cells #[.int .i64 0, .int .i64 0, .int .i64 0, .int .i64 0, .int .i64 0, .int .i64 0, .int .i64 0, .int .i64 0, .int .i64 0, .int .i64 0, .int .i64 0, .int .i64 0, .int .i64 0, .int .i64 0, .int .i64 0, .int .i64 0, .int .i64 0, .int .i64 0, .int .i64 0, .int .i64 0, .int .i64 0, .int .i64 0, .int .i64 0, .int .i64 0, .int .i64 0, .int .i64 0, .int .i64 0, .int .i64 0, .int .i64 0, .int .i64 0, .int .i64 0, .int .i64 0, .int .i64 0, .int .i64 0, .int .i64 0, .int .i64 0, .int .i64 0, .int .i64 0, .int .i64 0, .int .i64 0, .int .i64 0, .int .i64 0, .int .i64 0, .int .i64 0, .int .i64 0, .int .i64 0, .int .i64 0, .int .i64 0, .int .i64 0, .int .i64 0, .int .i64 0, .int .i64 0, .int .i64 0, .int .i64 0, .int .i64 0, .int .i64 0, .int .i64 0, .int .i64 0, .int .i64 0, .int .i64 0, .int .i64 0, .int .i64 0, .int .i64 0, .int .i64 0] 116))
      have HTA := hide ((unhide hT).new (World.grownBy_alloc wr (.cells #[.int .i64 0, .int .i64 0, .int .i64 0, .int .i64 0, .int .i64 0, .int .i64 0, .int .i64 0, .int .i64 0, .int .i64 0, .int .i64 0, .int .i64 0, .int .i64 0, .int .i64 0, .int .i64 0, .int .i64 0, .int .i64 0, .int .i64 0, .int .i64 0, .int .i64 0, .int .i64 0, .int .i64 0, .int .i64 0, .int .i64 0, .int .i64 0, .int .i64 0, .int .i64 0, .int .i64 0, .int .i64 0, .int .i64 0, .int .i64 0, .int .i64 0, .int .i64 0, .int .i64 0, .int .i64 0, .int .i64 0, .int .i64 0, .int .i64 0, .int .i64 0, .int .i64 0, .int .i64 0, .int .i64 0, .int .i64 0, .int .i64 0, .int .i64 0, .int .i64 0, .int .i64 0, .int .i64 0, .int .i64 0, .int .i64 0, .int .i64 0, .int .i64 0, .int .i64 0, .int .i64 0, .int .i64 0, .int .i64 0, .int .i64 0, .int .i64 0, .int .i64 0, .int .i64 0, .int .i64 0, .int .i64 0, .int .i64 0, .int .i64 0, .int .i64 0] 116) none))
      have hsz := (unhide hT).size
      have HLEN := hide hrl
      clear hrl
      go_wp2_with (first | (at_lookup; refine wp_lookM rfl _ _ rfl b Y c rfl rfl (unhide hT).own (by omega) (by omega) row (unhide HROW) ?_) | (refine store_row rfl 116 _ _ rfl wr.heap.size rfl (sq row) rfl #[.int .i64 0, .int .i64 0, .int .i64 0, .int .i64 0, .int .i64 0, .int .i64 0, .int .i64 0, .int .i64 0, .int .i64 0, .int .i64 0, .int .i64 0, .int .i64 0, .int .i64 0, .int .i64 0, .int .i64 0, .int .i64 0, .int .i64 0, .int .i64 0, .int .i64 0, .int .i64 0, .int .i64 0, .int .i64 0, .int .i64 0, .int .i64 0, .int .i64 0, .int .i64 0, .int .i64 0, .int .i64 0, .int .i64 0, .int .i64 0, .int .i64 0, .int .i64 0, .int .i64 0, .int .i64 0, .int .i64 0, .int .i64 0, .int .i64 0, .int .i64 0, .int .i64 0, .int .i64 0, .int .i64 0, .int .i64 0, .int .i64 0, .int .i64 0, .int .i64 0, .int .i64 0, .int .i64 0, .int .i64 0, .int .i64 0, .int .i64 0, .int .i64 0, .int .i64 0, .int .i64 0, .int .i64 0, .int .i64 0, .int .i64 0, .int .i64 0, .int .i64 0, .int .i64 0, .int .i64 0, .int .i64 0, .int .i64 0, .int .i64 0, .int .i64 0] 116 (unhide HZ0) (by rw [sq_size, unhide HLEN]; rfl) (by rw [sq_size, unhide HLEN]; kernel_rfl) (sq_one _) ?_; intro w3 hB3 g3; replace hB3 := hide hB3; replace g3 := hide g3; have HT3 := hide ((unhide HTA).wr (unhide g3) hsz); obtain ⟨f0, f1, f2, f3, f4⟩ := scanCells (unhide HT3).sc; clear d0 d1 d2 d3 d4))
      clear f0 f1 f2 f3 f4 HZ0 HTA g3 hT hcw
      obtain ⟨g, HGE⟩ : ∃ g, Hid (wr.heap.size = g) := ⟨_, rfl⟩
      rw [unhide HGE] at hB3 hsz ⊢
      clear HGE
      go_loopw [9] (fun kv wr => ∃ (m : Nat) (rr : List Int), m ≤ k1 + 1 - k0 ∧ kv = .int .i64 (k0 + m : Nat) ∧ Hid (Tm w wr b #[.slice (some ⟨vb, voff, none⟩) vn vc, .int .i64 k0, .int .i64 k1, .int .i64 hi, .int .i64 lo] Y) ∧ Hid (wr.heap[g]? = some (.cells (sq rr) 116 (0, 0))) ∧ Hid (leftRow want lo k0 m row = some rr) ∧ Hid (rr.length = 64)) (fun kv _ => k1 + 1 - (intOf kv).toNat)
      case atStart => exact ⟨0, row, Nat.zero_le _, rfl, HT3, hB3, rfl, HLEN⟩
      case round =>
        clear HT3 hB3
        obtain ⟨m, rr, hm, rfl, hT, hB, hr, hL⟩ := hrel
        obtain ⟨d0, d1, d2, d3, d4⟩ := scanCells (unhide hT).sc
        by_cases hlk : m < k1 + 1 - k0
        · have he : decide (((k0 + m : Nat) : Int) ≤ (k1 : Int)) = true := decide_eq_true (by omega)
          have p0 : (0 : Int) ≤ ((k0 + m : Nat) : Int) := by omega
          have p1 : ((k0 + m : Nat) : Int) < 64 := by omega
          have cb := sq_cell (unhide hB) (k0 + m) (by rw [unhide hL]; omega)
          obtain ⟨last, HLA⟩ : ∃ z, Hid (rr.getD (k0 + m) 0 = z) := ⟨_, rfl⟩
          rw [unhide HLA] at cb
          have RN : Hid (last = want → leftRow want lo k0 (m + 1) row = some (rr.set (k0 + m) lo)) := fun h => leftRow_next (unhide hr) (by rw [unhide HLA]; exact h)
          have RF : Hid (last ≠ want → r = none) := fun h => unhide FAIL (leftRow_fails (unhide hr) (by rw [unhide HLA]; exact h) hlk)
          obtain ⟨tk, HTK⟩ : ∃ t, Hid (decide (last = want) = t) := ⟨_, rfl⟩
          have HM1 := hide (unhide HMAY wr last)
          rw [unhide HTK] at HM1
          go_wp2_with fail
          clear d0 d1 d2 d3 d4 cb
          refine (unhide HM1).mono ?_
          rintro e w5 ⟨rfl, g5⟩
          have HT5 := hide ((unhide hT).new g5)
          have HB5 := hide (at_rowS g5 (unhide hB) (by simp))
          clear g5 hT hB HM1
          cases tk with
          | false =>
            obtain rfl := unhide RF (of_decide_eq_false (unhide HTK))
            go_wp2
            go_ret
            exact ⟨rfl, fun Y e => absurd e (by simp), (unhide HT5).grown⟩
          | true =>
            have HRW := hide (unhide RN (of_decide_eq_true (unhide HTK)))
            go_wp2_with (refine wp_bit rfl _ rfl ⟨cs, (k0 : Int), (k1 : Int), hi, lo⟩ (unhide HPV).symm ?_; intro w6 g6; have HT6 := hide ((unhide HT5).new g6); have HB6 := hide (at_rowS g6 (unhide HB5) (by simp)); clear g6; have cb := sq_cell (unhide HB6) (k0 + m) (by rw [unhide hL]; omega); have cf := sq_frozen (unhide HB6) (k0 + m))
            have hB7 := heap_setCell_same w6 g (k0 + m) _ _ (.int .i64 lo) (unhide HB6)
            rw [sq_setT] at hB7
            have HB7 := hide hB7
            have HT7 := hide ((unhide HT6).wr (grown_set w6 g (k0 + m) (.int .i64 lo)) hsz)
            have HL7 : Hid ((rr.set (k0 + m) lo).length = 64) := by unfold Hid; rw [List.length_set]; exact unhide hL
            clear hB7 cb cf HT6 HB6 HT5 HB5
            go_roundw
            case rel => exact ⟨m + 1, rr.set (k0 + m) lo, by omega, by go_num, HT7, HB7, HRW, HL7⟩
            case measure => simp [intOf]; omega
        · obtain rfl : m = k1 + 1 - k0 := by omega
          have he : decide (((k0 + (k1 + 1 - k0) : Nat) : Int) ≤ (k1 : Int)) = false := decide_eq_false (by omega)
          have HNX := hide (unhide NEXT rr (unhide hr))
          obtain ⟨Z, HZ⟩ : ∃ Z, Hid (Y.set c rr = Z) := ⟨_, rfl⟩
          rw [unhide HZ] at HNX
          go_wp2_with (first | (refine load_row rfl 116 _ rfl g rfl (sq rr) 116 (unhide hB) _ Tryz.underlying116 rfl (by rw [sq_size, unhide hL]; kernel_rfl) ?_) | (at_mapUpdate; refine wp_setM rfl _ _ _ rfl b Y c rr rfl rfl rfl (unhide hT).own (by omega) (by omega) Z (unhide HZ) ?_; intro w5 o5 g5; have HT5 := hide ((unhide hT).put o5 g5); clear o5 g5))
          clear d0 d1 d2 d3 d4
          go_roundw
          case rel => exact ⟨j + 1, Z, by omega, by go_num, HT5, HNX⟩
          case measure => simp [intOf]; omega
    · obtain rfl : j = vn := by omega
      have hd : decide ((j : Int) < (j : Int)) = false := decide_eq_false (by omega)
      have er : r = some Y := by
        rw [← unhide HRR]
        have h := unhide hY
        rw [List.take_of_length_le (by omega)] at h
        exact h
      subst er
      go_wp2
      go_ret
      exact ⟨rfl, fun Z e => by rw [← Option.some.inj e]; exact (unhide hT).own, (unhide hT).grown⟩

end Go.Proofs.YtjkokbijnaodnaaGreat

namespace Go.Proofs.YtjkokbijnaodnaaGreat
open Go.RowKit

theorem bits_pass (a : Scn) (h1 : 0 ≤ a.fr) (h2 : a.fr ≤ a.to) (h3 : a.to ≤ 63) : passB a = bitsB a := by
  unfold passB bitsB
  rw [decide_eq_true (⟨h1, h2⟩ : 0 ≤ a.fr ∧ a.fr ≤ a.to), decide_eq_true h3, Bool.true_and, Bool.true_and]
theorem pass_neq (a : Scn) (w : World) : (binOp .neq 142 (pVN a) .nilIface).run Tryz.prog w = .ok (.bool (bitsB a)) w := by
  unfold pVN
  cases h : bitsB a with
  | false => exact nilP w
  | true =>
    rw [if_pos rfl]
    unfold pV
    split
    · exact notNilP _ _ w
    · exact notNilP _ _ w
theorem pass_guard (a : Scn) (x : Operand) (w : World) : (eqGuard .neq 142 x (.const .nilIface) (pVN a) .nilIface).run Tryz.prog w = .ok () w := by
  unfold pVN
  cases h : bitsB a with
  | false => cases x <;> kernel_rfl
  | true =>
    rw [if_pos rfl]
    unfold pV
    split
    · kernel_rfl
    · kernel_rfl

set_option maxRecDepth 20000 in
set_option maxHeartbeats 1600000 in
theorem passOk (w : World) (v0 : Value) (a : Scn) (t : Bool) (HT : Hid (passB a = t)) :
    Calls Tryz.prog 103 #[scV v0 a] w fun e w' => e = .returned (.bool t) ∧ w.grownBy w' none := by
  have HP := hide (fun w => passOf w v0 a (pVN a) rfl)
  have HN := hide (fun w => pass_neq a w)
  have HE := hide (fun x w => pass_guard a x w)
  have hb := bits_pass a
  have hp : passB a = t := unhide HT
  obtain ⟨pv, HV⟩ : ∃ pv, Hid (pVN a = pv) := ⟨_, rfl⟩
  obtain ⟨bb, HBB⟩ : ∃ bb, Hid (bitsB a = bb) := ⟨_, rfl⟩
  rw [unhide HV] at HP HN HE
  rw [unhide HBB] at hb HN
  obtain ⟨cs, fr, to, hi, lo⟩ := a
  unfold scV at HP ⊢
  dsimp only at hb HP ⊢
  have HG0 : Hid (w.grownBy (w.alloc (.cells #[v0, .int .i64 fr, .int .i64 to, .int .i64 hi, .int .i64 lo] 77)) none) := World.grownBy_alloc _ _ _
  have HB0 := hide (heap_alloc_new w (.cells #[v0, .int .i64 fr, .int .i64 to, .int .i64 hi, .int .i64 lo] 77))
  obtain ⟨c0, c1, c2, c3, c4⟩ := scanCells (unhide HB0)
  have hno : ¬ (0 ≤ fr ∧ fr ≤ to) ∨ ¬ to ≤ 63 → t = false := fun h => by
    rw [← hp]
    unfold passB
    dsimp only
    rcases h with h | h
    · rw [decide_eq_false h]; rfl
    · rw [decide_eq_false h, Bool.and_false]; rfl
  have hyes : 0 ≤ fr → fr ≤ to → to ≤ 63 → t = bb := fun h1 h2 h3 => by rw [← hp]; exact hb h1 h2 h3
  have HNO := hide hno
  have HYES := hide hyes
  clear HT hp hb hno hyes HV HBB
  by_cases h1 : 0 ≤ fr
  · have d1 := decide_eq_true h1
    by_cases h2 : fr ≤ to
    · have d2 := decide_eq_true h2
      by_cases h3 : to ≤ 63
      · have d3 := decide_eq_true h3
        obtain rfl := unhide HYES h1 h2 h3
        clear HNO HYES h1 h2 h3
        have hn := fun w => unhide HN w
        have he := fun x w => unhide HE x w
        go_enter Tryz.func103, Tryz.ntmps103
        go_wp2_with fail
        refine (unhide HP _).mono ?_
        rintro e w2 ⟨rfl, g2⟩
        have HG2 := hide (grown_trans (unhide HG0) g2)
        clear g2 c0 c1 c2 c3 c4
        go_wp2
        go_ret
        exact ⟨rfl, unhide HG2⟩
      · have d3 := decide_eq_false h3
        obtain rfl := unhide HNO (.inr h3)
        clear HNO HYES h1 h2 h3
        go_enter Tryz.func103, Tryz.ntmps103
        go_wp2
        go_ret
        exact ⟨rfl, unhide HG0⟩
    · have d2 := decide_eq_false h2
      obtain rfl := unhide HNO (.inl (fun h => h2 h.2))
      clear HNO HYES h1 h2
      go_enter Tryz.func103, Tryz.ntmps103
      go_wp2
      go_ret
      exact ⟨rfl, unhide HG0⟩
  · have d1 := decide_eq_false h1
    obtain rfl := unhide HNO (.inl (fun h => h1 h.1))
    clear HNO HYES h1
    go_enter Tryz.func103, Tryz.ntmps103
    go_wp2
    go_ret
    exact ⟨rfl, unhide HG0⟩

end Go.Proofs.YtjkokbijnaodnaaGreat

namespace Go.Proofs.YtjkokbijnaodnaaGreat
open Go.RowKit

set_option maxRecDepth 20000 in
set_option maxHeartbeats 1600000 in
theorem scanOk (X : Array Value) (hs : X.size = 21) (n : Nat) (F : Hid (∀ (c : Int) (w : World), Calls Tryz.prog 112 #[.agg X, .int .i64 c] w fun e w' => e = .returned (.bool (decide (0 ≤ c ∧ c ≤ (n : Int) - 1))) ∧ w.grownBy w' none))
    (w : World) (vo : Option Addr) (vn vc : Nat) (a : Scn) (hv : Rd .i64 w vo vn a.cs) (hvn : vn ≤ 4194304) (t : Bool) (HT : Hid ((okComps n a.cs && passB a) = t)) :
    Calls Tryz.prog 81 #[.agg X, scV (.slice vo vn vc) a] w fun e w' => e = .returned (.bool t) ∧ w.grownBy w' none := by
  obtain ⟨b3, HB3⟩ : ∃ b, Hid (passB a = b) := ⟨_, rfl⟩
  obtain ⟨b2, HB2⟩ : ∃ b, Hid (okComps n a.cs = b) := ⟨_, rfl⟩
  have HP := hide (fun w => passOk w (.slice vo vn vc) a b3 HB3)
  have HC := hide (fun W (g : w.grownBy W none) => hasComps X hs n F vo vn vc a.cs W (hv.grown g) hvn)
  rw [unhide HB2] at HC
  have hp := unhide HT
  rw [unhide HB2, unhide HB3] at hp
  obtain ⟨cs, fr, to, hi, lo⟩ := a
  unfold scV at HP ⊢
  dsimp only at hv HP ⊢
  have HG0 : Hid (w.grownBy ((w.alloc (.cells X 83)).alloc (.cells #[.slice vo vn vc, .int .i64 fr, .int .i64 to, .int .i64 hi, .int .i64 lo] 77)) none) := grown_alloc (grown_alloc (World.grownBy.refl _ _) _) _
  have HB0 : Hid (((w.alloc (.cells X 83)).alloc (.cells #[.slice vo vn vc, .int .i64 fr, .int .i64 to, .int .i64 hi, .int .i64 lo] 77)).heap[w.heap.size]? = some (.cells X 83 (0, 0))) := at_rowS (World.grownBy_alloc _ _ none) (heap_alloc_new w _) (by simp)
  have HB1 : Hid (((w.alloc (.cells X 83)).alloc (.cells #[.slice vo vn vc, .int .i64 fr, .int .i64 to, .int .i64 hi, .int .i64 lo] 77)).heap[w.heap.size + 1]? = some (.cells #[.slice vo vn vc, .int .i64 fr, .int .i64 to, .int .i64 hi, .int .i64 lo] 77 (0, 0))) := by
    have := heap_alloc_new (w.alloc (.cells X 83)) (.cells #[.slice vo vn vc, .int .i64 fr, .int .i64 to, .int .i64 hi, .int .i64 lo] 77)
    unfold Hid
    simpa using this
  obtain ⟨W2, HW2⟩ : ∃ W2, Hid (((w.alloc (.cells X 83)).alloc (.cells #[.slice vo vn vc, .int .i64 fr, .int .i64 to, .int .i64 hi, .int .i64 lo] 77)) = W2) := ⟨_, rfl⟩
  rw [unhide HW2] at HG0 HB0 HB1
  obtain ⟨c0, c1, c2, c3, c4⟩ := scanCells (unhide HB1)
  have HS := hide hs
  clear hv HT F hs
  go_enter Tryz.func81, Tryz.ntmps81
  go_wp2_with (rw [unhide HW2]; refine wpList_load_row rfl 83 _ rfl w.heap.size rfl X 83 (unhide HB0) _ Tryz.underlying83 rfl (by rw [unhide HS]; kernel_rfl) ?_)
  clear HW2
  refine (unhide HC _ (unhide HG0)).mono ?_
  rintro e w3 ⟨rfl, g3⟩
  have HG3 := hide (grown_trans (unhide HG0) g3)
  have hB3 := at_rowS g3 (unhide HB1) (by simp)
  clear c0 c1 c2 c3 c4 g3
  cases b2 with
  | false =>
    obtain rfl : t = false := by rw [← hp]; rfl
    clear hB3
    go_wp2
    go_ret
    exact ⟨rfl, unhide HG3⟩
  | true =>
    obtain rfl : t = b3 := by rw [← hp]; rfl
    obtain ⟨c0, c1, c2, c3, c4⟩ := scanCells hB3
    clear hB3
    go_wp2_with fail
    refine (unhide HP _).mono ?_
    rintro e w4 ⟨rfl, g4⟩
    have HG4 := hide (grown_trans (unhide HG3) g4)
    clear g4 c0 c1 c2 c3 c4
    go_wp2
    go_ret
    exact ⟨rfl, unhide HG4⟩

end Go.Proofs.YtjkokbijnaodnaaGreat

namespace Go.Proofs.YtjkokbijnaodnaaGreat
open Go.RowKit

/-- What a frame that was fixed tells of scans. -/
def TellsOk (X : Array Value) (fb : Bool) (n : Nat) : Prop := ∀ (w : World) (vo : Option Addr) (vn vc : Nat) (a : Scn), Rd .i64 w vo vn a.cs → vn ≤ 4194304 → ∀ t, Hid (scanB fb n a = t) →
    Calls Tryz.prog 81 #[.agg X, scV (.slice vo vn vc) a] w fun e w' => e = .returned (.bool t) ∧ w.grownBy w' none
theorem okComps_none (cs : List Int) : okComps 0 cs = false := by
  cases hk : okComps 0 cs with
  | false => rfl
  | true =>
    simp only [okComps, Bool.and_eq_true, decide_eq_true_eq] at hk
    have := compsTo_len hk.1
    omega
theorem tells_of {X : Array Value} {p wd ht rs : Int} {n : Nat} {C : Nat → Nat → Int} {b : Bool} (HFB : Hid (frameB p wd ht rs n C = b)) (h1 : b = false → X = #[.int .i64 0, .int .i64 0, .int .i64 0, .int .i64 0, .int .i64 0, .int .i64 0, .int .i64 0, .int .i64 0, .int .i64 0, .int .i64 0, .int .i64 0, .int .i64 0, .int .i64 0, .int .i64 0, .int .i64 0, .int .i64 0, .int .i64 0, .int .i64 0, .int .i64 0, .int .i64 0, .int .i64 0]) (h2 : b = true → ∃ D, Fx X p wd ht rs n D ∧ ∀ i, i < n → D i = C i) : TellsOk X b n := by
  intro w vo vn vc a hv hvn t HT
  cases b with
  | false =>
    obtain rfl := h1 rfl
    have e : t = false := by rw [← unhide HT]; rfl
    subst e
    exact scanOk #[.int .i64 0, .int .i64 0, .int .i64 0, .int .i64 0, .int .i64 0, .int .i64 0, .int .i64 0, .int .i64 0, .int .i64 0, .int .i64 0, .int .i64 0, .int .i64 0, .int .i64 0, .int .i64 0, .int .i64 0, .int .i64 0, .int .i64 0, .int .i64 0, .int .i64 0, .int .i64 0, .int .i64 0] rfl 0 (fun c w => (hasComp_none c w).mono (fun e w' h => by rw [show decide (0 ≤ c ∧ c ≤ ((0 : Nat) : Int) - 1) = false from decide_eq_false (by omega)]; exact h)) w vo vn vc a hv hvn false (by unfold Hid; rw [okComps_none]; rfl)
  | true =>
    obtain ⟨D, hF, hD⟩ := h2 rfl
    have hn4 := (geo_of (unhide HFB)).n4
    exact scanOk X hF.size n (fun c w => hasComp X p wd ht rs n D hF hn4 c _ rfl w) w vo vn vc a hv hvn t (by unfold Hid; rw [← unhide HT]; unfold scanB; rw [Bool.true_and])

end Go.Proofs.YtjkokbijnaodnaaGreat

namespace Go.Proofs.YtjkokbijnaodnaaGreat
open Go.RowKit

/-- A frame in its box beside the map. -/
structure Lq (w wr : World) (X : Array Value) (b : Nat) (Y : List (List Int)) : Prop where
  fr : wr.heap[w.heap.size]? = some (.cells X 83 (0, 0))
  own : OwM wr b Y
  lo : w.heap.size + 1 ≤ b
  grown : w.grownBy wr none
theorem Lq.size {w wr : World} {X : Array Value} {b : Nat} {Y : List (List Int)} (h : Lq w wr X b Y) : w.heap.size + 1 ≤ wr.heap.size := (Array.getElem?_eq_some_iff.1 h.fr).1
theorem Lq.new {w wr w' : World} {X : Array Value} {b : Nat} {Y : List (List Int)} (h : Lq w wr X b Y) (g : wr.grownBy w' none) : Lq w w' X b Y :=
  ⟨at_rowS g h.fr (by simp), h.own.keep g (by simp), h.lo, grown_trans h.grown g⟩
theorem Lq.put {w wr w' : World} {X : Array Value} {b : Nat} {Y Z : List (List Int)} (h : Lq w wr X b Y) (o : OwM w' b Z) (g : wr.grownBy w' (some b)) : Lq w w' X b Z :=
  ⟨at_rowS g h.fr (fun e => by injection e with e; have := h.lo; omega), o, h.lo, grown_new h.grown g (fun x e => by injection e with e; have := h.lo; omega)⟩

set_option maxRecDepth 20000 in
set_option maxHeartbeats 6400000 in
theorem leftOf_no (v : Value) (w : World) :
    Calls Tryz.prog 70 #[.agg #[.int .i64 0, .int .i64 0, .int .i64 0, .int .i64 0, .int .i64 0, .int .i64 0, .int .i64 0, .int .i64 0, .int .i64 0, .int .i64 0, .int .i64 0, .int .i64 0, .int .i64 0, .int .i64 0, .int .i64 0, .int .i64 0, .int .i64 0, .int .i64 0, .int .i64 0, .int .i64 0, .int .i64 0], v] w fun e w' => e = .returned (.tuple #[.map none, .bool false]) ∧ w.grownBy w' none := by
  obtain ⟨X, HX⟩ : ∃ X : Array Value, Hid (#[.int .i64 0, .int .i64 0, .int .i64 0, .int .i64 0, .int .i64 0, .int .i64 0, .int .i64 0, .int .i64 0, .int .i64 0, .int .i64 0, .int .i64 0, .int .i64 0, .int .i64 0, .int .i64 0, .int .i64 0, .int .i64 0, .int .i64 0, .int .i64 0, .int .i64 0, .int .i64 0, .int .i64 0] = X) := ⟨_, rfl⟩
  have HN := hide (fun W => isNone_yes W)
  have HS : Hid (X.size = 21) := by unfold Hid; rw [← unhide HX]; rfl
  rw [unhide HX] at HN ⊢
  clear HX
  have HB0 := hide (heap_alloc_new w (.cells X 83))
  go_enter Tryz.func70, Tryz.ntmps70
  go_wp2_with (refine wpList_load_row rfl 83 _ rfl w.heap.size rfl X 83 (unhide HB0) _ Tryz.underlying83 rfl (by rw [unhide HS]; kernel_rfl) ?_)
  refine (unhide HN _).mono ?_
  rintro e w1 ⟨rfl, g1⟩
  have HG1 := hide (grown_trans (World.grownBy_alloc w (.cells X 83) none) g1)
  clear g1
  go_wp2
  refine bodyPost_ret (v := .tuple #[.map none, .bool false]) (by simp [results, Tryz.results70, go_sem]) rfl ⟨rfl, unhide HG1⟩

set_option maxRecDepth 20000 in
set_option maxHeartbeats 6400000 in
theorem leftOf_yes (X : Array Value) (p wd ht rs : Int) (n : Nat) (D : Nat → Nat → Int) (hF : Fx X p wd ht rs n D) (hp : (p == 0) = false) (hn : n ≤ 4) (HTO : TellsOk X true n) (v : Value) (S : List Scn) (w : World) (hS : RdSs w v S) (hcs : ∀ a ∈ S, a.cs.length ≤ 4194304) (hSl : S.length ≤ 4194304) (r : Option (List (List Int))) (HR : Hid (leftO true n S = r)) :
    Calls Tryz.prog 70 #[.agg X, v] w fun e w' => ∃ mv, e = .returned (.tuple #[mv, .bool r.isSome]) ∧ (∀ Y, r = some Y → ∃ b, mv = .map (some b) ∧ w.heap.size ≤ b ∧ OwM w' b Y) ∧ w.grownBy w' none := by
  have HS := hide hF.size
  have h4 := hF.c4
  have HNO := hide (fun W => isNone_no X p wd ht rs n D hF hp W)
  obtain ⟨vo, vc, rfl, hSr⟩ := hS
  have hr := unhide HR
  unfold leftO at hr
  rw [Bool.true_and] at hr
  have HB0 := hide (heap_alloc_new w (.cells X 83))
  have HG0 : Hid (w.grownBy (w.alloc (.cells X 83)) none) := World.grownBy_alloc _ _ _
  have HSR := hide hSr
  have HCS := hide hcs
  have HX4 : Hid (X[4]? = some (.int .i64 n)) := h4
  clear hSr hcs hF h4 HR
  go_enter Tryz.func70, Tryz.ntmps70
  go_wp2_with (refine wpList_load_row rfl 83 _ rfl w.heap.size rfl X 83 (unhide HB0) _ Tryz.underlying83 rfl (by rw [unhide HS]; kernel_rfl) ?_)
  refine (unhide HNO _).mono ?_
  rintro e w1 ⟨rfl, g1⟩
  have HG1 := hide (grown_trans (unhide HG0) g1)
  have HB1 := hide (at_rowS g1 (unhide HB0) (by simp))
  clear g1 HG0 HB0 HNO
  by_cases h40 : S.length ≤ 40
  · have hgt : decide ((40 : Int) < (S.length : Int)) = false := decide_eq_false (by omega)
    rw [if_pos (decide_eq_true h40)] at hr
    have HRR := hide hr
    have c4 : w1.cell? ⟨w.heap.size, 4, none⟩ = some (.int .i64 n) := by rw [cell_of_row w1 _ 4 _ _ (0, 0) (unhide HB1)]; exact unhide HX4
    clear hr
    go_wp2_with fail
    clear c4
    refine (nothingTold n hn _).mono ?_
    rintro e w2 ⟨b, rfl, hb2, o2, g2⟩
    have HL2 : Hid (Lq w w2 X b (nothing n)) := ⟨at_rowS g2 (unhide HB1) (by simp), o2, by have := (Array.getElem?_eq_some_iff.1 (unhide HB1)).1; omega, grown_trans (unhide HG1) g2⟩
    clear HG1 HB1 hb2 o2 g2 hgt
    go_wp2
    go_loopw [21] (fun iv wr => ∃ (i : Nat) (Y : List (List Int)), i ≤ S.length ∧ iv = .int .i64 i ∧ Hid (Lq w wr X b Y) ∧ Hid (leftAll true n (S.take i) (nothing n) = some Y)) (fun iv _ => S.length - (intOf iv).toNat)
    case atStart => exact ⟨0, _, Nat.zero_le _, rfl, HL2, rfl⟩
    case round =>
      clear HL2
      obtain ⟨i, Y, hi, rfl, hf, hY⟩ := hrel
      by_cases hlt : i < S.length
      · have hltI : decide ((i : Int) < (S.length : Int)) = true := decide_eq_true (by omega)
        have hltJ : (i : Int) < (S.length : Int) := by omega
        have i0 : (0 : Int) ≤ (i : Int) := by omega
        obtain ⟨sb, soff, cf, rfl, hcell, hsc, hrd⟩ := unhide HSR i hlt
        obtain ⟨a, HA⟩ : ∃ a, Hid (S.getD i Scn.zero = a) := ⟨_, rfl⟩
        have ea : S[i] = a := by rw [← unhide HA]; simp [hlt]
        have hcl := unhide HCS S[i] (List.getElem_mem hlt)
        have NEXT : Hid (∀ Z, scanB true n a = true → leftScan a Y = some Z → leftAll true n (S.take (i + 1)) (nothing n) = some Z) := fun Z h1 h2 => leftAll_next i hlt (unhide hY) (by rw [ea]; exact h1) (by rw [ea]; exact h2)
        have FAIL : Hid (scanB true n a = false ∨ leftScan a Y = none → r = none) := fun h => by rw [← unhide HRR]; exact leftAll_fails i hlt (unhide hY) (by rw [ea]; exact h)
        have HR64 := hide (leftAll_step _ _ Y (nothing_rows n) (unhide hY)).1
        rw [ea] at hsc hrd hcl
        clear ea HA
        obtain ⟨cs, fr, to, hi', lo⟩ := a
        obtain ⟨co, cc, ec, hrc⟩ := hrd
        dsimp only at hsc hrc hcl ec
        obtain ⟨cn, HCN⟩ : ∃ cn, Hid (cs.length = cn) := ⟨_, rfl⟩
        rw [unhide HCN] at ec hrc hcl
        obtain ⟨k0, k1, k2, k3, k4⟩ := rowScan (fun j hj => (unhide hf).grown.cell (hcell j hj) (by simp)) hsc
        rw [ec] at k0
        dsimp only at k1 k2 k3 k4
        have HS5 := hide (heap_alloc_new wr (.cells #[.slice co cn cc, .int .i64 fr, .int .i64 to, .int .i64 hi', .int .i64 lo] 77))
        have HF5 := hide ((unhide hf).new (World.grownBy_alloc wr (.cells #[.slice co cn cc, .int .i64 fr, .int .i64 to, .int .i64 hi', .int .i64 lo] 77) none))
        obtain ⟨s0, s1, s2, s3, s4⟩ := scanCells (unhide HS5)
        have HRC := hide hrc
        obtain ⟨t, HT⟩ : ∃ t, Hid (scanB true n ⟨cs, fr, to, hi', lo⟩ = t) := ⟨_, rfl⟩
        have HSC := hide (fun W (g : w.grownBy W none) => HTO W co cn cc ⟨cs, fr, to, hi', lo⟩ ((unhide HRC).grown g) hcl t HT)
        unfold scV at HSC
        dsimp only at HSC
        clear hcell hsc hrc ec
        go_wp2_with (refine wpList_load_row rfl 83 _ rfl w.heap.size rfl X 83 (unhide HF5).fr _ Tryz.underlying83 rfl (by rw [unhide HS]; kernel_rfl) ?_)
        clear s0 s1 s2 s3 s4 k0 k1 k2 k3 k4
        refine (unhide HSC _ (unhide HF5).grown).mono ?_
        rintro e w6 ⟨rfl, g6⟩
        have HF6 := hide ((unhide HF5).new g6)
        have HS6 := hide (at_rowS g6 (unhide HS5) (by simp))
        clear HF5 HS5 g6 HSC hf
        obtain ⟨s0, s1, s2, s3, s4⟩ := scanCells (unhide HS6)
        cases t with
        | false =>
          obtain rfl := unhide FAIL (.inl (unhide HT))
          go_wp2
          refine bodyPost_ret (v := .tuple #[.map none, .bool false]) (by simp [results, Tryz.results70, go_sem]) rfl ⟨_, rfl, fun Y e => absurd e (by simp), (unhide HF6).grown⟩
        | true =>
          obtain ⟨q, HQ⟩ : ∃ q, Hid (leftScan ⟨cs, fr, to, hi', lo⟩ Y = q) := ⟨_, rfl⟩
          have HTL := hide (tell n hn Y (unhide HR64) b co cn cc ⟨cs, fr, to, hi', lo⟩ w6 ((unhide HRC).grown (unhide HF6).grown) hcl (unhide HF6).own (unhide HT) q HQ)
          unfold scV at HTL
          dsimp only at HTL
          go_wp2_with fail
          clear s0 s1 s2 s3 s4
          refine (unhide HTL).mono ?_
          rintro e w7 ⟨rfl, o7, g7⟩
          have HO7 := hide o7
          have HG7 := hide g7
          clear HTL o7 g7
          cases q with
          | none =>
            obtain rfl := unhide FAIL (.inr (unhide HQ))
            have HGG := hide (grown_new (unhide HF6).grown (unhide HG7) (fun x e => by injection e with e; have := (unhide HF6).lo; omega))
            go_wp2
            refine bodyPost_ret (v := .tuple #[.map none, .bool false]) (by simp [results, Tryz.results70, go_sem]) rfl ⟨_, rfl, fun Y e => absurd e (by simp), unhide HGG⟩
          | some Z =>
            have HF7 := hide ((unhide HF6).put (unhide HO7 Z rfl) (unhide HG7))
            have HNX := hide (unhide NEXT Z (unhide HT) (unhide HQ))
            clear HF6 HO7 HG7
            go_wp2
            go_roundw
            case rel => exact ⟨i + 1, Z, by omega, by go_num, HF7, HNX⟩
            case measure => simp [intOf]; omega
      · obtain rfl : i = S.length := by omega
        have hltI : decide ((S.length : Int) < (S.length : Int)) = false := decide_eq_false (by omega)
        have er : r = some Y := by
          rw [← unhide HRR]
          have h := unhide hY
          rw [List.take_of_length_le (Nat.le_refl _)] at h
          exact h
        subst er
        go_wp2
        refine bodyPost_ret (v := .tuple #[.map (some b), .bool true]) (by simp [results, Tryz.results70, go_sem]) rfl ⟨_, rfl, fun Z e => ⟨b, rfl, by have := (unhide hf).lo; omega, by rw [← Option.some.inj e]; exact (unhide hf).own⟩, (unhide hf).grown⟩
  · have hgt : decide ((40 : Int) < (S.length : Int)) = true := decide_eq_true (by omega)
    rw [if_neg (by rw [decide_eq_false h40]; simp)] at hr
    subst hr
    go_wp2
    refine bodyPost_ret (v := .tuple #[.map none, .bool false]) (by simp [results, Tryz.results70, go_sem]) rfl ⟨_, rfl, fun Y e => absurd e (by simp), unhide HG1⟩

end Go.Proofs.YtjkokbijnaodnaaGreat

namespace Go.Proofs.YtjkokbijnaodnaaGreat
open Go.RowKit

theorem zero_row {c : List Int} (hc : c.length = 64) : (c == zs64) = c.all (fun x => x == 0) := by
  rw [Bool.eq_iff_iff, beq_iff_eq, List.all_eq_true]
  constructor
  · intro e x hx
    rw [e] at hx
    unfold zs64 at hx
    rw [(List.mem_replicate.1 hx).2]
    rfl
  · intro h
    unfold zs64
    exact List.eq_replicate_iff.2 ⟨hc, fun x hx => by simpa using h x hx⟩

set_option maxRecDepth 20000 in
set_option maxHeartbeats 6400000 in
theorem allTold (Y : List (List Int)) (h64 : ∀ c, c < Y.length → (Y.getD c []).length = 64) (b : Nat) (w : World) (hM : OwM w b Y) (t : Bool) (HT : Hid (Y.all (fun row => row.all (fun x => x == 0)) = t)) :
    Calls Tryz.prog 71 #[.map (some b)] w fun e w' => e = .returned (.bool t) ∧ w.grownBy w' none := by
  obtain ⟨D, nn, hown, hs, hat, hhas⟩ := hM
  have HOWN := hide hown
  have HAT := hide hat
  have HHAS := hide hhas
  have hbw := hown.lt
  have H64 := hide h64
  clear hown hat hhas hs h64
  go_enter Tryz.func71, Tryz.ntmps71
  go_wp2_with (at_range; refine wpList_range_own _ rfl _ 109 rfl 3 116 keyedN Tryz.underlying109 sqR b nn D rfl (unhide HOWN) ?_; intro w0 hrg0 hg0 hs0; replace hrg0 := hide hrg0; replace hg0 := hide hg0)
  go_frame
  go_loopw [7] (fun _ wr => ∃ left cnt, Hid (wr.ranges Tryz.prog 3 sqR b w.heap.size nn D left cnt) ∧ Hid (∀ kl, left kl = true → ∃ i, i < Y.length ∧ kl = keyN i) ∧ Hid (∀ i, i < Y.length → left (keyN i) = false → (Y.getD i []).all (fun x => x == 0) = true) ∧ Hid (w.grownBy wr none)) (fun _ wr => wr.rangeLeft b w.heap.size)
  case atStart =>
    refine ⟨_, _, hrg0, HHAS, fun i hi h => ?_, hg0⟩
    rw [Maps.has_true_of_atKey (unhide HAT i hi)] at h
    cases h
  case round =>
    clear hrg0 hg0
    obtain ⟨left, cnt, hrg, hin, hdn, hG⟩ := hrel
    go_wp2_with (at_next; refine wpList_next_ranges _ rfl _ rfl 3 keyedN sqR (Value.int .i64) (fun c => .agg (sq c)) (fun key kl hkey => by obtain ⟨x, rfl, _⟩ := Maps.keyOf_int_inv Tryz.underlying3 hkey; exact ⟨x, rfl⟩) (fun v y hv => by obtain ⟨c, rfl, _⟩ := sqR_inv hv; exact ⟨c, rfl⟩) b w.heap.size nn D left cnt rfl (unhide hrg) ?_ ?_)
    · intro _ hl0
      have et : t = true := by
        rw [← unhide HT, List.all_eq_true]
        intro row hr
        obtain ⟨i, hi, rfl⟩ := List.getElem_of_mem hr
        have := unhide hdn i hi (hl0 _)
        rw [show Y.getD i [] = Y[i] by simp [hi]] at this
        exact this
      subst et
      clear hl0
      go_wp2
      go_ret
      exact ⟨rfl, unhide hG⟩
    · intro x c kl y ps w1 cnt1 hkey hlk hv hat1 hrg1 hlt hg1 hs1 hen
      obtain ⟨i, hi, rfl⟩ := unhide hin kl hlk
      have hc : c = Y.getD i [] := by
        have h1 := unhide HAT i hi (.map [])
        rw [hat1] at h1
        rw [sqR_mk] at hv
        have h2 := congrArg Prod.fst (Option.some.inj hv)
        exact datRow_inj (h2.trans h1)
      have hcl : c.length = 64 := by rw [hc]; exact unhide H64 i hi
      obtain ⟨z, HZ⟩ : ∃ z, Hid ((c == zs64) = z) := ⟨_, rfl⟩
      have hsq : ∀ w, (Op.equalIn 10000 116 (.agg (sq c)) (.agg #[.int .i64 0, .int .i64 0, .int .i64 0, .int .i64 0, .int .i64 0, .int .i64 0, .int .i64 0, .int .i64 0, .int .i64 0, .int .i64 0, .int .i64 0, .int .i64 0, .int .i64 0, .int .i64 0, .int .i64 0, .int .i64 0, .int .i64 0, .int .i64 0, .int .i64 0, .int .i64 0, .int .i64 0, .int .i64 0, .int .i64 0, .int .i64 0, .int .i64 0, .int .i64 0, .int .i64 0, .int .i64 0, .int .i64 0, .int .i64 0, .int .i64 0, .int .i64 0, .int .i64 0, .int .i64 0, .int .i64 0, .int .i64 0, .int .i64 0, .int .i64 0, .int .i64 0, .int .i64 0, .int .i64 0, .int .i64 0, .int .i64 0, .int .i64 0, .int .i64 0, .int .i64 0, .int .i64 0, .int .i64 0, .int .i64 0, .int .i64 0, .int .i64 0, .int .i64 0, .int .i64 0, .int .i64 0, .int .i64 0, .int .i64 0, .int .i64 0, .int .i64 0, .int .i64 0, .int .i64 0, .int .i64 0, .int .i64 0, .int .i64 0, .int .i64 0])).run Tryz.prog w = .ok z w := fun w => by rw [← sq_z64, eqSq hcl zs64_len w, unhide HZ]
      have HRG := hide hrg1
      have HG1 := hide (grown_new (unhide hG) hg1 (fun x e => by injection e with e; omega))
      have HCL := hide hcl
      have HC := hide hc
      have HZ0 := hide (heap_alloc_new w1 (.cells #[.int .i64 0, .int .i64 0, .int .i64 0, .int .i64 0, .int .i64 0, .int .i64 0, .int .i64 0, .int .i64 0, .int .i64 0, .int .i64 0, .int .i64 0, .int .i64 0, .int .i64 0, .int .i64 0, .int .i64 0, .int .i64 0, .int .i64 0, .int .i64 0, .int .i64 0, .int .i64 0, .int .i64 0, .int .i64 0, .int .i64 0, .int .i64 0, .int .i64 0, .int .i64 0, .int .i64 0, .int .i64 0, .int .i64 0, .int .i64 0, .int .i64 0, .int .i64 0, .int .i64 0, .int .i64 0, .int .i64 0, .int .i64 0, .int .i64 0, .int .i64 0, .int .i64 0, .int .i64 0, .int .i64 0, .int .i64 0, .int .i64 0, .int .i64 0, .int .i64 0, .int .i64 0, .int .i64 0, .int .i64 0, .int .i64 0, .int .i64 0, .int .i64 0, .int .i64 0, .int .i64 0, .int .i64 0, .int .i64 0, .int .i64 0, .int .i64 0, .int .i64 0, .int .i64 0, .int .i64 0, .int .i64 0, .int .i64 0, .int .i64 0, .int .i64 0] 116))
      have HLT := hide hlt
      clear hkey hlk hv hat1 hrg1 hg1 hcl hc hlt
      have hws : w.heap.size < w1.heap.size := (unhide HRG).lt
      have HGA := hide (grown_alloc (unhide HG1) (.cells #[.int .i64 0, .int .i64 0, .int .i64 0, .int .i64 0, .int .i64 0, .int .i64 0, .int .i64 0, .int .i64 0, .int .i64 0, .int .i64 0, .int .i64 0, .int .i64 0, .int .i64 0, .int .i64 0, .int .i64 0, .int .i64 0, .int .i64 0, .int .i64 0, .int .i64 0, .int .i64 0, .int .i64 0, .int .i64 0, .int .i64 0, .int .i64 0, .int .i64 0, .int .i64 0, .int .i64 0, .int .i64 0, .int .i64 0, .int .i64 0, .int .i64 0, .int .i64 0, .int .i64 0, .int .i64 0, .int .i64 0, .int .i64 0, .int .i64 0, .int .i64 0, .int .i64 0, .int .i64 0, .int .i64 0, .int .i64 0, .int .i64 0, .int .i64 0, .int .i64 0, .int .i64 0, .int .i64 0, .int .i64 0, .int .i64 0, .int .i64 0, .int .i64 0, .int .i64 0, .int .i64 0, .int .i64 0, .int .i64 0, .int .i64 0, .int .i64 0, .int .i64 0, .int .i64 0, .int .i64 0, .int .i64 0, .int .i64 0, .int .i64 0, .int .i64 0] 116))
      have HRA := hide ((unhide HRG).alloc (.cells #[.int .i64 0, .int .i64 0, .int .i64 0, .int .i64 0, .int .i64 0, .int .i64 0, .int .i64 0, .int .i64 0, .int .i64 0, .int .i64 0, .int .i64 0, .int .i64 0, .int .i64 0, .int .i64 0, .int .i64 0, .int .i64 0, .int .i64 0, .int .i64 0, .int .i64 0, .int .i64 0, .int .i64 0, .int .i64 0, .int .i64 0, .int .i64 0, .int .i64 0, .int .i64 0, .int .i64 0, .int .i64 0, .int .i64 0, .int .i64 0, .int .i64 0, .int .i64 0, .int .i64 0, .int .i64 0, .int .i64 0, .int .i64 0, .int .i64 0, .int .i64 0, .int .i64 0, .int .i64 0, .int .i64 0, .int .i64 0, .int .i64 0, .int .i64 0, .int .i64 0, .int .i64 0, .int .i64 0, .int .i64 0, .int .i64 0, .int .i64 0, .int .i64 0, .int .i64 0, .int .i64 0, .int .i64 0, .int .i64 0, .int .i64 0, .int .i64 0, .int .i64 0, .int .i64 0, .int .i64 0, .int .i64 0, .int .i64 0, .int .i64 0, .int .i64 0] 116))
      have hbr := (unhide HRG).owns.lt
      clear hs1
      cases z with
      | false =>
        have et : t = false := by
          have h1 := unhide HZ
          rw [zero_row (unhide HCL), unhide HC] at h1
          rw [← unhide HT]
          cases h2 : Y.all (fun row => row.all (fun x => x == 0)) with
          | false => rfl
          | true =>
            have h3 := List.all_eq_true.1 h2 (Y.getD i []) (by rw [show Y.getD i [] = Y[i] by simp [hi]]; exact List.getElem_mem hi)
            rw [h3] at h1
            cases h1
        subst et
        go_wp2_with (first | (refine store_row rfl 116 _ _ rfl w1.heap.size rfl (sq c) rfl #[.int .i64 0, .int .i64 0, .int .i64 0, .int .i64 0, .int .i64 0, .int .i64 0, .int .i64 0, .int .i64 0, .int .i64 0, .int .i64 0, .int .i64 0, .int .i64 0, .int .i64 0, .int .i64 0, .int .i64 0, .int .i64 0, .int .i64 0, .int .i64 0, .int .i64 0, .int .i64 0, .int .i64 0, .int .i64 0, .int .i64 0, .int .i64 0, .int .i64 0, .int .i64 0, .int .i64 0, .int .i64 0, .int .i64 0, .int .i64 0, .int .i64 0, .int .i64 0, .int .i64 0, .int .i64 0, .int .i64 0, .int .i64 0, .int .i64 0, .int .i64 0, .int .i64 0, .int .i64 0, .int .i64 0, .int .i64 0, .int .i64 0, .int .i64 0, .int .i64 0, .int .i64 0, .int .i64 0, .int .i64 0, .int .i64 0, .int .i64 0, .int .i64 0, .int .i64 0, .int .i64 0, .int .i64 0, .int .i64 0, .int .i64 0, .int .i64 0, .int .i64 0, .int .i64 0, .int .i64 0, .int .i64 0, .int .i64 0, .int .i64 0, .int .i64 0] 116 (unhide HZ0) (by rw [sq_size, unhide HCL]; rfl) (by rw [sq_size, unhide HCL]; kernel_rfl) (sq_one _) ?_; intro w3 hB3 g3; replace hB3 := hide hB3; replace g3 := hide g3; have HG3 := hide (grown_new (unhide HGA) (unhide g3) (fun x e => by injection e with e; omega)); have HR3 := hide ((unhide HRA).kept (unhide g3) (fun e => by injection e with e; omega) (fun e => by injection e with e; omega))) | (refine load_row rfl 116 _ rfl w1.heap.size rfl (sq c) 116 (unhide hB3) _ Tryz.underlying116 rfl (by rw [sq_size, unhide HCL]; kernel_rfl) ?_))
        go_ret
        exact ⟨rfl, unhide HG3⟩
      | true =>
        have hzr : c.all (fun x => x == 0) = true := by rw [← zero_row (unhide HCL)]; exact unhide HZ
        have HDN : Hid (∀ j, j < Y.length → (fun x => left x && !x.sameKey (keyN i)) (keyN j) = false → (Y.getD j []).all (fun x => x == 0) = true) := fun j hj h => by
          by_cases e : j = i
          · subst e
            rw [← unhide HC]
            exact hzr
          · refine unhide hdn j hj ?_
            have : (keyN j).sameKey (keyN i) = false := Maps.sameKey_ne (fun h => e (keyN_inj h))
            simp only [this, Bool.not_false, Bool.and_true] at h
            exact h
        have HIN : Hid (∀ kl, (fun x => left x && !x.sameKey (keyN i)) kl = true → ∃ i, i < Y.length ∧ kl = keyN i) := fun kl h => unhide hin kl (by simp only [Bool.and_eq_true] at h; exact h.1)
        clear hzr
        go_wp2_with (first | (refine store_row rfl 116 _ _ rfl w1.heap.size rfl (sq c) rfl #[.int .i64 0, .int .i64 0, .int .i64 0, .int .i64 0, .int .i64 0, .int .i64 0, .int .i64 0, .int .i64 0, .int .i64 0, .int .i64 0, .int .i64 0, .int .i64 0, .int .i64 0, .int .i64 0, .int .i64 0, .int .i64 0, .int .i64 0, .int .i64 0, .int .i64 0, .int .i64 0, .int .i64 0, .int .i64 0, .int .i64 0, .int .i64 0, .int .i64 0, .int .i64 0, .int .i64 0, .int .i64 0, .int .i64 0, .int .i64 0, .int .i64 0, .int .i64 0, .int .i64 0, .int .i64 0, .int .i64 0, .int .i64 0, .int .i64 0, .int .i64 0, .int .i64 0, .int .i64 0, .int .i64 0, .int .i64 0, .int .i64 0, .int .i64 0, .int .i64 0, .int .i64 0, .int .i64 0, .int .i64 0, .int .i64 0, .int .i64 0, .int .i64 0, .int .i64 0, .int .i64 0, .int .i64 0, .int .i64 0, .int .i64 0, .int .i64 0, .int .i64 0, .int .i64 0, .int .i64 0, .int .i64 0, .int .i64 0, .int .i64 0, .int .i64 0] 116 (unhide HZ0) (by rw [sq_size, unhide HCL]; rfl) (by rw [sq_size, unhide HCL]; kernel_rfl) (sq_one _) ?_; intro w3 hB3 g3; replace hB3 := hide hB3; replace g3 := hide g3; have HG3 := hide (grown_new (unhide HGA) (unhide g3) (fun x e => by injection e with e; omega)); have HR3 := hide ((unhide HRA).kept (unhide g3) (fun e => by injection e with e; omega) (fun e => by injection e with e; omega))) | (refine load_row rfl 116 _ rfl w1.heap.size rfl (sq c) 116 (unhide hB3) _ Tryz.underlying116 rfl (by rw [sq_size, unhide HCL]; kernel_rfl) ?_))
        go_roundw
        case rel => exact ⟨_, _, HR3, HIN, HDN, HG3⟩
        case measure => rw [(unhide HR3).left_eq, (unhide hrg).left_eq]; exact unhide HLT

end Go.Proofs.YtjkokbijnaodnaaGreat

namespace Go.Proofs.YtjkokbijnaodnaaGreat
open Go.RowKit

theorem OwR.headM {α : Type} {e : TypeId} {P : World → Value → α → List Nat → Prop} {w : World} {v : Value} {L : List α} {F : List Nat} (h : OwR e P w v L F) : ∀ x ∈ blk v, x ∈ F := by
  obtain ⟨us, Fs, _, _, _, _, rfl⟩ := h
  intro x hx
  simp [hx]
theorem OwR.noneM {α : Type} {e : TypeId} (P : World → Value → α → List Nat → Prop) {w : World} {v : Value} {base : Nat} (h : w.ownsRow base e 1 v 0 []) : OwR e P w v [] (blk v) :=
  ⟨[], [], rfl, rfl, own_base h (Nat.zero_le _), fun i hi => absurd hi (by simp), by simp⟩
theorem takeM_next {α : Type} (L : List α) (k : Nat) (h : k < L.length) : L.take k ++ [L[k]] = L.take (k + 1) := by rw [List.take_add_one, List.getElem?_eq_getElem h]; rfl

end Go.Proofs.YtjkokbijnaodnaaGreat

namespace Go.Proofs.YtjkokbijnaodnaaGreat
open Go.RowKit

def toldO (r : Option (List (List Int))) : Bool := match r with | some X => X.all (fun row => row.all (fun x => x == 0)) | none => false
theorem leftOf_any {X : Array Value} {p wd ht rs : Int} {n : Nat} {C : Nat → Nat → Int} {fb : Bool} (HFB : Hid (frameB p wd ht rs n C = fb)) (h1 : fb = false → X = #[.int .i64 0, .int .i64 0, .int .i64 0, .int .i64 0, .int .i64 0, .int .i64 0, .int .i64 0, .int .i64 0, .int .i64 0, .int .i64 0, .int .i64 0, .int .i64 0, .int .i64 0, .int .i64 0, .int .i64 0, .int .i64 0, .int .i64 0, .int .i64 0, .int .i64 0, .int .i64 0, .int .i64 0]) (h2 : fb = true → ∃ D, Fx X p wd ht rs n D ∧ ∀ i, i < n → D i = C i)
    (v : Value) (S : List Scn) (w : World) (hS : RdSs w v S) (hsz : szR szSc S ≤ 1048576) (r : Option (List (List Int))) (HR : Hid (leftO fb n S = r)) :
    Calls Tryz.prog 70 #[.agg X, v] w fun e w' => ∃ mv, e = .returned (.tuple #[mv, .bool r.isSome]) ∧ (∀ Y, r = some Y → ∃ b, mv = .map (some b) ∧ w.heap.size ≤ b ∧ OwM w' b Y) ∧ w.grownBy w' none := by
  have hT := tells_of HFB h1 h2
  cases fb with
  | false =>
    obtain rfl := h1 rfl
    have e : r = none := by rw [← unhide HR]; rfl
    subst e
    refine (leftOf_no v w).mono ?_
    rintro e w' ⟨rfl, g⟩
    exact ⟨_, rfl, fun Y e => absurd e (by simp), g⟩
  | true =>
    obtain ⟨D, hF, _⟩ := h2 rfl
    have hg := geo_of (unhide HFB)
    have hp : (p == 0) = false := by
      have hf := unhide HFB
      unfold frameB at hf
      rw [Bool.and_eq_true] at hf
      rcases (headB_facts hf.1).1 with h | h <;> (rw [h]; rfl)
    have hc := sz_scan hsz
    have hl : S.length ≤ 1048576 := by unfold szR at hsz; omega
    exact leftOf_yes X p wd ht rs n D hF hp hg.n4 hT v S w hS (fun a ha => by have := hc a ha; omega) (by omega) r HR

set_option maxRecDepth 20000 in
set_option maxHeartbeats 1600000 in
theorem giveScriptOk : ImplScriptOk := by
  intro p wd ht rs fo n fc C v S w hr hn hS hsz fb t HFB HT
  obtain ⟨vo, vn, vc, rfl⟩ : ∃ vo vn vc, v = .slice vo vn vc := by obtain ⟨vo, vc, e, _⟩ := hS; exact ⟨vo, _, vc, e⟩
  obtain ⟨r, HR⟩ : ∃ r, Hid (leftO fb n S = r) := ⟨_, rfl⟩
  have HTR : Hid (toldO r = t) := by
    unfold Hid
    rw [← unhide HR]
    exact unhide HT
  have HRO : Hid (∀ Y, r = some Y → Rows64 n Y) := fun Y e => leftO_rows ((unhide HR).trans e)
  have HG0 : Hid (w.grownBy (w.alloc (.cells #[.int .i64 p, .int .i64 wd, .int .i64 ht, .int .i64 rs, .slice fo n fc] 37)) none) := World.grownBy_alloc _ _ _
  have HFIX := hide (fixFrame p wd ht rs fo n fc C _ (hr.grown (unhide HG0)) hn fb HFB)
  have HS := hide hS
  clear hr hS HT
  go_enter Tryz.func49, Tryz.ntmps49
  go_wp2_with fail
  refine (unhide HFIX).mono ?_
  rintro e w1 ⟨X, rfl, h1, h2, g1⟩
  have HG1 := hide (grown_trans (unhide HG0) g1)
  have HLO := hide (leftOf_any HFB h1 h2 (.slice vo vn vc) S w1 (RdSs.st _ _ _ _ (unhide HS) (unhide HG1)) hsz r HR)
  clear h1 h2 g1 HFIX HG0
  go_wp2_with fail
  refine (unhide HLO).mono ?_
  rintro e w2 ⟨mv, rfl, hm, g2⟩
  have HG2 := hide (grown_trans (unhide HG1) g2)
  clear g2 HLO HG1
  cases r with
  | none =>
    obtain rfl : false = t := unhide HTR
    clear hm
    go_wp2
    go_ret
    exact ⟨rfl, unhide HG2⟩
  | some Y =>
    obtain ⟨b, rfl, hb, o2⟩ := hm Y rfl
    have h64 := unhide HRO Y rfl
    have HAL := hide (allTold Y (fun c hc => h64.2 c (by rw [← h64.1]; exact hc)) b w2 o2 t (unhide HTR))
    clear hm o2 h64 HTR HRO
    go_wp2_with fail
    refine (unhide HAL).mono ?_
    rintro e w3 ⟨rfl, g3⟩
    have HG3 := hide (grown_trans (unhide HG2) g3)
    clear g3 HAL
    go_wp2
    go_ret
    exact ⟨rfl, unhide HG3⟩

end Go.Proofs.YtjkokbijnaodnaaGreat

namespace Go.Proofs.YtjkokbijnaodnaaGreat
open Go.RowKit

def tabB (T : List (List Int)) : Bool := decide (T.length = 4) && T.all (numsB 1 1023)
def streamB (p wd ht rs md : Int) (n : Nat) (C : Nat → Nat → Int) (T : List (List Int)) (X : List (List (List Int))) (S : List Scn) (nn : Nat) : Bool :=
  frameB p wd ht rs n C && tabB T && coefsOkF (frameB p wd ht rs n C) wd ht n C X && decide (0 ≤ md ∧ md ≤ 1) && scriptB (frameB p wd ht rs n C) n S && decide (nn ≤ 1000)
/-- The first tables are tables. -/
def tabTo (T : List (List Int)) (k : Nat) : Bool := (T.take k).all (numsB 1 1023)
theorem tabTo_next {T : List (List Int)} {k : Nat} (hk : k < T.length) : tabTo T (k + 1) = (tabTo T k && numsB 1 1023 T[k]) := by
  unfold tabTo
  rw [List.take_succ_eq_append_getElem hk, List.all_append]
  simp
theorem tabTo_no {T : List (List Int)} {k : Nat} (hk : k < T.length) (h : numsB 1 1023 T[k] = false) : T.all (numsB 1 1023) = false := by
  rw [Bool.eq_false_iff]
  intro e
  have := List.all_eq_true.1 e T[k] (List.getElem_mem hk)
  rw [h] at this
  cases this

set_option maxRecDepth 20000 in
set_option maxHeartbeats 1600000 in
theorem tablesOk (v : Value) (T : List (List Int)) (w : World) (h : Rd2 w v T) (b : Bool) (HB : Hid (tabB T = b)) :
    Calls Tryz.prog 46 #[v] w fun e w' => e = .returned (.bool b) ∧ w.grownBy w' none := by
  obtain ⟨tO, tC, rfl, hel⟩ := id h
  obtain ⟨tn, HTN⟩ : ∃ m, Hid (T.length = m) := ⟨_, rfl⟩
  have HEL := hide hel
  rw [unhide HTN] at h ⊢
  clear h hel
  by_cases h4 : tn = 4
  · subst h4
    have n4 : ((4 : Int) != 4) = false := rfl
    go_enter Tryz.func46, Tryz.ntmps46
    go_wp2
    go_loopw [10] (fun i wr => ∃ k : Nat, k ≤ 4 ∧ i = .int .i64 k ∧ Hid (tabTo T k = true) ∧ Hid (w.grownBy wr none)) (fun i _ => 4 - (intOf i).toNat)
    case atStart => exact ⟨0, by omega, by go_num, rfl, World.grownBy.refl _ _⟩
    case round =>
      obtain ⟨k, hk, rfl, HT, HG⟩ := hrel
      by_cases hki : k < 4
      · have hkI : (k : Int) < 4 := by omega
        have hkd : decide ((k : Int) < 4) = true := decide_eq_true hkI
        have hkT : k < T.length := by have e := unhide HTN; omega
        obtain ⟨tb, toff, u, e1, hc, hp⟩ := unhide HEL k (hkT)
        obtain ⟨uo, uc, rfl, hu⟩ := hp
        subst e1
        obtain ⟨ul, HUL⟩ : ∃ m, Hid ((T[k]'(hkT)).length = m) := ⟨_, rfl⟩
        rw [unhide HUL] at hc hu
        have hc' := (unhide HG).cell hc (by simp)
        have HU := hide (hu.grown (unhide HG))
        have e9 := i64_in ((k : Int) + 1) (by omega)
        obtain ⟨y, HY⟩ : ∃ y, Hid (numsB 1 1023 (T[k]'(hkT)) = y) := ⟨_, rfl⟩
        clear hc hu
        go_wp2_with fail
        refine (implTableOk uo ul uc _ wr (unhide HU) y HY).mono ?_
        rintro e w1 ⟨rfl, g1⟩
        have HG1 := hide (grown_trans (unhide HG) g1)
        clear g1 HU hc'
        cases y with
        | false =>
          have hb : b = false := by
            rw [← unhide HB, tabB, tabTo_no (k := k) (hkT) (unhide HY)]
            simp
          subst hb
          go_wp2
          go_ret
          exact ⟨rfl, unhide HG1⟩
        | true =>
          have HT1 : Hid (tabTo T (k + 1) = true) := by
            unfold Hid
            rw [tabTo_next (k := k) (hkT), unhide HT, unhide HY]; rfl
          go_wp2
          go_roundw
          case rel => exact ⟨k + 1, by omega, by go_num, HT1, HG1⟩
          case measure => simp [intOf]; omega
      · obtain rfl : k = 4 := by omega
        have hb : b = true := by
          have h := unhide HT
          unfold tabTo at h
          rw [List.take_of_length_le (by rw [unhide HTN]; omega)] at h
          rw [← unhide HB, tabB, h, unhide HTN]; rfl
        subst hb
        go_wp2
        go_ret
        exact ⟨rfl, unhide HG⟩
  · have hb : b = false := by
      rw [← unhide HB, tabB, unhide HTN, decide_eq_false h4]; rfl
    subst hb
    have n4 : ((tn : Int) != 4) = true := by simp; omega
    go_enter Tryz.func46, Tryz.ntmps46
    go_wp2
    go_ret
    exact ⟨rfl, World.grownBy.refl _ _⟩

theorem modeOk14 (md : Int) (t : Bool) (HT : Hid (decide (0 ≤ md ∧ md ≤ 1) = t)) (w : World) :
    Calls Tryz.prog 48 #[.int .i64 md] w fun e w' => e = .returned (.bool t) ∧ w' = w := by
  go_enter Tryz.func48, Tryz.ntmps48
  go_wp2_with fail
  refine (inRange md 0 1 t HT w).mono ?_
  rintro e w1 ⟨rfl, rfl⟩
  go_wp2
  go_ret
  exact ⟨rfl, rfl⟩

set_option maxRecDepth 20000 in
set_option maxHeartbeats 3200000 in
theorem specStreamOk (p wd ht rs md : Int) (ao : Option Addr) (n cap : Nat) (C : Nat → Nat → Int) (vt : Value) (T : List (List Int)) (vc : Value) (X : List (List (List Int))) (vs : Value) (S : List Scn) (no : Option Addr) (nn nc : Nat) (zs : List Int) (w : World) (h : RdSt w ao n C vt T vc X vs S no nn zs) (hz : Sz15 n T X S nn) (b : Bool) (HB : Hid (streamB p wd ht rs md n C T X S nn = b)) :
    Calls Tryz.prog 14 #[.agg #[.int .i64 p, .int .i64 wd, .int .i64 ht, .int .i64 rs, .slice ao n cap, vt, vc, .int .i64 md, vs, .slice no nn nc]] w fun e w' => e = .returned (.bool b) ∧ w.grownBy w' none := by
  have HRD := hide h
  have HZ := hide hz
  obtain ⟨tO, tC, rfl⟩ : ∃ a c, vt = .slice a T.length c := by obtain ⟨a, c, e, _⟩ := h.tb; exact ⟨a, c, e⟩
  obtain ⟨cO, cC, rfl⟩ : ∃ a c, vc = .slice a X.length c := by obtain ⟨a, c, e, _⟩ := h.co; exact ⟨a, c, e⟩
  obtain ⟨sO, sC, rfl⟩ : ∃ a c, vs = .slice a S.length c := by obtain ⟨a, c, e, _⟩ := h.sc; exact ⟨a, c, e⟩
  obtain ⟨tn, HTN⟩ : ∃ m, Hid (T.length = m) := ⟨_, rfl⟩
  obtain ⟨cn, HCN⟩ : ∃ m, Hid (X.length = m) := ⟨_, rfl⟩
  obtain ⟨sn, HSN⟩ : ∃ m, Hid (S.length = m) := ⟨_, rfl⟩
  rw [unhide HTN, unhide HCN, unhide HSN] at HRD ⊢
  clear h hz
  obtain ⟨fb, HFB⟩ : ∃ fb, Hid (frameB p wd ht rs n C = fb) := ⟨_, rfl⟩
  obtain ⟨tb, HTB⟩ : ∃ y, Hid (tabB T = y) := ⟨_, rfl⟩
  obtain ⟨cb, HCB⟩ : ∃ y, Hid (coefsOkF fb wd ht n C X = y) := ⟨_, rfl⟩
  obtain ⟨mb, HMB⟩ : ∃ y, Hid (decide (0 ≤ md ∧ md ≤ 1) = y) := ⟨_, rfl⟩
  obtain ⟨sb, HSB⟩ : ∃ y, Hid (scriptB fb n S = y) := ⟨_, rfl⟩
  have HBB : Hid (b = (fb && tb && cb && mb && sb && decide (nn ≤ 1000))) := by
    unfold Hid
    rw [← unhide HB, streamB, unhide HFB, unhide HTB, unhide HCB, unhide HMB, unhide HSB]
  obtain ⟨v0, HW⟩ : ∃ W, Hid (w.alloc (.cells #[.int .i64 p, .int .i64 wd, .int .i64 ht, .int .i64 rs, .slice ao n cap, .slice tO tn tC, .slice cO cn cC, .int .i64 md, .slice sO sn sC, .slice no nn nc] 41) = W) := ⟨_, rfl⟩
  have B0 : Hid (v0.heap[w.heap.size]? = some (.cells #[.int .i64 p, .int .i64 wd, .int .i64 ht, .int .i64 rs, .slice ao n cap, .slice tO tn tC, .slice cO cn cC, .int .i64 md, .slice sO sn sC, .slice no nn nc] 41 (0, 0))) := by rw [← unhide HW]; exact heap_alloc_new w _
  have G0 : Hid (w.grownBy v0 none) := by rw [← unhide HW]; exact World.grownBy_alloc _ _ _
  go_enter Tryz.func14, Tryz.ntmps14
  go_wp2_with fail
  rw [unhide HW]
  refine (specFrameOk p wd ht rs ao n cap C v0 ((unhide HRD).fr.grown (unhide G0)) fb HFB).mono ?_
  rintro e w1 ⟨rfl, g1⟩
  clear HW
  have G1 := hide (grown_trans (unhide G0) g1)
  have B1 := hide (grown_atT g1 (unhide B0) (by simp))
  clear g1 G0 B0
  obtain ⟨c0, c1, c2, c3, c4, c5, c6, c7, c8, c9⟩ := cells10 (unhide B1)
  cases fb with
  | false =>
    have hb : b = false := by rw [unhide HBB]; simp
    subst hb
    go_wp2
    go_ret
    exact ⟨rfl, unhide G1⟩
  | true =>
    by_cases h4 : ¬ tn = 4
    · have n4 : ((tn : Int) != 4) = true := by simp; omega
      have htb : tb = false := by rw [← unhide HTB, tabB, unhide HTN, decide_eq_false h4]; rfl
      subst htb
      have hb : b = false := by rw [unhide HBB]; simp
      subst hb
      go_wp2
      go_ret
      exact ⟨rfl, unhide G1⟩
    obtain rfl : tn = 4 := by omega
    clear h4
    have n4 : ((4 : Int) != 4) = false := rfl
    go_wp2_with fail
    refine (specCoefsOk p wd ht rs ao n cap C _ X w1 ((unhide HRD).fr.grown (unhide G1)) (st3 _ _ _ _ (unhide HRD).co (unhide G1)) (unhide HZ).co true cb HFB HCB).mono ?_
    rintro e w2 ⟨rfl, g2⟩
    clear c0 c1 c2 c3 c4 c5 c6 c7 c8 c9
    have G2 := hide (grown_trans (unhide G1) g2)
    have B2 := hide (grown_atT g2 (unhide B1) (by simp))
    clear g2 G1 B1
    obtain ⟨c0, c1, c2, c3, c4, c5, c6, c7, c8, c9⟩ := cells10 (unhide B2)
    cases cb with
    | false =>
      have hb : b = false := by rw [unhide HBB]; simp
      subst hb
      go_wp2
      go_ret
      exact ⟨rfl, unhide G2⟩
    | true =>
      go_wp2_with fail
      refine (between md 0 1 mb HMB w2).mono ?_
      rintro e w2 ⟨rfl, rfl⟩
      cases mb with
      | false =>
        have hb : b = false := by rw [unhide HBB]; simp
        subst hb
        go_wp2
        go_ret
        exact ⟨rfl, unhide G2⟩
      | true =>
        go_wp2_with fail
        refine (specScriptOk p wd ht rs ao n cap C w2 ((unhide HRD).fr.grown (unhide G2)) (by have := (unhide HZ).fr; omega) _ S (RdSs.st _ _ _ _ (unhide HRD).sc (unhide G2)) (fun a ha => by have := sz_scan (unhide HZ).sc a ha; omega) true HFB sb HSB).mono ?_
        rintro e w3 ⟨rfl, g3⟩
        clear c0 c1 c2 c3 c4 c5 c6 c7 c8 c9
        have G3 := hide (grown_trans (unhide G2) g3)
        have B3 := hide (grown_atT g3 (unhide B2) (by simp))
        clear g3 G2 B2
        obtain ⟨c0, c1, c2, c3, c4, c5, c6, c7, c8, c9⟩ := cells10 (unhide B3)
        cases sb with
        | false =>
          have hb : b = false := by rw [unhide HBB]; simp
          subst hb
          go_wp2
          go_ret
          exact ⟨rfl, unhide G3⟩
        | true =>
          by_cases hnn : ¬ nn ≤ 1000
          · have hb : b = false := by rw [unhide HBB, decide_eq_false hnn]; simp
            subst hb
            have d9 : decide ((1000 : Int) < (nn : Int)) = true := decide_eq_true (by omega)
            go_wp2
            go_ret
            exact ⟨rfl, unhide G3⟩
          have hnn' : nn ≤ 1000 := by omega
          have d9 : decide ((1000 : Int) < (nn : Int)) = false := decide_eq_false (by omega)
          have HBT : Hid (b = tb) := by unfold Hid; rw [unhide HBB, decide_eq_true hnn']; simp
          clear hnn hnn'
          have HTBL := hide (unhide HRD).tb
          obtain ⟨to1, tc1, et1, hel⟩ := (unhide HRD).tb
          obtain ⟨rfl, rfl⟩ : tO = to1 ∧ tC = tc1 := by simpa [unhide HTN] using et1
          have HEL := hide hel
          clear hel et1 HTBL
          go_wp2
          go_loopw [3] (fun i wr => ∃ k : Nat, k ≤ 4 ∧ i = .int .i64 k ∧ Hid (tabTo T k = true) ∧ Hid (w.grownBy wr none) ∧ Hid (wr.heap[w.heap.size]? = some (.cells #[.int .i64 p, .int .i64 wd, .int .i64 ht, .int .i64 rs, .slice ao n cap, .slice tO 4 tC, .slice cO cn cC, .int .i64 md, .slice sO sn sC, .slice no nn nc] 41 (0, 0)))) (fun i _ => 4 - (intOf i).toNat)
          case atStart => exact ⟨0, by omega, by go_num, rfl, G3, B3⟩
          clear G3 B3 c0 c1 c2 c3 c4 c5 c6 c7 c8 c9
          case round =>
            obtain ⟨k, hk, rfl, HT, HG, HBX⟩ := hrel
            by_cases hki : k < 4
            · have hkI : (k : Int) < 4 := by omega
              have hkd : decide ((k : Int) < 4) = true := decide_eq_true hkI
              have hkT : k < T.length := by have e := unhide HTN; omega
              obtain ⟨tbk, toff, u, e1, hc, hp⟩ := unhide HEL k (hkT)
              obtain ⟨uo, uc, rfl, hu⟩ := hp
              subst e1
              obtain ⟨ul, HUL⟩ : ∃ m, Hid ((T[k]'(hkT)).length = m) := ⟨_, rfl⟩
              rw [unhide HUL] at hc hu
              have hc' := (unhide HG).cell hc (by simp)
              have HU := hide (hu.grown (unhide HG))
              have e9 := i64_in ((k : Int) + 1) (by omega)
              obtain ⟨-, -, -, -, -, c5, -, -, -, -⟩ := cells10 (unhide HBX)
              obtain ⟨y, HY⟩ : ∃ y, Hid (numsB 1 1023 (T[k]'(hkT)) = y) := ⟨_, rfl⟩
              clear hc hu
              go_wp2_with fail
              refine (specTableOk uo ul uc _ wr (unhide HU) y HY).mono ?_
              rintro e w9 ⟨rfl, g9⟩
              have HG9 := hide (grown_trans (unhide HG) g9)
              have HB9 := hide (grown_atT g9 (unhide HBX) (by simp))
              clear g9 HU hc' c5 HBX
              cases y with
              | false =>
                have hb : b = false := by
                  rw [unhide HBT, ← unhide HTB, tabB, tabTo_no (k := k) (hkT) (unhide HY)]
                  simp
                subst hb
                go_wp2
                go_ret
                exact ⟨rfl, unhide HG9⟩
              | true =>
                have HT1 : Hid (tabTo T (k + 1) = true) := by
                  unfold Hid
                  rw [tabTo_next (k := k) (hkT), unhide HT, unhide HY]; rfl
                go_wp2
                go_roundw
                case rel => exact ⟨k + 1, by omega, by go_num, HT1, HG9, HB9⟩
                case measure => simp [intOf]; omega
            · obtain rfl : k = 4 := by omega
              have hb : b = true := by
                have h := unhide HT
                unfold tabTo at h
                rw [List.take_of_length_le (by rw [unhide HTN]; omega)] at h
                rw [unhide HBT, ← unhide HTB, tabB, h, unhide HTN]; rfl
              subst hb
              go_wp2
              go_ret
              exact ⟨rfl, unhide HG⟩

set_option maxRecDepth 20000 in
set_option maxHeartbeats 3200000 in
theorem implStreamOk (p wd ht rs md : Int) (ao : Option Addr) (n cap : Nat) (C : Nat → Nat → Int) (vt : Value) (T : List (List Int)) (vc : Value) (X : List (List (List Int))) (vs : Value) (S : List Scn) (no : Option Addr) (nn nc : Nat) (zs : List Int) (w : World) (h : RdSt w ao n C vt T vc X vs S no nn zs) (hz : Sz15 n T X S nn) (b : Bool) (HB : Hid (streamB p wd ht rs md n C T X S nn = b)) :
    Calls Tryz.prog 22 #[.agg #[.int .i64 p, .int .i64 wd, .int .i64 ht, .int .i64 rs, .slice ao n cap, vt, vc, .int .i64 md, vs, .slice no nn nc]] w fun e w' => e = .returned (.bool b) ∧ w.grownBy w' none := by
  have HRD := hide h
  have HZ := hide hz
  obtain ⟨tO, tC, rfl⟩ : ∃ a c, vt = .slice a T.length c := by obtain ⟨a, c, e, _⟩ := h.tb; exact ⟨a, c, e⟩
  obtain ⟨cO, cC, rfl⟩ : ∃ a c, vc = .slice a X.length c := by obtain ⟨a, c, e, _⟩ := h.co; exact ⟨a, c, e⟩
  obtain ⟨sO, sC, rfl⟩ : ∃ a c, vs = .slice a S.length c := by obtain ⟨a, c, e, _⟩ := h.sc; exact ⟨a, c, e⟩
  obtain ⟨tn, HTN⟩ : ∃ m, Hid (T.length = m) := ⟨_, rfl⟩
  obtain ⟨cn, HCN⟩ : ∃ m, Hid (X.length = m) := ⟨_, rfl⟩
  obtain ⟨sn, HSN⟩ : ∃ m, Hid (S.length = m) := ⟨_, rfl⟩
  rw [unhide HTN, unhide HCN, unhide HSN] at HRD ⊢
  clear h hz
  obtain ⟨fb, HFB⟩ : ∃ fb, Hid (frameB p wd ht rs n C = fb) := ⟨_, rfl⟩
  obtain ⟨tb, HTB⟩ : ∃ y, Hid (tabB T = y) := ⟨_, rfl⟩
  obtain ⟨cb, HCB⟩ : ∃ y, Hid (coefsOkF fb wd ht n C X = y) := ⟨_, rfl⟩
  obtain ⟨mb, HMB⟩ : ∃ y, Hid (decide (0 ≤ md ∧ md ≤ 1) = y) := ⟨_, rfl⟩
  obtain ⟨sb, HSB⟩ : ∃ y, Hid (scriptB fb n S = y) := ⟨_, rfl⟩
  have HBB : Hid (b = (fb && tb && cb && mb && sb && decide (nn ≤ 1000))) := by
    unfold Hid
    rw [← unhide HB, streamB, unhide HFB, unhide HTB, unhide HCB, unhide HMB, unhide HSB]
  obtain ⟨v0, HW⟩ : ∃ W, Hid (w.alloc (.cells #[.int .i64 p, .int .i64 wd, .int .i64 ht, .int .i64 rs, .slice ao n cap, .slice tO tn tC, .slice cO cn cC, .int .i64 md, .slice sO sn sC, .slice no nn nc] 41) = W) := ⟨_, rfl⟩
  have B0 : Hid (v0.heap[w.heap.size]? = some (.cells #[.int .i64 p, .int .i64 wd, .int .i64 ht, .int .i64 rs, .slice ao n cap, .slice tO tn tC, .slice cO cn cC, .int .i64 md, .slice sO sn sC, .slice no nn nc] 41 (0, 0))) := by rw [← unhide HW]; exact heap_alloc_new w _
  have G0 : Hid (w.grownBy v0 none) := by rw [← unhide HW]; exact World.grownBy_alloc _ _ _
  go_enter Tryz.func22, Tryz.ntmps22
  go_wp2_with fail
  rw [unhide HW]
  refine (implFrameOk p wd ht rs ao n cap C v0 ((unhide HRD).fr.grown (unhide G0)) (by have := (unhide HZ).fr; omega) fb HFB).mono ?_
  rintro e w1 ⟨rfl, g1⟩
  clear HW
  have G1 := hide (grown_trans (unhide G0) g1)
  have B1 := hide (grown_atT g1 (unhide B0) (by simp))
  clear g1 G0 B0
  obtain ⟨c0, c1, c2, c3, c4, c5, c6, c7, c8, c9⟩ := cells10 (unhide B1)
  cases fb with
  | false =>
    have hb : b = false := by rw [unhide HBB]; simp
    subst hb
    go_wp2
    go_ret
    exact ⟨rfl, unhide G1⟩
  | true =>
    go_wp2_with fail
    refine (tablesOk _ T w1 (RdR.st (RdI.st .i64) _ _ _ _ (unhide HRD).tb (unhide G1)) tb HTB).mono ?_
    rintro e w2 ⟨rfl, g2⟩
    clear c0 c1 c2 c3 c4 c5 c6 c7 c8 c9
    have G2 := hide (grown_trans (unhide G1) g2)
    have B2 := hide (grown_atT g2 (unhide B1) (by simp))
    clear g2 G1 B1
    obtain ⟨c0, c1, c2, c3, c4, c5, c6, c7, c8, c9⟩ := cells10 (unhide B2)
    cases tb with
    | false =>
      have hb : b = false := by rw [unhide HBB]; simp
      subst hb
      go_wp2
      go_ret
      exact ⟨rfl, unhide G2⟩
    | true =>
      go_wp2_with fail
      refine (giveCoefsOk p wd ht rs ao n cap C _ X w2 ((unhide HRD).fr.grown (unhide G2)) (by have := (unhide HZ).fr; omega) (st3 _ _ _ _ (unhide HRD).co (unhide G2)) (unhide HZ).co true cb HFB HCB).mono ?_
      rintro e w3 ⟨rfl, g3⟩
      clear c0 c1 c2 c3 c4 c5 c6 c7 c8 c9
      have G3 := hide (grown_trans (unhide G2) g3)
      have B3 := hide (grown_atT g3 (unhide B2) (by simp))
      clear g3 G2 B2
      obtain ⟨c0, c1, c2, c3, c4, c5, c6, c7, c8, c9⟩ := cells10 (unhide B3)
      cases cb with
      | false =>
        have hb : b = false := by rw [unhide HBB]; simp
        subst hb
        go_wp2
        go_ret
        exact ⟨rfl, unhide G3⟩
      | true =>
        go_wp2_with fail
        refine (modeOk14 md mb HMB w3).mono ?_
        rintro e w3 ⟨rfl, rfl⟩
        cases mb with
        | false =>
          have hb : b = false := by rw [unhide HBB]; simp
          subst hb
          go_wp2
          go_ret
          exact ⟨rfl, unhide G3⟩
        | true =>
          go_wp2_with fail
          refine (giveScriptOk p wd ht rs ao n cap C _ S w3 ((unhide HRD).fr.grown (unhide G3)) (by have := (unhide HZ).fr; omega) (RdSs.st _ _ _ _ (unhide HRD).sc (unhide G3)) (unhide HZ).sc true sb HFB HSB).mono ?_
          rintro e w4 ⟨rfl, g4⟩
          clear c0 c1 c2 c3 c4 c5 c6 c7 c8 c9
          have G4 := hide (grown_trans (unhide G3) g4)
          have B4 := hide (grown_atT g4 (unhide B3) (by simp))
          clear g4 G3 B3
          obtain ⟨c0, c1, c2, c3, c4, c5, c6, c7, c8, c9⟩ := cells10 (unhide B4)
          cases sb with
          | false =>
            have hb : b = false := by rw [unhide HBB]; simp
            subst hb
            go_wp2
            go_ret
            exact ⟨rfl, unhide G4⟩
          | true =>
            by_cases hnn : nn ≤ 1000
            · have hb : b = true := by rw [unhide HBB, decide_eq_true hnn]; rfl
              subst hb
              have d9 : decide ((nn : Int) ≤ 1000) = true := decide_eq_true (by omega)
              go_wp2
              go_ret
              exact ⟨rfl, unhide G4⟩
            · have hb : b = false := by rw [unhide HBB, decide_eq_false hnn]; rfl
              subst hb
              have d9 : decide ((nn : Int) ≤ 1000) = false := decide_eq_false (by omega)
              go_wp2
              go_ret
              exact ⟨rfl, unhide G4⟩

end Go.Proofs.YtjkokbijnaodnaaGreat
