/-
  NothingImpl, TellLeft, PassOk, ScanImpl, GiveScanOk, LeftImpl, ToldImpl, ListsImpl, GiveLeft, ConcatScan, TogetherImpl, ApartImpl, OwnList.
-/
import Derived.Lib.AppendZerosOnto
import Derived.Lib.Walk
import Derived.Test.YtnjcmlmgjoaeeaaMVi

namespace Go.Proofs.Ytnjcmlmgjoaeeaa
open Go.RowKit

theorem toNoBit (x : Int) (w : World) : Calls Try.prog 83 #[.int .i64 x] w fun e w' => e = .returned (.int .i64 (-1)) ∧ w.grownBy w' none := by
  go_enter Try.func83, Try.ntmps83
  go_wp2
  go_ret
  exact ⟨rfl, World.grownBy.refl _ _⟩
theorem nothing_app (i : Nat) : nothing i ++ [List.replicate 64 (-1)] = nothing (i + 1) := by
  unfold nothing
  generalize List.replicate 64 (-1 : Int) = r
  rw [List.replicate_succ']
theorem nothing_len (i : Nat) : (nothing i).length = i := by unfold nothing; rw [List.length_replicate]
theorem made_minus : made (fun _ => -1) = List.replicate 64 (-1) := rfl
theorem eachNoBit (w : World) : Calls Try.prog 82 #[.agg #[.int .i64 0, .int .i64 0, .int .i64 0, .int .i64 0, .int .i64 0, .int .i64 0, .int .i64 0, .int .i64 0, .int .i64 0, .int .i64 0, .int .i64 0, .int .i64 0, .int .i64 0, .int .i64 0, .int .i64 0, .int .i64 0, .int .i64 0, .int .i64 0, .int .i64 0, .int .i64 0, .int .i64 0, .int .i64 0, .int .i64 0, .int .i64 0, .int .i64 0, .int .i64 0, .int .i64 0, .int .i64 0, .int .i64 0, .int .i64 0, .int .i64 0, .int .i64 0, .int .i64 0, .int .i64 0, .int .i64 0, .int .i64 0, .int .i64 0, .int .i64 0, .int .i64 0, .int .i64 0, .int .i64 0, .int .i64 0, .int .i64 0, .int .i64 0, .int .i64 0, .int .i64 0, .int .i64 0, .int .i64 0, .int .i64 0, .int .i64 0, .int .i64 0, .int .i64 0, .int .i64 0, .int .i64 0, .int .i64 0, .int .i64 0, .int .i64 0, .int .i64 0, .int .i64 0, .int .i64 0, .int .i64 0, .int .i64 0, .int .i64 0, .int .i64 0], .func (.func 83) #[] #[]] w fun e w' => e = .returned (.agg (sq (List.replicate 64 (-1)))) ∧ w.grownBy w' none := by
  rw [← sq_z64, ← made_minus]
  exact each zs64 zs64_len (fun _ => -1) 83 #[] (fun args w => by kernel_rfl) w (fun k _ W _ => toNoBit _ W)

set_option maxRecDepth 100000 in
set_option maxHeartbeats 1600000 in
theorem nothingTold (n : Nat) (hn : n ≤ 4) (w : World) : Calls Try.prog 72 #[.int .i64 n] w fun e w' => ∃ b, e = .returned (.map (some b)) ∧ w.heap.size ≤ b ∧ OwM w' b (nothing n) ∧ w.grownBy w' none := by
  have hmm := @run_makeMap Try.prog
  have HO0 := hide (OwM.made w)
  have HG0 : Hid (w.grownBy (w.alloc (.map #[] 0)) none) := World.grownBy_alloc _ _ _
  go_enter Try.func72, Try.ntmps72
  go_wp2
  clear hmm
  go_loopw [7] (fun iv wr => ∃ k : Nat, k ≤ n ∧ iv = .int .i64 k ∧ Hid (OwM wr w.heap.size (nothing k)) ∧ Hid (w.grownBy wr none)) (fun iv _ => n - (intOf iv).toNat)
  case atStart => exact ⟨0, Nat.zero_le _, rfl, HO0, HG0⟩
  case round =>
    clear HO0 HG0
    obtain ⟨k, hk, rfl, hO, hG⟩ := hrel
    by_cases hlt : k < n
    · have hd : decide ((k : Int) < (n : Int)) = true := decide_eq_true (by omega)
      go_wp2_with fail
      obtain ⟨Z, HZ⟩ : ∃ Z, Hid (Value.agg #[.int .i64 0, .int .i64 0, .int .i64 0, .int .i64 0, .int .i64 0, .int .i64 0, .int .i64 0, .int .i64 0, .int .i64 0, .int .i64 0, .int .i64 0, .int .i64 0, .int .i64 0, .int .i64 0, .int .i64 0, .int .i64 0, .int .i64 0, .int .i64 0, .int .i64 0, .int .i64 0, .int .i64 0, .int .i64 0, .int .i64 0, .int .i64 0, .int .i64 0, .int .i64 0, .int .i64 0, .int .i64 0, .int .i64 0, .int .i64 0, .int .i64 0, .int .i64 0, .int .i64 0, .int .i64 0, .int .i64 0, .int .i64 0, .int .i64 0, .int .i64 0, .int .i64 0, .int .i64 0, .int .i64 0, .int .i64 0, .int .i64 0, .int .i64 0, .int .i64 0, .int .i64 0, .int .i64 0, .int .i64 0, .int .i64 0, .int .i64 0, .int .i64 0, .int .i64 0, .int .i64 0, .int .i64 0, .int .i64 0, .int .i64 0, .int .i64 0, .int .i64 0, .int .i64 0, .int .i64 0, .int .i64 0, .int .i64 0, .int .i64 0, .int .i64 0] = Z) := ⟨_, rfl⟩
      have HE := hide (fun w => eachNoBit w)
      rw [unhide HZ] at HE ⊢
      clear HZ
      refine (unhide HE _).mono ?_
      rintro e w2 ⟨rfl, g2⟩
      have HO2 := hide ((unhide hO).keep g2 (by simp))
      have HG2 := hide (grown_trans (unhide hG) g2)
      clear g2 hO hG HE
      obtain ⟨R, HR⟩ : ∃ R, Hid (List.replicate 64 (-1 : Int) = R) := ⟨_, rfl⟩
      rw [unhide HR]
      go_wp2_with (at_mapUpdate; refine wp_storeM rfl _ _ _ rfl w.heap.size (nothing k) k R rfl rfl rfl (unhide HO2) (Nat.le_of_eq (nothing_len k).symm) (by rw [nothing_len]; omega) ?_; intro w3 hO3 g3; rw [if_pos (nothing_len k).symm, ← unhide HR, nothing_app] at hO3; replace hO3 := hide hO3; replace g3 := hide g3)
      have HG3 := hide (grown_new (unhide HG2) (unhide g3) (fun g e => by simp at e; omega))
      go_roundw
      case rel => exact ⟨k + 1, by omega, by go_num, hO3, HG3⟩
      case measure => simp [intOf]; omega
    · obtain rfl : n = k := by omega
      have hd : decide ((n : Int) < (n : Int)) = false := decide_eq_false (by omega)
      go_wp2
      go_ret
      exact ⟨_, rfl, Nat.le_refl _, unhide hO, unhide hG⟩

theorem wp_bit {ops : Array Oper} {rest : List Oper} {op : Oper} {a : Act} {w : World} {Q : Exit → Act → World → Prop} (hw : Region.wanted op (yielded ops a.tmps) = true) (x : Operand) (ho : op.op = .call { callee := .invoke x "loop.example/g00139/impl.bit", args := #[], argTypes := #[] }) (s : Scn) (hx : a.eval x = pV s)
    (hK : ∀ w', w.grownBy w' none → wpList Try.prog ops Q rest (a.put op.dst (.int .i64 s.lo)) w') : wpList Try.prog ops Q (op :: rest) a w :=
  BigFrame.wpList_want hw fun K hC => by
    have h1 := fun w => methFirst s.lo w
    have h2 := fun w => methRefining s.hi s.lo w
    unfold pV at hx
    unfold Oper.wp
    by_cases h0 : s.hi = 0
    · rw [if_pos h0] at hx
      simp only [execOp, ho, resolve, hx]
      go_simp
      refine (firstBit s.lo w).mono ?_
      rintro e w2 ⟨rfl, g2⟩
      exact hC _ _ (hK w2 g2)
    · rw [if_neg h0] at hx
      simp only [execOp, ho, resolve, hx]
      go_simp
      refine (refiningBit s.hi s.lo w).mono ?_
      rintro e w2 ⟨rfl, g2⟩
      exact hC _ _ (hK w2 g2)

end Go.Proofs.Ytnjcmlmgjoaeeaa

namespace Go.Proofs.Ytnjcmlmgjoaeeaa
open Go.RowKit

theorem wp_setM {ops : Array Oper} {rest : List Oper} {op : Oper} {a : Act} {w : World} {Q : Exit → Act → World → Prop} (hw : Region.wanted op (yielded ops a.tmps) = true) (m x y : Operand) (ho : op.op = .mapUpdate 77 m x y) (b : Nat) (L : List (List Int)) (i : Nat) (xs : List Int)
    (hm : a.eval m = .map (some b)) (hx : a.eval x = .int .i64 i) (hy : a.eval y = .agg (sq xs)) (h : OwM w b L) (hi : i < L.length) (hL : L.length < 1000000) (L' : List (List Int)) (hL' : L.set i xs = L')
    (hK : ∀ w', OwM w' b L' → w.grownBy w' (some b) → wpList Try.prog ops Q rest (a.put op.dst undef) w') : wpList Try.prog ops Q (op :: rest) a w :=
  wp_storeM hw m x y ho b L i xs hm hx hy h (Nat.le_of_lt hi) hL (fun w' h1 h2 => hK w' (by rw [if_neg (by omega), hL'] at h1; exact h1) h2)
theorem wp_lookM {ops : Array Oper} {rest : List Oper} {op : Oper} {a : Act} {w : World} {Q : Exit → Act → World → Prop} (hw : Region.wanted op (yielded ops a.tmps) = true) (m x : Operand) (ho : op.op = .lookup 77 m x false) (b : Nat) (L : List (List Int)) (i : Nat)
    (hm : a.eval m = .map (some b)) (hx : a.eval x = .int .i64 i) (h : OwM w b L) (hi : i < L.length) (hL : L.length < 1000000) (xs : List Int) (hxs : L.getD i [] = xs)
    (hK : wpList Try.prog ops Q rest (a.put op.dst (.agg (sq xs))) w) : wpList Try.prog ops Q (op :: rest) a w :=
  BigFrame.wpList_want hw fun _ hC => by
    have hrun := h.look i hi (by omega)
    rw [hxs] at hrun
    unfold Oper.wp
    simp [execOp, ho, hm, hx, hrun, Result.andThen]
    exact hC _ _ hK
theorem OwM.ne {w : World} {b : Nat} {L : List (List Int)} (h : OwM w b L) {x o : Nat} {v : Value} (hc : w.cell? ⟨x, o, none⟩ = some v) : some x ≠ some b := by
  intro e
  injection e with e
  subst e
  obtain ⟨D, n, ⟨es, clock, hb, _⟩, _⟩ := h
  simp [World.cell?, hb] at hc

theorem sq_setT (zs : List Int) (j : Nat) (v : Int) : (sq zs).setIfInBounds j (.int .i64 v) = sq (zs.set j v) := by simp [sq]
/-- The map goes on; the scan lies in its box. -/
structure Tm (w wr : World) (b : Nat) (sx : Array Value) (Y : List (List Int)) : Prop where
  sc : wr.heap[w.heap.size]? = some (.cells sx 38 (0, 0))
  own : OwM wr b Y
  lt : b < w.heap.size
  grown : w.grownBy wr (some b)
theorem Tm.size {w wr : World} {b : Nat} {sx : Array Value} {Y : List (List Int)} (h : Tm w wr b sx Y) : w.heap.size + 1 ≤ wr.heap.size := (Array.getElem?_eq_some_iff.1 h.sc).1
theorem Tm.new {w wr w' : World} {b : Nat} {sx : Array Value} {Y : List (List Int)} (h : Tm w wr b sx Y) (g : wr.grownBy w' none) : Tm w w' b sx Y :=
  ⟨at_rowS g h.sc (by simp), h.own.keep g (by simp), h.lt, grown_trans h.grown (grown_any g)⟩
theorem Tm.wr {w wr w' : World} {b x : Nat} {sx : Array Value} {Y : List (List Int)} (h : Tm w wr b sx Y) (g : wr.grownBy w' (some x)) (hx : w.heap.size + 1 ≤ x) : Tm w w' b sx Y := by
  have hl := h.lt
  exact ⟨at_rowS g h.sc (fun e => by injection e with e; omega), h.own.keep g (fun e => by injection e with e; omega), h.lt, World.grownBy.andThen h.grown g (fun j e => by injection e with e; left; omega)⟩
theorem Tm.put {w wr w' : World} {b : Nat} {sx : Array Value} {Y Z : List (List Int)} (h : Tm w wr b sx Y) (o : OwM w' b Z) (g : wr.grownBy w' (some b)) : Tm w w' b sx Z := by
  have hl := h.lt
  exact ⟨at_rowS g h.sc (fun e => by injection e with e; omega), o, h.lt, grown_trans h.grown g⟩

set_option maxRecDepth 20000 in
set_option maxHeartbeats 6400000 in
theorem tell (n : Nat) (hn : n ≤ 4) (X : List (List Int)) (hX : Rows64 n X) (b : Nat) (vo : Option Addr) (vn vc : Nat) (a : Scn) (w : World) (hv : Rd .i64 w vo vn a.cs) (hvn : vn ≤ 4194304) (hM : OwM w b X) (ha : scanB true n a = true) (r : Option (List (List Int))) (HR : Hid (leftScan a X = r)) :
    Calls Try.prog 73 #[.map (some b), scV (.slice vo vn vc) a] w fun e w' => e = .returned (.bool r.isSome) ∧ (∀ Y, r = some Y → OwM w' b Y) ∧ w.grownBy w' (some b) := by
  have hp : passB a = true := by unfold scanB at ha; simp only [Bool.and_eq_true] at ha; exact ha.2
  have hc : okComps n a.cs = true := by unfold scanB at ha; simp only [Bool.and_eq_true] at ha; exact ha.1.2
  obtain ⟨q0, q1, q2, q3, q4⟩ := passB_in hp
  have HIN := hide (okComps_in hc)
  have hbit : bitsB a = true := by
    unfold passB at hp
    unfold bitsB
    simp only [Bool.and_eq_true] at hp ⊢
    exact ⟨hp.1.2, hp.2⟩
  have HPASS := hide (fun W => passOf W (.slice vo vn vc) a (pV a) (by unfold Hid pVN; rw [if_pos hbit]))
  have HMAY := hide (fun W last => mayTell W a.hi a.lo last)
  have HRL : Hid (∀ j, j ≤ a.cs.length → ∀ Y, leftComps (wantOf a) a.lo a.fr.toNat (a.to - a.fr + 1).toNat (a.cs.take j) X = some Y → Rows64 n Y) := fun j _ Y h => (leftComps_step (by omega) (by unfold wantOf; split <;> omega) q3 (a.cs.take j) X Y hX (fun c hc' => unhide HIN c (List.mem_of_mem_take hc')) h).1
  have hpe : pV ⟨[], 0, 0, a.hi, a.lo⟩ = pV a := rfl
  rw [hpe] at HMAY
  obtain ⟨pv, HPV⟩ : ∃ pv, Hid (pV a = pv) := ⟨_, rfl⟩
  rw [unhide HPV] at HPASS HMAY
  have hl := hv.1
  have hr := unhide HR
  unfold leftScan at hr
  obtain ⟨want, HWN⟩ : ∃ z, Hid (wantOf a = z) := ⟨_, rfl⟩
  have hwe : (if a.hi = 0 then -1 else a.hi) = want := unhide HWN
  rw [hwe] at HMAY
  rw [unhide HWN] at hr HRL
  have hMl := hM.lt
  have HAE := hide (Eq.refl a)
  clear hp hc ha hbit HR hX hpe hwe HWN
  obtain ⟨cs, fr, to, hi, lo⟩ := a
  unfold scV at HPASS ⊢
  dsimp only at hv hl q0 q1 q2 q3 q4 HPASS HMAY HRL hr HIN ⊢
  clear HAE
  obtain ⟨k0, rfl⟩ := Int.eq_ofNat_of_zero_le q0
  obtain ⟨k1, rfl⟩ := Int.eq_ofNat_of_zero_le (show 0 ≤ to by omega)
  have em : ((k1 : Int) - (k0 : Int) + 1).toNat = k1 + 1 - k0 := by omega
  have ek : ((k0 : Int)).toNat = k0 := rfl
  rw [em, ek] at hr HRL
  have HT0 : Hid (Tm w (w.alloc (.cells #[.slice vo vn vc, .int .i64 k0, .int .i64 k1, .int .i64 hi, .int .i64 lo] 38)) b #[.slice vo vn vc, .int .i64 k0, .int .i64 k1, .int .i64 hi, .int .i64 lo] X) :=
    ⟨heap_alloc_new w _, hM.keep (World.grownBy_alloc _ _ none) (by simp), hMl, World.grownBy_alloc _ _ _⟩
  obtain ⟨c0, c1, c2, c3, c4⟩ := scanCells (unhide HT0).sc
  have HRR := hide hr
  have HV := hide hv
  have HMM := hide hM
  clear hr hv em ek hM
  go_enter Try.func73, Try.ntmps73
  go_wp2_with fail
  clear c0 c1 c2 c3 c4
  refine (unhide HPASS _).mono ?_
  rintro e w1 ⟨rfl, g1⟩
  have HT1 := hide ((unhide HT0).new g1)
  clear HT0 g1 HPASS
  obtain ⟨c0, c1, c2, c3, c4⟩ := scanCells (unhide HT1).sc
  go_wp2
  clear c0 c1 c2 c3 c4
  go_loopw [15] (fun iv wr => ∃ (j : Nat) (Y : List (List Int)), j ≤ vn ∧ iv = .int .i64 j ∧ Hid (Tm w wr b #[.slice vo vn vc, .int .i64 k0, .int .i64 k1, .int .i64 hi, .int .i64 lo] Y) ∧ Hid (leftComps want lo k0 (k1 + 1 - k0) (cs.take j) X = some Y)) (fun iv _ => vn - (intOf iv).toNat)
  case atStart => exact ⟨0, X, Nat.zero_le _, rfl, HT1, rfl⟩
  case round =>
    clear HT1
    obtain ⟨j, Y, hj, rfl, hT, hY⟩ := hrel
    have HR64 := hide (unhide HRL j (by omega) Y (unhide hY))
    by_cases hlt : j < vn
    · have hd : decide ((j : Int) < (vn : Int)) = true := decide_eq_true (by omega)
      have hjI : (0 : Int) ≤ (j : Int) := by omega
      obtain ⟨vb, voff, rfl, hc⟩ := (unhide HV).2 j hlt
      have hcw := (unhide hT).grown.cell hc ((unhide HMM).ne hc)
      have hin := unhide HIN (cs.getD j 0) (by rw [show cs.getD j 0 = cs[j]'(by omega) by simp [show j < cs.length by omega]]; exact List.getElem_mem _)
      have NEXT : Hid (∀ row, leftRow want lo k0 (k1 + 1 - k0) (Y.getD (cs.getD j 0).toNat []) = some row → leftComps want lo k0 (k1 + 1 - k0) (cs.take (j + 1)) X = some (Y.set (cs.getD j 0).toNat row)) := fun row h => leftComps_next j (by omega) (unhide hY) h
      have FAIL : Hid (leftRow want lo k0 (k1 + 1 - k0) (Y.getD (cs.getD j 0).toNat []) = none → r = none) := fun h => by rw [← unhide HRR]; exact leftComps_fails j (by omega) (unhide hY) h
      obtain ⟨c, hce⟩ := Int.eq_ofNat_of_zero_le hin.1
      have hcn : c < n := by have := hin.2; omega
      rw [hce] at NEXT FAIL hcw
      have ec : ((c : Int)).toNat = c := rfl
      rw [ec] at NEXT FAIL
      obtain ⟨row, HROW⟩ : ∃ row, Hid (Y.getD c [] = row) := ⟨_, rfl⟩
      have hYl := (unhide HR64).1
      have hrl : row.length = 64 := by rw [← unhide HROW]; exact (unhide HR64).2 c hcn
      rw [unhide HROW] at NEXT FAIL
      clear hin hce ec hc
      obtain ⟨d0, d1, d2, d3, d4⟩ := scanCells (unhide hT).sc
      have HZ0 := hide (heap_alloc_new wr (.cells #[.int .i64 0, .int .i64 0, .int .i64 0, .int .i64 0, .int .i64 0, .int .i64 0, .int .i64 0, .int .i64 0, .int .i64 0, .int .i64 0, .int .i64 0, .int .i64 0, .int .i64 0, .int .i64 0, .int .i64 0, .int .i64 0, .int .i64 0, .int .i64 0, .int .i64 0, .int .i64 0, .int .i64 0, .int .i64 0, .int .i64 0, .int .i64 0, .int .i64 0, .int .i64 0, .int .i64 0, .int .i64 0, .int .i64 0, .int .i64 0, .int .i64 0, .int .i64 0, .int .i64 0, .int .i64 0, .int .i64 0, .int .i64 0, .int .i64 0, .int .i64 0, .int .i64 0, .int .i64 0, .int .i64 0, .int .i64 0, .int .i64 0, .int .i64 0, .int .i64 0, .int .i64 0, .int .i64 0, .int .i64 0, .int .i64 0, .int .i64 0, .int .i64 0, .int .i64 0, .int .i64 0, .int .i64 0, .int .i64 0, .int .i64 0, .int .i64 0, .int .i64 0, .int .i64 0, .int .i64 0, .int .i64 0, .int .i64 0, .int .i64 0, .int .i64 0] 104))
      have HTA := hide ((unhide hT).new (World.grownBy_alloc wr (.cells #[.int .i64 0, .int .i64 0, .int .i64 0, .int .i64 0, .int .i64 0, .int .i64 0, .int .i64 0, .int .i64 0, .int .i64 0, .int .i64 0, .int .i64 0, .int .i64 0, .int .i64 0, .int .i64 0, .int .i64 0, .int .i64 0, .int .i64 0, .int .i64 0, .int .i64 0, .int .i64 0, .int .i64 0, .int .i64 0, .int .i64 0, .int .i64 0, .int .i64 0, .int .i64 0, .int .i64 0, .int .i64 0, .int .i64 0, .int .i64 0, .int .i64 0, .int .i64 0, .int .i64 0, .int .i64 0, .int .i64 0, .int .i64 0, .int .i64 0, .int .i64 0, .int .i64 0, .int .i64 0, .int .i64 0, .int .i64 0, .int .i64 0, .int .i64 0, .int .i64 0, .int .i64 0, .int .i64 0, .int .i64 0, .int .i64 0, .int .i64 0, .int .i64 0, .int .i64 0, .int .i64 0, .int .i64 0, .int .i64 0, .int .i64 0, .int .i64 0, .int .i64 0, .int .i64 0, .int .i64 0, .int .i64 0, .int .i64 0, .int .i64 0, .int .i64 0] 104) none))
      have hsz := (unhide hT).size
      have HLEN := hide hrl
      clear hrl
      go_wp2_with (first | (at_lookup; refine wp_lookM rfl _ _ rfl b Y c rfl rfl (unhide hT).own (by omega) (by omega) row (unhide HROW) ?_) | (refine store_row rfl 104 _ _ rfl wr.heap.size rfl (sq row) rfl #[.int .i64 0, .int .i64 0, .int .i64 0, .int .i64 0, .int .i64 0, .int .i64 0, .int .i64 0, .int .i64 0, .int .i64 0, .int .i64 0, .int .i64 0, .int .i64 0, .int .i64 0, .int .i64 0, .int .i64 0, .int .i64 0, .int .i64 0, .int .i64 0, .int .i64 0, .int .i64 0, .int .i64 0, .int .i64 0, .int .i64 0, .int .i64 0, .int .i64 0, .int .i64 0, .int .i64 0, .int .i64 0, .int .i64 0, .int .i64 0, .int .i64 0, .int .i64 0, .int .i64 0, .int .i64 0, .int .i64 0, .int .i64 0, .int .i64 0, .int .i64 0, .int .i64 0, .int .i64 0, .int .i64 0, .int .i64 0, .int .i64 0, .int .i64 0, .int .i64 0, .int .i64 0, .int .i64 0, .int .i64 0, .int .i64 0, .int .i64 0, .int .i64 0, .int .i64 0, .int .i64 0, .int .i64 0, .int .i64 0, .int .i64 0, .int .i64 0, .int .i64 0, .int .i64 0, .int .i64 0, .int .i64 0, .int .i64 0, .int .i64 0, .int .i64 0] 104 (unhide HZ0) (by rw [sq_size, unhide HLEN]; rfl) (by rw [sq_size, unhide HLEN]; kernel_rfl) (sq_one _) ?_; intro w3 hB3 g3; replace hB3 := hide hB3; replace g3 := hide g3; have HT3 := hide ((unhide HTA).wr (unhide g3) hsz); obtain ⟨f0, f1, f2, f3, f4⟩ := scanCells (unhide HT3).sc; clear d0 d1 d2 d3 d4))
      clear f0 f1 f2 f3 f4 HZ0 HTA g3 hT hcw
      obtain ⟨g, HGE⟩ : ∃ g, Hid (wr.heap.size = g) := ⟨_, rfl⟩
      rw [unhide HGE] at hB3 hsz ⊢
      clear HGE
      go_loopw [9] (fun kv wr => ∃ (m : Nat) (rr : List Int), m ≤ k1 + 1 - k0 ∧ kv = .int .i64 (k0 + m : Nat) ∧ Hid (Tm w wr b #[.slice (some ⟨vb, voff, none⟩) vn vc, .int .i64 k0, .int .i64 k1, .int .i64 hi, .int .i64 lo] Y) ∧ Hid (wr.heap[g]? = some (.cells (sq rr) 104 (0, 0))) ∧ Hid (leftRow want lo k0 m row = some rr) ∧ Hid (rr.length = 64)) (fun kv _ => k1 + 1 - (intOf kv).toNat)
      case atStart => exact ⟨0, row, Nat.zero_le _, rfl, HT3, hB3, rfl, HLEN⟩
      case round =>
        clear HT3 hB3
        obtain ⟨m, rr, hm, rfl, hT, hB, hr, hL⟩ := hrel
        obtain ⟨d0, d1, d2, d3, d4⟩ := scanCells (unhide hT).sc
        by_cases hlk : m < k1 + 1 - k0
        · have he : decide (((k0 + m : Nat) : Int) ≤ (k1 : Int)) = true := decide_eq_true (by omega)
          have p0 : (0 : Int) ≤ ((k0 + m : Nat) : Int) := by omega
          have p1 : ((k0 + m : Nat) : Int) < 64 := by omega
          have cb := sq_cell (unhide hB) (k0 + m) (by rw [unhide hL]; omega)
          obtain ⟨last, HLA⟩ : ∃ z, Hid (rr.getD (k0 + m) 0 = z) := ⟨_, rfl⟩
          rw [unhide HLA] at cb
          have RN : Hid (last = want → leftRow want lo k0 (m + 1) row = some (rr.set (k0 + m) lo)) := fun h => leftRow_next (unhide hr) (by rw [unhide HLA]; exact h)
          have RF : Hid (last ≠ want → r = none) := fun h => unhide FAIL (leftRow_fails (unhide hr) (by rw [unhide HLA]; exact h) hlk)
          obtain ⟨tk, HTK⟩ : ∃ t, Hid (decide (last = want) = t) := ⟨_, rfl⟩
          have HM1 := hide (unhide HMAY wr last)
          rw [unhide HTK] at HM1
          go_wp2_with fail
          clear d0 d1 d2 d3 d4 cb
          refine (unhide HM1).mono ?_
          rintro e w5 ⟨rfl, g5⟩
          have HT5 := hide ((unhide hT).new g5)
          have HB5 := hide (at_rowS g5 (unhide hB) (by simp))
          clear g5 hT hB HM1
          cases tk with
          | false =>
            obtain rfl := unhide RF (of_decide_eq_false (unhide HTK))
            go_wp2
            go_ret
            exact ⟨rfl, fun Y e => absurd e (by simp), (unhide HT5).grown⟩
          | true =>
            have HRW := hide (unhide RN (of_decide_eq_true (unhide HTK)))
            go_wp2_with (refine wp_bit rfl _ rfl ⟨cs, (k0 : Int), (k1 : Int), hi, lo⟩ (unhide HPV).symm ?_; intro w6 g6; have HT6 := hide ((unhide HT5).new g6); have HB6 := hide (at_rowS g6 (unhide HB5) (by simp)); clear g6; have cb := sq_cell (unhide HB6) (k0 + m) (by rw [unhide hL]; omega); have cf := sq_frozen (unhide HB6) (k0 + m))
            have hB7 := heap_setCell_same w6 g (k0 + m) _ _ (.int .i64 lo) (unhide HB6)
            rw [sq_setT] at hB7
            have HB7 := hide hB7
            have HT7 := hide ((unhide HT6).wr (grown_set w6 g (k0 + m) (.int .i64 lo)) hsz)
            have HL7 : Hid ((rr.set (k0 + m) lo).length = 64) := by unfold Hid; rw [List.length_set]; exact unhide hL
            clear hB7 cb cf HT6 HB6 HT5 HB5
            go_roundw
            case rel => exact ⟨m + 1, rr.set (k0 + m) lo, by omega, by go_num, HT7, HB7, HRW, HL7⟩
            case measure => simp [intOf]; omega
        · obtain rfl : m = k1 + 1 - k0 := by omega
          have he : decide (((k0 + (k1 + 1 - k0) : Nat) : Int) ≤ (k1 : Int)) = false := decide_eq_false (by omega)
          have HNX := hide (unhide NEXT rr (unhide hr))
          obtain ⟨Z, HZ⟩ : ∃ Z, Hid (Y.set c rr = Z) := ⟨_, rfl⟩
          rw [unhide HZ] at HNX
          go_wp2_with (first | (refine load_row rfl 104 _ rfl g rfl (sq rr) 104 (unhide hB) _ Try.underlying104 rfl (by rw [sq_size, unhide hL]; kernel_rfl) ?_) | (at_mapUpdate; refine wp_setM rfl _ _ _ rfl b Y c rr rfl rfl rfl (unhide hT).own (by omega) (by omega) Z (unhide HZ) ?_; intro w5 o5 g5; have HT5 := hide ((unhide hT).put o5 g5); clear o5 g5))
          clear d0 d1 d2 d3 d4
          go_roundw
          case rel => exact ⟨j + 1, Z, by omega, by go_num, HT5, HNX⟩
          case measure => simp [intOf]; omega
    · obtain rfl : j = vn := by omega
      have hd : decide ((j : Int) < (j : Int)) = false := decide_eq_false (by omega)
      have er : r = some Y := by
        rw [← unhide HRR]
        have h := unhide hY
        rw [List.take_of_length_le (by omega)] at h
        exact h
      subst er
      go_wp2
      go_ret
      exact ⟨rfl, fun Z e => by rw [← Option.some.inj e]; exact (unhide hT).own, (unhide hT).grown⟩

end Go.Proofs.Ytnjcmlmgjoaeeaa

namespace Go.Proofs.Ytnjcmlmgjoaeeaa
open Go.RowKit

theorem bits_pass (a : Scn) (h1 : 0 ≤ a.fr) (h2 : a.fr ≤ a.to) (h3 : a.to ≤ 63) : passB a = bitsB a := by
  unfold passB bitsB
  rw [decide_eq_true (⟨h1, h2⟩ : 0 ≤ a.fr ∧ a.fr ≤ a.to), decide_eq_true h3, Bool.true_and, Bool.true_and]
theorem pass_neq (a : Scn) (w : World) : (binOp .neq 113 (pVN a) .nilIface).run Try.prog w = .ok (.bool (bitsB a)) w := by
  unfold pVN
  cases h : bitsB a with
  | false => exact nilP w
  | true =>
    rw [if_pos rfl]
    unfold pV
    split
    · exact notNilP _ _ w
    · exact notNilP _ _ w
theorem pass_guard (a : Scn) (x : Operand) (w : World) : (eqGuard .neq 113 x (.const .nilIface) (pVN a) .nilIface).run Try.prog w = .ok () w := by
  unfold pVN
  cases h : bitsB a with
  | false => cases x <;> kernel_rfl
  | true =>
    rw [if_pos rfl]
    unfold pV
    split
    · kernel_rfl
    · kernel_rfl

set_option maxRecDepth 20000 in
set_option maxHeartbeats 1600000 in
theorem passOk (w : World) (v0 : Value) (a : Scn) (t : Bool) (HT : Hid (passB a = t)) :
    Calls Try.prog 77 #[scV v0 a] w fun e w' => e = .returned (.bool t) ∧ w.grownBy w' none := by
  have HP := hide (fun w => passOf w v0 a (pVN a) rfl)
  have HN := hide (fun w => pass_neq a w)
  have HE := hide (fun x w => pass_guard a x w)
  have hb := bits_pass a
  have hp : passB a = t := unhide HT
  obtain ⟨pv, HV⟩ : ∃ pv, Hid (pVN a = pv) := ⟨_, rfl⟩
  obtain ⟨bb, HBB⟩ : ∃ bb, Hid (bitsB a = bb) := ⟨_, rfl⟩
  rw [unhide HV] at HP HN HE
  rw [unhide HBB] at hb HN
  obtain ⟨cs, fr, to, hi, lo⟩ := a
  unfold scV at HP ⊢
  dsimp only at hb HP ⊢
  have HG0 : Hid (w.grownBy (w.alloc (.cells #[v0, .int .i64 fr, .int .i64 to, .int .i64 hi, .int .i64 lo] 38)) none) := World.grownBy_alloc _ _ _
  have HB0 := hide (heap_alloc_new w (.cells #[v0, .int .i64 fr, .int .i64 to, .int .i64 hi, .int .i64 lo] 38))
  obtain ⟨c0, c1, c2, c3, c4⟩ := scanCells (unhide HB0)
  have hno : ¬ (0 ≤ fr ∧ fr ≤ to) ∨ ¬ to ≤ 63 → t = false := fun h => by
    rw [← hp]
    unfold passB
    dsimp only
    rcases h with h | h
    · rw [decide_eq_false h]; rfl
    · rw [decide_eq_false h, Bool.and_false]; rfl
  have hyes : 0 ≤ fr → fr ≤ to → to ≤ 63 → t = bb := fun h1 h2 h3 => by rw [← hp]; exact hb h1 h2 h3
  have HNO := hide hno
  have HYES := hide hyes
  clear HT hp hb hno hyes HV HBB
  by_cases h1 : 0 ≤ fr
  · have d1 := decide_eq_true h1
    by_cases h2 : fr ≤ to
    · have d2 := decide_eq_true h2
      by_cases h3 : to ≤ 63
      · have d3 := decide_eq_true h3
        obtain rfl := unhide HYES h1 h2 h3
        clear HNO HYES h1 h2 h3
        have hn := fun w => unhide HN w
        have he := fun x w => unhide HE x w
        go_enter Try.func77, Try.ntmps77
        go_wp2_with fail
        refine (unhide HP _).mono ?_
        rintro e w2 ⟨rfl, g2⟩
        have HG2 := hide (grown_trans (unhide HG0) g2)
        clear g2 c0 c1 c2 c3 c4
        go_wp2
        go_ret
        exact ⟨rfl, unhide HG2⟩
      · have d3 := decide_eq_false h3
        obtain rfl := unhide HNO (.inr h3)
        clear HNO HYES h1 h2 h3
        go_enter Try.func77, Try.ntmps77
        go_wp2
        go_ret
        exact ⟨rfl, unhide HG0⟩
    · have d2 := decide_eq_false h2
      obtain rfl := unhide HNO (.inl (fun h => h2 h.2))
      clear HNO HYES h1 h2
      go_enter Try.func77, Try.ntmps77
      go_wp2
      go_ret
      exact ⟨rfl, unhide HG0⟩
  · have d1 := decide_eq_false h1
    obtain rfl := unhide HNO (.inl (fun h => h1 h.1))
    clear HNO HYES h1
    go_enter Try.func77, Try.ntmps77
    go_wp2
    go_ret
    exact ⟨rfl, unhide HG0⟩

end Go.Proofs.Ytnjcmlmgjoaeeaa

namespace Go.Proofs.Ytnjcmlmgjoaeeaa
open Go.RowKit

set_option maxRecDepth 20000 in
set_option maxHeartbeats 1600000 in
theorem scanOk (X : Array Value) (hs : X.size = 21) (n : Nat) (F : Hid (∀ (c : Int) (w : World), Calls Try.prog 87 #[.agg X, .int .i64 c] w fun e w' => e = .returned (.bool (decide (0 ≤ c ∧ c ≤ (n : Int) - 1))) ∧ w.grownBy w' none))
    (w : World) (vo : Option Addr) (vn vc : Nat) (a : Scn) (hv : Rd .i64 w vo vn a.cs) (hvn : vn ≤ 4194304) (t : Bool) (HT : Hid ((okComps n a.cs && passB a) = t)) :
    Calls Try.prog 58 #[.agg X, scV (.slice vo vn vc) a] w fun e w' => e = .returned (.bool t) ∧ w.grownBy w' none := by
  obtain ⟨b3, HB3⟩ : ∃ b, Hid (passB a = b) := ⟨_, rfl⟩
  obtain ⟨b2, HB2⟩ : ∃ b, Hid (okComps n a.cs = b) := ⟨_, rfl⟩
  have HP := hide (fun w => passOk w (.slice vo vn vc) a b3 HB3)
  have HC := hide (fun W (g : w.grownBy W none) => hasComps X hs n F vo vn vc a.cs W (hv.grown g) hvn)
  rw [unhide HB2] at HC
  have hp := unhide HT
  rw [unhide HB2, unhide HB3] at hp
  obtain ⟨cs, fr, to, hi, lo⟩ := a
  unfold scV at HP ⊢
  dsimp only at hv HP ⊢
  have HG0 : Hid (w.grownBy ((w.alloc (.cells X 71)).alloc (.cells #[.slice vo vn vc, .int .i64 fr, .int .i64 to, .int .i64 hi, .int .i64 lo] 38)) none) := grown_alloc (grown_alloc (World.grownBy.refl _ _) _) _
  have HB0 : Hid (((w.alloc (.cells X 71)).alloc (.cells #[.slice vo vn vc, .int .i64 fr, .int .i64 to, .int .i64 hi, .int .i64 lo] 38)).heap[w.heap.size]? = some (.cells X 71 (0, 0))) := at_rowS (World.grownBy_alloc _ _ none) (heap_alloc_new w _) (by simp)
  have HB1 : Hid (((w.alloc (.cells X 71)).alloc (.cells #[.slice vo vn vc, .int .i64 fr, .int .i64 to, .int .i64 hi, .int .i64 lo] 38)).heap[w.heap.size + 1]? = some (.cells #[.slice vo vn vc, .int .i64 fr, .int .i64 to, .int .i64 hi, .int .i64 lo] 38 (0, 0))) := by
    have := heap_alloc_new (w.alloc (.cells X 71)) (.cells #[.slice vo vn vc, .int .i64 fr, .int .i64 to, .int .i64 hi, .int .i64 lo] 38)
    unfold Hid
    simpa using this
  obtain ⟨W2, HW2⟩ : ∃ W2, Hid (((w.alloc (.cells X 71)).alloc (.cells #[.slice vo vn vc, .int .i64 fr, .int .i64 to, .int .i64 hi, .int .i64 lo] 38)) = W2) := ⟨_, rfl⟩
  rw [unhide HW2] at HG0 HB0 HB1
  obtain ⟨c0, c1, c2, c3, c4⟩ := scanCells (unhide HB1)
  have HS := hide hs
  clear hv HT F hs
  go_enter Try.func58, Try.ntmps58
  go_wp2_with (rw [unhide HW2]; refine wpList_load_row rfl 71 _ rfl w.heap.size rfl X 71 (unhide HB0) _ Try.underlying71 rfl (by rw [unhide HS]; kernel_rfl) ?_)
  clear HW2
  refine (unhide HC _ (unhide HG0)).mono ?_
  rintro e w3 ⟨rfl, g3⟩
  have HG3 := hide (grown_trans (unhide HG0) g3)
  have hB3 := at_rowS g3 (unhide HB1) (by simp)
  clear c0 c1 c2 c3 c4 g3
  cases b2 with
  | false =>
    obtain rfl : t = false := by rw [← hp]; rfl
    clear hB3
    go_wp2
    go_ret
    exact ⟨rfl, unhide HG3⟩
  | true =>
    obtain rfl : t = b3 := by rw [← hp]; rfl
    obtain ⟨c0, c1, c2, c3, c4⟩ := scanCells hB3
    clear hB3
    go_wp2_with fail
    refine (unhide HP _).mono ?_
    rintro e w4 ⟨rfl, g4⟩
    have HG4 := hide (grown_trans (unhide HG3) g4)
    clear g4 c0 c1 c2 c3 c4
    go_wp2
    go_ret
    exact ⟨rfl, unhide HG4⟩

end Go.Proofs.Ytnjcmlmgjoaeeaa

namespace Go.Proofs.Ytnjcmlmgjoaeeaa
open Go.RowKit

/-- What a frame that was fixed tells of scans. -/
def TellsOk (X : Array Value) (fb : Bool) (n : Nat) : Prop := ∀ (w : World) (vo : Option Addr) (vn vc : Nat) (a : Scn), Rd .i64 w vo vn a.cs → vn ≤ 4194304 → ∀ t, Hid (scanB fb n a = t) →
    Calls Try.prog 58 #[.agg X, scV (.slice vo vn vc) a] w fun e w' => e = .returned (.bool t) ∧ w.grownBy w' none
theorem okComps_none (cs : List Int) : okComps 0 cs = false := by
  cases hk : okComps 0 cs with
  | false => rfl
  | true =>
    simp only [okComps, Bool.and_eq_true, decide_eq_true_eq] at hk
    have := compsTo_len hk.1
    omega
theorem tells_of {X : Array Value} {p wd ht rs : Int} {n : Nat} {C : Nat → Nat → Int} {b : Bool} (HFB : Hid (frameB p wd ht rs n C = b)) (h1 : b = false → X = #[.int .i64 0, .int .i64 0, .int .i64 0, .int .i64 0, .int .i64 0, .int .i64 0, .int .i64 0, .int .i64 0, .int .i64 0, .int .i64 0, .int .i64 0, .int .i64 0, .int .i64 0, .int .i64 0, .int .i64 0, .int .i64 0, .int .i64 0, .int .i64 0, .int .i64 0, .int .i64 0, .int .i64 0]) (h2 : b = true → ∃ D, Fx X p wd ht rs n D ∧ ∀ i, i < n → D i = C i) : TellsOk X b n := by
  intro w vo vn vc a hv hvn t HT
  cases b with
  | false =>
    obtain rfl := h1 rfl
    have e : t = false := by rw [← unhide HT]; rfl
    subst e
    exact scanOk #[.int .i64 0, .int .i64 0, .int .i64 0, .int .i64 0, .int .i64 0, .int .i64 0, .int .i64 0, .int .i64 0, .int .i64 0, .int .i64 0, .int .i64 0, .int .i64 0, .int .i64 0, .int .i64 0, .int .i64 0, .int .i64 0, .int .i64 0, .int .i64 0, .int .i64 0, .int .i64 0, .int .i64 0] rfl 0 (fun c w => (hasComp_none c w).mono (fun e w' h => by rw [show decide (0 ≤ c ∧ c ≤ ((0 : Nat) : Int) - 1) = false from decide_eq_false (by omega)]; exact h)) w vo vn vc a hv hvn false (by unfold Hid; rw [okComps_none]; rfl)
  | true =>
    obtain ⟨D, hF, hD⟩ := h2 rfl
    have hn4 := (geo_of (unhide HFB)).n4
    exact scanOk X hF.size n (fun c w => hasComp X p wd ht rs n D hF hn4 c _ rfl w) w vo vn vc a hv hvn t (by unfold Hid; rw [← unhide HT]; unfold scanB; rw [Bool.true_and])

set_option maxRecDepth 20000 in
set_option maxHeartbeats 1600000 in
theorem giveScanOk : ImplScanOk := by
  intro p wd ht rs fo n fc C vo vn vc a w hr hn hv hvn fb t HFB HT
  have HCALL := hide (fun (X : Array Value) (W : World) (h : TellsOk X fb n) (hg : w.grownBy W none) => h W vo vn vc a (hv.grown hg) (by omega) t HT)
  obtain ⟨cs, fr, to, hi, lo⟩ := a
  unfold scV at HCALL
  dsimp only at hv HCALL ⊢
  obtain ⟨W0, HW⟩ : ∃ W0, Hid ((w.alloc (.cells #[.int .i64 p, .int .i64 wd, .int .i64 ht, .int .i64 rs, .slice fo n fc] 26)).alloc (.cells #[.slice vo vn vc, .int .i64 fr, .int .i64 to, .int .i64 hi, .int .i64 lo] 38) = W0) := ⟨_, rfl⟩
  have HG0 : Hid (w.grownBy W0.drew none) := by rw [← unhide HW]; exact grown_drew (grown_alloc (grown_alloc (World.grownBy.refl _ _) _) _)
  have HB0 : Hid (W0.drew.heap[w.heap.size]? = some (.cells #[.int .i64 p, .int .i64 wd, .int .i64 ht, .int .i64 rs, .slice fo n fc] 26 (0, 0))) := by
    show W0.heap[w.heap.size]? = _
    rw [← unhide HW]
    exact at_rowS (World.grownBy_alloc _ _ none) (heap_alloc_new w _) (by simp)
  have HB1 : Hid (W0.drew.heap[w.heap.size + 1]? = some (.cells #[.slice vo vn vc, .int .i64 fr, .int .i64 to, .int .i64 hi, .int .i64 lo] 38 (0, 0))) := by
    show W0.heap[w.heap.size + 1]? = _
    rw [← unhide HW]
    have := heap_alloc_new (w.alloc (.cells #[.int .i64 p, .int .i64 wd, .int .i64 ht, .int .i64 rs, .slice fo n fc] 26)) (.cells #[.slice vo vn vc, .int .i64 fr, .int .i64 to, .int .i64 hi, .int .i64 lo] 38)
    simpa using this
  have HFIX := hide (fixFrame p wd ht rs fo n fc C W0.drew (hr.grown (unhide HG0)) hn fb HFB)
  clear hr hv HT
  go_enter Try.func23, Try.ntmps23
  go_wp2
  rw [unhide HW]
  clear HW
  refine wp_region_noPanic ?_
  refine wp_region_tail (fun W => W0.drew.grownBy W none) [true, false, true, false, false] (by kernel_rfl) (fun _ _ _ _ _ h => h) rfl (by kernel_rfl) (World.grownBy.refl _ _) ?_
  generalize W0.drew = W1 at *
  refine heldF_take (v := .agg #[.int .i64 p, .int .i64 wd, .int .i64 ht, .int .i64 rs, .slice fo n fc]) (Or.inl ⟨by rfl, ?_⟩) ?_
  · intro w' hSw
    exact exec_row 26 _ rfl w.heap.size rfl _ _ (grown_atT hSw (unhide HB0) (by simp)) _ Try.underlying26 rfl (by kernel_rfl)
  try simp only [Act.put, List.setIfInBounds_toArray, List.set_cons_zero, List.set_cons_succ]
  refine heldF_skip ?_
  refine heldF_take (v := .agg #[.slice vo vn vc, .int .i64 fr, .int .i64 to, .int .i64 hi, .int .i64 lo]) (Or.inl ⟨by rfl, ?_⟩) ?_
  · intro w' hSw
    exact exec_row 38 _ rfl (w.heap.size + 1) rfl _ _ (grown_atT hSw (unhide HB1) (by simp)) _ Try.underlying38 rfl (by kernel_rfl)
  try simp only [Act.put, List.setIfInBounds_toArray, List.set_cons_zero, List.set_cons_succ]
  refine heldF_skip (heldF_skip (heldF_nil ?_))
  refine tailF_skip ?_
  refine tailF_step (fun K hK => ?_)
  go_simp
  refine (unhide HFIX).mono ?_
  rintro e w2 ⟨X, rfl, h1, h2, g2⟩
  have HT2 := hide (tells_of HFB h1 h2)
  have HG2 := hide (grown_trans (unhide HG0) g2)
  refine hK.out _ _ g2 ?_
  clear hK K h1 h2 HFIX
  try simp only [Act.put, List.setIfInBounds_toArray, List.set_cons_zero, List.set_cons_succ]
  refine tailF_skip ?_
  refine tailF_step (fun K hK => ?_)
  go_simp
  refine (unhide HCALL X w2 (unhide HT2) (unhide HG2)).mono ?_
  rintro e w3 ⟨rfl, g3⟩
  have HG3 := hide (grown_trans (unhide HG2) g3)
  refine hK.out _ _ (grown_trans g2 g3) ?_
  have g23 := hide (grown_trans g2 g3)
  clear hK K HCALL g2 g3
  try simp only [Act.put, List.setIfInBounds_toArray, List.set_cons_zero, List.set_cons_succ]
  refine tailF_step (fun K hK => ?_)
  go_simp
  refine hK.out _ _ (unhide g23) ?_
  clear hK K
  refine tailF_nil (NoPanic.normal ?_)
  go_wp2
  go_ret
  exact ⟨rfl, unhide HG3⟩

end Go.Proofs.Ytnjcmlmgjoaeeaa

namespace Go.Proofs.Ytnjcmlmgjoaeeaa
open Go.RowKit

/-- A frame in its box beside the map. -/
structure Lq (w wr : World) (X : Array Value) (b : Nat) (Y : List (List Int)) : Prop where
  fr : wr.heap[w.heap.size]? = some (.cells X 71 (0, 0))
  own : OwM wr b Y
  lo : w.heap.size + 1 ≤ b
  grown : w.grownBy wr none
theorem Lq.size {w wr : World} {X : Array Value} {b : Nat} {Y : List (List Int)} (h : Lq w wr X b Y) : w.heap.size + 1 ≤ wr.heap.size := (Array.getElem?_eq_some_iff.1 h.fr).1
theorem Lq.new {w wr w' : World} {X : Array Value} {b : Nat} {Y : List (List Int)} (h : Lq w wr X b Y) (g : wr.grownBy w' none) : Lq w w' X b Y :=
  ⟨at_rowS g h.fr (by simp), h.own.keep g (by simp), h.lo, grown_trans h.grown g⟩
theorem Lq.put {w wr w' : World} {X : Array Value} {b : Nat} {Y Z : List (List Int)} (h : Lq w wr X b Y) (o : OwM w' b Z) (g : wr.grownBy w' (some b)) : Lq w w' X b Z :=
  ⟨at_rowS g h.fr (fun e => by injection e with e; have := h.lo; omega), o, h.lo, grown_new h.grown g (fun x e => by injection e with e; have := h.lo; omega)⟩

set_option maxRecDepth 20000 in
set_option maxHeartbeats 6400000 in
theorem leftOf_no (v : Value) (w : World) :
    Calls Try.prog 47 #[.agg #[.int .i64 0, .int .i64 0, .int .i64 0, .int .i64 0, .int .i64 0, .int .i64 0, .int .i64 0, .int .i64 0, .int .i64 0, .int .i64 0, .int .i64 0, .int .i64 0, .int .i64 0, .int .i64 0, .int .i64 0, .int .i64 0, .int .i64 0, .int .i64 0, .int .i64 0, .int .i64 0, .int .i64 0], v] w fun e w' => e = .returned (.tuple #[.map none, .bool false]) ∧ w.grownBy w' none := by
  obtain ⟨X, HX⟩ : ∃ X : Array Value, Hid (#[.int .i64 0, .int .i64 0, .int .i64 0, .int .i64 0, .int .i64 0, .int .i64 0, .int .i64 0, .int .i64 0, .int .i64 0, .int .i64 0, .int .i64 0, .int .i64 0, .int .i64 0, .int .i64 0, .int .i64 0, .int .i64 0, .int .i64 0, .int .i64 0, .int .i64 0, .int .i64 0, .int .i64 0] = X) := ⟨_, rfl⟩
  have HN := hide (fun W => isNone_yes W)
  have HS : Hid (X.size = 21) := by unfold Hid; rw [← unhide HX]; rfl
  rw [unhide HX] at HN ⊢
  clear HX
  have HB0 := hide (heap_alloc_new w (.cells X 71))
  go_enter Try.func47, Try.ntmps47
  go_wp2_with (refine wpList_load_row rfl 71 _ rfl w.heap.size rfl X 71 (unhide HB0) _ Try.underlying71 rfl (by rw [unhide HS]; kernel_rfl) ?_)
  refine (unhide HN _).mono ?_
  rintro e w1 ⟨rfl, g1⟩
  have HG1 := hide (grown_trans (World.grownBy_alloc w (.cells X 71) none) g1)
  clear g1
  go_wp2
  refine bodyPost_ret (v := .tuple #[.map none, .bool false]) (by simp [results, Try.results47, go_sem]) rfl ⟨rfl, unhide HG1⟩

set_option maxRecDepth 20000 in
set_option maxHeartbeats 6400000 in
theorem leftOf_yes (X : Array Value) (p wd ht rs : Int) (n : Nat) (D : Nat → Nat → Int) (hF : Fx X p wd ht rs n D) (hp : (p == 0) = false) (hn : n ≤ 4) (HTO : TellsOk X true n) (v : Value) (S : List Scn) (w : World) (hS : RdSs w v S) (hcs : ∀ a ∈ S, a.cs.length ≤ 4194304) (hSl : S.length ≤ 4194304) (r : Option (List (List Int))) (HR : Hid (leftO true n S = r)) :
    Calls Try.prog 47 #[.agg X, v] w fun e w' => ∃ mv, e = .returned (.tuple #[mv, .bool r.isSome]) ∧ (∀ Y, r = some Y → ∃ b, mv = .map (some b) ∧ w.heap.size ≤ b ∧ OwM w' b Y) ∧ w.grownBy w' none := by
  have HS := hide hF.size
  have h4 := hF.c4
  have HNO := hide (fun W => isNone_no X p wd ht rs n D hF hp W)
  obtain ⟨vo, vc, rfl, hSr⟩ := hS
  have hr := unhide HR
  unfold leftO at hr
  rw [Bool.true_and] at hr
  have HB0 := hide (heap_alloc_new w (.cells X 71))
  have HG0 : Hid (w.grownBy (w.alloc (.cells X 71)) none) := World.grownBy_alloc _ _ _
  have HSR := hide hSr
  have HCS := hide hcs
  have HX4 : Hid (X[4]? = some (.int .i64 n)) := h4
  clear hSr hcs hF h4 HR
  go_enter Try.func47, Try.ntmps47
  go_wp2_with (refine wpList_load_row rfl 71 _ rfl w.heap.size rfl X 71 (unhide HB0) _ Try.underlying71 rfl (by rw [unhide HS]; kernel_rfl) ?_)
  refine (unhide HNO _).mono ?_
  rintro e w1 ⟨rfl, g1⟩
  have HG1 := hide (grown_trans (unhide HG0) g1)
  have HB1 := hide (at_rowS g1 (unhide HB0) (by simp))
  clear g1 HG0 HB0 HNO
  by_cases h40 : S.length ≤ 40
  · have hgt : decide ((40 : Int) < (S.length : Int)) = false := decide_eq_false (by omega)
    rw [if_pos (decide_eq_true h40)] at hr
    have HRR := hide hr
    have c4 : w1.cell? ⟨w.heap.size, 4, none⟩ = some (.int .i64 n) := by rw [cell_of_row w1 _ 4 _ _ (0, 0) (unhide HB1)]; exact unhide HX4
    clear hr
    go_wp2_with fail
    clear c4
    refine (nothingTold n hn _).mono ?_
    rintro e w2 ⟨b, rfl, hb2, o2, g2⟩
    have HL2 : Hid (Lq w w2 X b (nothing n)) := ⟨at_rowS g2 (unhide HB1) (by simp), o2, by have := (Array.getElem?_eq_some_iff.1 (unhide HB1)).1; omega, grown_trans (unhide HG1) g2⟩
    clear HG1 HB1 hb2 o2 g2 hgt
    go_wp2
    go_loopw [21] (fun iv wr => ∃ (i : Nat) (Y : List (List Int)), i ≤ S.length ∧ iv = .int .i64 i ∧ Hid (Lq w wr X b Y) ∧ Hid (leftAll true n (S.take i) (nothing n) = some Y)) (fun iv _ => S.length - (intOf iv).toNat)
    case atStart => exact ⟨0, _, Nat.zero_le _, rfl, HL2, rfl⟩
    case round =>
      clear HL2
      obtain ⟨i, Y, hi, rfl, hf, hY⟩ := hrel
      by_cases hlt : i < S.length
      · have hltI : decide ((i : Int) < (S.length : Int)) = true := decide_eq_true (by omega)
        have hltJ : (i : Int) < (S.length : Int) := by omega
        have i0 : (0 : Int) ≤ (i : Int) := by omega
        obtain ⟨sb, soff, cf, rfl, hcell, hsc, hrd⟩ := unhide HSR i hlt
        obtain ⟨a, HA⟩ : ∃ a, Hid (S.getD i Scn.zero = a) := ⟨_, rfl⟩
        have ea : S[i] = a := by rw [← unhide HA]; simp [hlt]
        have hcl := unhide HCS S[i] (List.getElem_mem hlt)
        have NEXT : Hid (∀ Z, scanB true n a = true → leftScan a Y = some Z → leftAll true n (S.take (i + 1)) (nothing n) = some Z) := fun Z h1 h2 => leftAll_next i hlt (unhide hY) (by rw [ea]; exact h1) (by rw [ea]; exact h2)
        have FAIL : Hid (scanB true n a = false ∨ leftScan a Y = none → r = none) := fun h => by rw [← unhide HRR]; exact leftAll_fails i hlt (unhide hY) (by rw [ea]; exact h)
        have HR64 := hide (leftAll_step _ _ Y (nothing_rows n) (unhide hY)).1
        rw [ea] at hsc hrd hcl
        clear ea HA
        obtain ⟨cs, fr, to, hi', lo⟩ := a
        obtain ⟨co, cc, ec, hrc⟩ := hrd
        dsimp only at hsc hrc hcl ec
        obtain ⟨cn, HCN⟩ : ∃ cn, Hid (cs.length = cn) := ⟨_, rfl⟩
        rw [unhide HCN] at ec hrc hcl
        obtain ⟨k0, k1, k2, k3, k4⟩ := rowScan (fun j hj => (unhide hf).grown.cell (hcell j hj) (by simp)) hsc
        rw [ec] at k0
        dsimp only at k1 k2 k3 k4
        have HS5 := hide (heap_alloc_new wr (.cells #[.slice co cn cc, .int .i64 fr, .int .i64 to, .int .i64 hi', .int .i64 lo] 38))
        have HF5 := hide ((unhide hf).new (World.grownBy_alloc wr (.cells #[.slice co cn cc, .int .i64 fr, .int .i64 to, .int .i64 hi', .int .i64 lo] 38) none))
        obtain ⟨s0, s1, s2, s3, s4⟩ := scanCells (unhide HS5)
        have HRC := hide hrc
        obtain ⟨t, HT⟩ : ∃ t, Hid (scanB true n ⟨cs, fr, to, hi', lo⟩ = t) := ⟨_, rfl⟩
        have HSC := hide (fun W (g : w.grownBy W none) => HTO W co cn cc ⟨cs, fr, to, hi', lo⟩ ((unhide HRC).grown g) hcl t HT)
        unfold scV at HSC
        dsimp only at HSC
        clear hcell hsc hrc ec
        go_wp2_with (refine wpList_load_row rfl 71 _ rfl w.heap.size rfl X 71 (unhide HF5).fr _ Try.underlying71 rfl (by rw [unhide HS]; kernel_rfl) ?_)
        clear s0 s1 s2 s3 s4 k0 k1 k2 k3 k4
        refine (unhide HSC _ (unhide HF5).grown).mono ?_
        rintro e w6 ⟨rfl, g6⟩
        have HF6 := hide ((unhide HF5).new g6)
        have HS6 := hide (at_rowS g6 (unhide HS5) (by simp))
        clear HF5 HS5 g6 HSC hf
        obtain ⟨s0, s1, s2, s3, s4⟩ := scanCells (unhide HS6)
        cases t with
        | false =>
          obtain rfl := unhide FAIL (.inl (unhide HT))
          go_wp2
          refine bodyPost_ret (v := .tuple #[.map none, .bool false]) (by simp [results, Try.results47, go_sem]) rfl ⟨_, rfl, fun Y e => absurd e (by simp), (unhide HF6).grown⟩
        | true =>
          obtain ⟨q, HQ⟩ : ∃ q, Hid (leftScan ⟨cs, fr, to, hi', lo⟩ Y = q) := ⟨_, rfl⟩
          have HTL := hide (tell n hn Y (unhide HR64) b co cn cc ⟨cs, fr, to, hi', lo⟩ w6 ((unhide HRC).grown (unhide HF6).grown) hcl (unhide HF6).own (unhide HT) q HQ)
          unfold scV at HTL
          dsimp only at HTL
          go_wp2_with fail
          clear s0 s1 s2 s3 s4
          refine (unhide HTL).mono ?_
          rintro e w7 ⟨rfl, o7, g7⟩
          have HO7 := hide o7
          have HG7 := hide g7
          clear HTL o7 g7
          cases q with
          | none =>
            obtain rfl := unhide FAIL (.inr (unhide HQ))
            have HGG := hide (grown_new (unhide HF6).grown (unhide HG7) (fun x e => by injection e with e; have := (unhide HF6).lo; omega))
            go_wp2
            refine bodyPost_ret (v := .tuple #[.map none, .bool false]) (by simp [results, Try.results47, go_sem]) rfl ⟨_, rfl, fun Y e => absurd e (by simp), unhide HGG⟩
          | some Z =>
            have HF7 := hide ((unhide HF6).put (unhide HO7 Z rfl) (unhide HG7))
            have HNX := hide (unhide NEXT Z (unhide HT) (unhide HQ))
            clear HF6 HO7 HG7
            go_wp2
            go_roundw
            case rel => exact ⟨i + 1, Z, by omega, by go_num, HF7, HNX⟩
            case measure => simp [intOf]; omega
      · obtain rfl : i = S.length := by omega
        have hltI : decide ((S.length : Int) < (S.length : Int)) = false := decide_eq_false (by omega)
        have er : r = some Y := by
          rw [← unhide HRR]
          have h := unhide hY
          rw [List.take_of_length_le (Nat.le_refl _)] at h
          exact h
        subst er
        go_wp2
        refine bodyPost_ret (v := .tuple #[.map (some b), .bool true]) (by simp [results, Try.results47, go_sem]) rfl ⟨_, rfl, fun Z e => ⟨b, rfl, by have := (unhide hf).lo; omega, by rw [← Option.some.inj e]; exact (unhide hf).own⟩, (unhide hf).grown⟩
  · have hgt : decide ((40 : Int) < (S.length : Int)) = true := decide_eq_true (by omega)
    rw [if_neg (by rw [decide_eq_false h40]; simp)] at hr
    subst hr
    go_wp2
    refine bodyPost_ret (v := .tuple #[.map none, .bool false]) (by simp [results, Try.results47, go_sem]) rfl ⟨_, rfl, fun Y e => absurd e (by simp), unhide HG1⟩

end Go.Proofs.Ytnjcmlmgjoaeeaa

namespace Go.Proofs.Ytnjcmlmgjoaeeaa
open Go.RowKit

theorem zero_row {c : List Int} (hc : c.length = 64) : (c == zs64) = c.all (fun x => x == 0) := by
  rw [Bool.eq_iff_iff, beq_iff_eq, List.all_eq_true]
  constructor
  · intro e x hx
    rw [e] at hx
    unfold zs64 at hx
    rw [(List.mem_replicate.1 hx).2]
    rfl
  · intro h
    unfold zs64
    exact List.eq_replicate_iff.2 ⟨hc, fun x hx => by simpa using h x hx⟩

set_option maxRecDepth 20000 in
set_option maxHeartbeats 6400000 in
theorem allTold (Y : List (List Int)) (h64 : ∀ c, c < Y.length → (Y.getD c []).length = 64) (b : Nat) (w : World) (hM : OwM w b Y) (t : Bool) (HT : Hid (Y.all (fun row => row.all (fun x => x == 0)) = t)) :
    Calls Try.prog 48 #[.map (some b)] w fun e w' => e = .returned (.bool t) ∧ w.grownBy w' none := by
  obtain ⟨D, nn, hown, hs, hat, hhas⟩ := hM
  have HOWN := hide hown
  have HAT := hide hat
  have HHAS := hide hhas
  have hbw := hown.lt
  have H64 := hide h64
  clear hown hat hhas hs h64
  go_enter Try.func48, Try.ntmps48
  go_wp2_with (at_range; refine wpList_range_own _ rfl _ 77 rfl 3 104 keyedN Try.underlying77 sqR b nn D rfl (unhide HOWN) ?_; intro w0 hrg0 hg0 hs0; replace hrg0 := hide hrg0; replace hg0 := hide hg0)
  go_frame
  go_loopw [7] (fun _ wr => ∃ left cnt, Hid (wr.ranges Try.prog 3 sqR b w.heap.size nn D left cnt) ∧ Hid (∀ kl, left kl = true → ∃ i, i < Y.length ∧ kl = keyN i) ∧ Hid (∀ i, i < Y.length → left (keyN i) = false → (Y.getD i []).all (fun x => x == 0) = true) ∧ Hid (w.grownBy wr none)) (fun _ wr => wr.rangeLeft b w.heap.size)
  case atStart =>
    refine ⟨_, _, hrg0, HHAS, fun i hi h => ?_, hg0⟩
    rw [Maps.has_true_of_atKey (unhide HAT i hi)] at h
    cases h
  case round =>
    clear hrg0 hg0
    obtain ⟨left, cnt, hrg, hin, hdn, hG⟩ := hrel
    go_wp2_with (at_next; refine wpList_next_ranges _ rfl _ rfl 3 keyedN sqR (Value.int .i64) (fun c => .agg (sq c)) (fun key kl hkey => by obtain ⟨x, rfl, _⟩ := Maps.keyOf_int_inv Try.underlying3 hkey; exact ⟨x, rfl⟩) (fun v y hv => by obtain ⟨c, rfl, _⟩ := sqR_inv hv; exact ⟨c, rfl⟩) b w.heap.size nn D left cnt rfl (unhide hrg) ?_ ?_)
    · intro _ hl0
      have et : t = true := by
        rw [← unhide HT, List.all_eq_true]
        intro row hr
        obtain ⟨i, hi, rfl⟩ := List.getElem_of_mem hr
        have := unhide hdn i hi (hl0 _)
        rw [show Y.getD i [] = Y[i] by simp [hi]] at this
        exact this
      subst et
      clear hl0
      go_wp2
      go_ret
      exact ⟨rfl, unhide hG⟩
    · intro x c kl y ps w1 cnt1 hkey hlk hv hat1 hrg1 hlt hg1 hs1 hen
      obtain ⟨i, hi, rfl⟩ := unhide hin kl hlk
      have hc : c = Y.getD i [] := by
        have h1 := unhide HAT i hi (.map [])
        rw [hat1] at h1
        rw [sqR_mk] at hv
        have h2 := congrArg Prod.fst (Option.some.inj hv)
        exact datRow_inj (h2.trans h1)
      have hcl : c.length = 64 := by rw [hc]; exact unhide H64 i hi
      obtain ⟨z, HZ⟩ : ∃ z, Hid ((c == zs64) = z) := ⟨_, rfl⟩
      have hsq : ∀ w, (Op.equalIn 10000 104 (.agg (sq c)) (.agg #[.int .i64 0, .int .i64 0, .int .i64 0, .int .i64 0, .int .i64 0, .int .i64 0, .int .i64 0, .int .i64 0, .int .i64 0, .int .i64 0, .int .i64 0, .int .i64 0, .int .i64 0, .int .i64 0, .int .i64 0, .int .i64 0, .int .i64 0, .int .i64 0, .int .i64 0, .int .i64 0, .int .i64 0, .int .i64 0, .int .i64 0, .int .i64 0, .int .i64 0, .int .i64 0, .int .i64 0, .int .i64 0, .int .i64 0, .int .i64 0, .int .i64 0, .int .i64 0, .int .i64 0, .int .i64 0, .int .i64 0, .int .i64 0, .int .i64 0, .int .i64 0, .int .i64 0, .int .i64 0, .int .i64 0, .int .i64 0, .int .i64 0, .int .i64 0, .int .i64 0, .int .i64 0, .int .i64 0, .int .i64 0, .int .i64 0, .int .i64 0, .int .i64 0, .int .i64 0, .int .i64 0, .int .i64 0, .int .i64 0, .int .i64 0, .int .i64 0, .int .i64 0, .int .i64 0, .int .i64 0, .int .i64 0, .int .i64 0, .int .i64 0, .int .i64 0])).run Try.prog w = .ok z w := fun w => by rw [← sq_z64, eqSq hcl zs64_len w, unhide HZ]
      have HRG := hide hrg1
      have HG1 := hide (grown_new (unhide hG) hg1 (fun x e => by injection e with e; omega))
      have HCL := hide hcl
      have HC := hide hc
      have HZ0 := hide (heap_alloc_new w1 (.cells #[.int .i64 0, .int .i64 0, .int .i64 0, .int .i64 0, .int .i64 0, .int .i64 0, .int .i64 0, .int .i64 0, .int .i64 0, .int .i64 0, .int .i64 0, .int .i64 0, .int .i64 0, .int .i64 0, .int .i64 0, .int .i64 0, .int .i64 0, .int .i64 0, .int .i64 0, .int .i64 0, .int .i64 0, .int .i64 0, .int .i64 0, .int .i64 0, .int .i64 0, .int .i64 0, .int .i64 0, .int .i64 0, .int .i64 0, .int .i64 0, .int .i64 0, .int .i64 0, .int .i64 0, .int .i64 0, .int .i64 0, .int .i64 0, .int .i64 0, .int .i64 0, .int .i64 0, .int .i64 0, .int .i64 0, .int .i64 0, .int .i64 0, .int .i64 0, .int .i64 0, .int .i64 0, .int .i64 0, .int .i64 0, .int .i64 0, .int .i64 0, .int .i64 0, .int .i64 0, .int .i64 0, .int .i64 0, .int .i64 0, .int .i64 0, .int .i64 0, .int .i64 0, .int .i64 0, .int .i64 0, .int .i64 0, .int .i64 0, .int .i64 0, .int .i64 0] 104))
      have HLT := hide hlt
      clear hkey hlk hv hat1 hrg1 hg1 hcl hc hlt
      have hws : w.heap.size < w1.heap.size := (unhide HRG).lt
      have HGA := hide (grown_alloc (unhide HG1) (.cells #[.int .i64 0, .int .i64 0, .int .i64 0, .int .i64 0, .int .i64 0, .int .i64 0, .int .i64 0, .int .i64 0, .int .i64 0, .int .i64 0, .int .i64 0, .int .i64 0, .int .i64 0, .int .i64 0, .int .i64 0, .int .i64 0, .int .i64 0, .int .i64 0, .int .i64 0, .int .i64 0, .int .i64 0, .int .i64 0, .int .i64 0, .int .i64 0, .int .i64 0, .int .i64 0, .int .i64 0, .int .i64 0, .int .i64 0, .int .i64 0, .int .i64 0, .int .i64 0, .int .i64 0, .int .i64 0, .int .i64 0, .int .i64 0, .int .i64 0, .int .i64 0, .int .i64 0, .int .i64 0, .int .i64 0, .int .i64 0, .int .i64 0, .int .i64 0, .int .i64 0, .int .i64 0, .int .i64 0, .int .i64 0, .int .i64 0, .int .i64 0, .int .i64 0, .int .i64 0, .int .i64 0, .int .i64 0, .int .i64 0, .int .i64 0, .int .i64 0, .int .i64 0, .int .i64 0, .int .i64 0, .int .i64 0, .int .i64 0, .int .i64 0, .int .i64 0] 104))
      have HRA := hide ((unhide HRG).alloc (.cells #[.int .i64 0, .int .i64 0, .int .i64 0, .int .i64 0, .int .i64 0, .int .i64 0, .int .i64 0, .int .i64 0, .int .i64 0, .int .i64 0, .int .i64 0, .int .i64 0, .int .i64 0, .int .i64 0, .int .i64 0, .int .i64 0, .int .i64 0, .int .i64 0, .int .i64 0, .int .i64 0, .int .i64 0, .int .i64 0, .int .i64 0, .int .i64 0, .int .i64 0, .int .i64 0, .int .i64 0, .int .i64 0, .int .i64 0, .int .i64 0, .int .i64 0, .int .i64 0, .int .i64 0, .int .i64 0, .int .i64 0, .int .i64 0, .int .i64 0, .int .i64 0, .int .i64 0, .int .i64 0, .int .i64 0, .int .i64 0, .int .i64 0, .int .i64 0, .int .i64 0, .int .i64 0, .int .i64 0, .int .i64 0, .int .i64 0, .int .i64 0, .int .i64 0, .int .i64 0, .int .i64 0, .int .i64 0, .int .i64 0, .int .i64 0, .int .i64 0, .int .i64 0, .int .i64 0, .int .i64 0, .int .i64 0, .int .i64 0, .int .i64 0, .int .i64 0] 104))
      have hbr := (unhide HRG).owns.lt
      clear hs1
      cases z with
      | false =>
        have et : t = false := by
          have h1 := unhide HZ
          rw [zero_row (unhide HCL), unhide HC] at h1
          rw [← unhide HT]
          cases h2 : Y.all (fun row => row.all (fun x => x == 0)) with
          | false => rfl
          | true =>
            have h3 := List.all_eq_true.1 h2 (Y.getD i []) (by rw [show Y.getD i [] = Y[i] by simp [hi]]; exact List.getElem_mem hi)
            rw [h3] at h1
            cases h1
        subst et
        go_wp2_with (first | (refine store_row rfl 104 _ _ rfl w1.heap.size rfl (sq c) rfl #[.int .i64 0, .int .i64 0, .int .i64 0, .int .i64 0, .int .i64 0, .int .i64 0, .int .i64 0, .int .i64 0, .int .i64 0, .int .i64 0, .int .i64 0, .int .i64 0, .int .i64 0, .int .i64 0, .int .i64 0, .int .i64 0, .int .i64 0, .int .i64 0, .int .i64 0, .int .i64 0, .int .i64 0, .int .i64 0, .int .i64 0, .int .i64 0, .int .i64 0, .int .i64 0, .int .i64 0, .int .i64 0, .int .i64 0, .int .i64 0, .int .i64 0, .int .i64 0, .int .i64 0, .int .i64 0, .int .i64 0, .int .i64 0, .int .i64 0, .int .i64 0, .int .i64 0, .int .i64 0, .int .i64 0, .int .i64 0, .int .i64 0, .int .i64 0, .int .i64 0, .int .i64 0, .int .i64 0, .int .i64 0, .int .i64 0, .int .i64 0, .int .i64 0, .int .i64 0, .int .i64 0, .int .i64 0, .int .i64 0, .int .i64 0, .int .i64 0, .int .i64 0, .int .i64 0, .int .i64 0, .int .i64 0, .int .i64 0, .int .i64 0, .int .i64 0] 104 (unhide HZ0) (by rw [sq_size, unhide HCL]; rfl) (by rw [sq_size, unhide HCL]; kernel_rfl) (sq_one _) ?_; intro w3 hB3 g3; replace hB3 := hide hB3; replace g3 := hide g3; have HG3 := hide (grown_new (unhide HGA) (unhide g3) (fun x e => by injection e with e; omega)); have HR3 := hide ((unhide HRA).kept (unhide g3) (fun e => by injection e with e; omega) (fun e => by injection e with e; omega))) | (refine load_row rfl 104 _ rfl w1.heap.size rfl (sq c) 104 (unhide hB3) _ Try.underlying104 rfl (by rw [sq_size, unhide HCL]; kernel_rfl) ?_))
        go_ret
        exact ⟨rfl, unhide HG3⟩
      | true =>
        have hzr : c.all (fun x => x == 0) = true := by rw [← zero_row (unhide HCL)]; exact unhide HZ
        have HDN : Hid (∀ j, j < Y.length → (fun x => left x && !x.sameKey (keyN i)) (keyN j) = false → (Y.getD j []).all (fun x => x == 0) = true) := fun j hj h => by
          by_cases e : j = i
          · subst e
            rw [← unhide HC]
            exact hzr
          · refine unhide hdn j hj ?_
            have : (keyN j).sameKey (keyN i) = false := Maps.sameKey_ne (fun h => e (keyN_inj h))
            simp only [this, Bool.not_false, Bool.and_true] at h
            exact h
        have HIN : Hid (∀ kl, (fun x => left x && !x.sameKey (keyN i)) kl = true → ∃ i, i < Y.length ∧ kl = keyN i) := fun kl h => unhide hin kl (by simp only [Bool.and_eq_true] at h; exact h.1)
        clear hzr
        go_wp2_with (first | (refine store_row rfl 104 _ _ rfl w1.heap.size rfl (sq c) rfl #[.int .i64 0, .int .i64 0, .int .i64 0, .int .i64 0, .int .i64 0, .int .i64 0, .int .i64 0, .int .i64 0, .int .i64 0, .int .i64 0, .int .i64 0, .int .i64 0, .int .i64 0, .int .i64 0, .int .i64 0, .int .i64 0, .int .i64 0, .int .i64 0, .int .i64 0, .int .i64 0, .int .i64 0, .int .i64 0, .int .i64 0, .int .i64 0, .int .i64 0, .int .i64 0, .int .i64 0, .int .i64 0, .int .i64 0, .int .i64 0, .int .i64 0, .int .i64 0, .int .i64 0, .int .i64 0, .int .i64 0, .int .i64 0, .int .i64 0, .int .i64 0, .int .i64 0, .int .i64 0, .int .i64 0, .int .i64 0, .int .i64 0, .int .i64 0, .int .i64 0, .int .i64 0, .int .i64 0, .int .i64 0, .int .i64 0, .int .i64 0, .int .i64 0, .int .i64 0, .int .i64 0, .int .i64 0, .int .i64 0, .int .i64 0, .int .i64 0, .int .i64 0, .int .i64 0, .int .i64 0, .int .i64 0, .int .i64 0, .int .i64 0, .int .i64 0] 104 (unhide HZ0) (by rw [sq_size, unhide HCL]; rfl) (by rw [sq_size, unhide HCL]; kernel_rfl) (sq_one _) ?_; intro w3 hB3 g3; replace hB3 := hide hB3; replace g3 := hide g3; have HG3 := hide (grown_new (unhide HGA) (unhide g3) (fun x e => by injection e with e; omega)); have HR3 := hide ((unhide HRA).kept (unhide g3) (fun e => by injection e with e; omega) (fun e => by injection e with e; omega))) | (refine load_row rfl 104 _ rfl w1.heap.size rfl (sq c) 104 (unhide hB3) _ Try.underlying104 rfl (by rw [sq_size, unhide HCL]; kernel_rfl) ?_))
        go_roundw
        case rel => exact ⟨_, _, HR3, HIN, HDN, HG3⟩
        case measure => rw [(unhide HR3).left_eq, (unhide hrg).left_eq]; exact unhide HLT

end Go.Proofs.Ytnjcmlmgjoaeeaa

namespace Go.Proofs.Ytnjcmlmgjoaeeaa
open Go.RowKit

theorem OwR.headM {α : Type} {e : TypeId} {P : World → Value → α → List Nat → Prop} {w : World} {v : Value} {L : List α} {F : List Nat} (h : OwR e P w v L F) : ∀ x ∈ blk v, x ∈ F := by
  obtain ⟨us, Fs, _, _, _, _, rfl⟩ := h
  intro x hx
  simp [hx]
theorem OwR.noneM {α : Type} {e : TypeId} (P : World → Value → α → List Nat → Prop) {w : World} {v : Value} {base : Nat} (h : w.ownsRow base e 1 v 0 []) : OwR e P w v [] (blk v) :=
  ⟨[], [], rfl, rfl, own_base h (Nat.zero_le _), fun i hi => absurd hi (by simp), by simp⟩
theorem takeM_next {α : Type} (L : List α) (k : Nat) (h : k < L.length) : L.take k ++ [L[k]] = L.take (k + 1) := by rw [List.take_add_one, List.getElem?_eq_getElem h]; rfl

set_option maxRecDepth 20000 in
set_option maxHeartbeats 3200000 in
theorem listsOf (L : List (List Int)) (h64 : ∀ c, c < L.length → (L.getD c []).length = 64) (h4 : L.length ≤ 4) (b : Nat) (w : World) (hM : OwM w b L) :
    Calls Try.prog 49 #[.map (some b)] w fun e w' => ∃ v F, e = .returned v ∧ Ow2 w' v L F ∧ F.Nodup ∧ (∀ x ∈ F, w.heap.size ≤ x) ∧ w.grownBy w' none := by
  have hl0 := fun ty => hM.len ty
  have HM := hide hM
  have H64 := hide h64
  clear hM h64
  obtain ⟨i0, hi, hz0, hz1, hz2⟩ := info_parts infoIntSS
  have HI := hide hi
  have HZ0 := hide hz0
  have HZ1 := hide hz1
  have HZ2 := hide hz2
  clear hi hz0 hz1 hz2
  go_enter Try.func49, Try.ntmps49
  go_wp2_with (at_make; refine wpList_make_own _ rfl _ _ 34 rfl 0 36 i0 (.slice none 0 0) 1 Try.underlying34 (unhide HI) (unhide HZ0) (unhide HZ1) .i64 .i64 _ L.length rfl rfl rfl (by rw [unhide HZ2]; omega) (by unfold maxLen; omega) (Nat.zero_le _) ?_)
  intro w2 hown g2
  have hl2 := fun ty => ((unhide HM).keep g2 (by simp)).len ty
  have HO2 : Hid (Ow2 w2 (.slice (some ⟨w.heap.size, 0, none⟩) 0 L.length) (L.take 0) (blk (.slice (some ⟨w.heap.size, 0, none⟩) 0 L.length))) := OwR.noneM _ hown
  have HG2 := hide g2
  have HL2 : Hid (∀ x ∈ blk (.slice (some ⟨w.heap.size, 0, none⟩) 0 L.length), w.heap.size ≤ x) := fun x hx => by
    have e9 : w.heap.size = x := Option.some.inj (mem_blk.1 hx)
    omega
  clear hown g2 hl0
  go_wp2
  clear hl2
  go_loopw [3, 10] (fun v kv wr => ∃ (k : Nat) (vo : Option Addr) (vn vc : Nat) (F2 : List Nat), k ≤ L.length ∧ v = .slice vo vn vc ∧ kv = .int .i64 k ∧ Hid (Ow2 wr (.slice vo vn vc) (L.take k) F2) ∧ Hid F2.Nodup ∧ Hid (∀ x ∈ F2, w.heap.size ≤ x) ∧ Hid (w.grownBy wr none)) (fun _ kv _ => L.length - (intOf kv).toNat)
  case atStart => exact ⟨0, some ⟨w.heap.size, 0, none⟩, 0, L.length, _, Nat.zero_le _, rfl, rfl, HO2, blk_nodup _, HL2, HG2⟩
  case round =>
    clear HO2 HL2 HG2
    obtain ⟨k, vo, vn, vc, F2, hk, rfl, rfl, ho, hn2, hl2, hg⟩ := hrel
    by_cases hkm : k < L.length
    · have hkI : decide ((k : Int) < (L.length : Int)) = true := decide_eq_true (by omega)
      obtain ⟨B, HBE⟩ : ∃ B, Hid (L.getD k [] = B) := ⟨_, rfl⟩
      have hlen : B.length = 64 := by rw [← unhide HBE]; exact unhide H64 k hkm
      have HLK : Hid (L.take k ++ [B] = L.take (k + 1)) := by
        unfold Hid
        have e9 : L.getD k [] = L[k] := by simp [hkm]
        rw [← unhide HBE, e9]
        exact takeM_next L k hkm
      have HRL : Hid ((L.take k).length ≤ 1000000) := by unfold Hid; rw [List.length_take]; omega
      have HMR := hide ((unhide HM).keep (unhide hg) (by simp))
      have HLI := hide (fun W => list B hlen W)
      have HBL := hide hlen
      clear hlen
      go_wp2_with (at_lookup; refine wp_lookM rfl _ _ rfl b L k rfl rfl (unhide HMR) hkm (by omega) B (unhide HBE) ?_)
      refine (unhide HLI _).mono ?_
      rintro e w4 ⟨v4, rfl, o4, g4⟩
      obtain ⟨uo, uc, rfl⟩ := own_form o4
      have hgs := (unhide hg).size
      have HU : Hid (OwI .i64 3 w4 (.slice uo 64 uc) B (blk (.slice uo 64 uc))) := ⟨by rw [unhide HBL]; exact own_base o4 (Nat.zero_le _), rfl⟩
      have HO4 := hide (ok2.keep (unhide ho) g4)
      have G4 := hide (grown_trans (unhide hg) g4)
      have HDU : Hid (∀ x ∈ blk (.slice uo 64 uc), x ∉ F2 ∧ w.heap.size ≤ x) := fun x hx => by
        have e9 := (o4.lt x (mem_blk.1 hx)).1
        exact ⟨fun h => by have := ok2.lt _ _ _ _ (unhide ho) x h; omega, by omega⟩
      clear o4 g4 ho hg HMR HLI
      go_wp2_with (at_builtin; refine append_rowR ok1 Try.underlying34 infoIntSS rfl _ _ rfl (.slice vo vn vc) (L.take k) F2 rfl (unhide HO4) (unhide hn2) _ B _ (unhide HU) (blk_nodup _) (fun x hx => (unhide HDU x hx).1) rfl (unhide HRL) _ (unhide HLK) ?_)
      intro v5 w5 F5 o5 n5 m5 g5
      obtain ⟨vo5, vc5, rfl⟩ := o5.form
      have HO5 := hide o5
      have HN5 := hide n5
      have HL5 : Hid (∀ x ∈ F5, w.heap.size ≤ x) := fun x hx => by
        rcases m5 x hx with h | h | h
        · exact unhide hl2 x h
        · exact (unhide HDU x h).2
        · have := (unhide G4).size; omega
      have G5 := hide (Wr.new (unhide G4) g5 (fun x hx => unhide hl2 x ((unhide HO4).headM x hx)))
      clear o5 n5 m5 g5 HO4 HU HDU hn2 hl2 HRL G4
      go_wp2
      go_roundw
      case rel => exact ⟨k + 1, vo5, _, vc5, F5, by omega, rfl, by go_num, HO5, HN5, HL5, G5⟩
      case measure => simp [intOf]; omega
    · obtain rfl : k = L.length := by omega
      have hkI : decide ((L.length : Int) < (L.length : Int)) = false := decide_eq_false (by omega)
      have e8 : L.take L.length = L := List.take_length
      rw [e8] at ho
      go_wp2
      go_ret
      exact ⟨_, F2, rfl, unhide ho, unhide hn2, unhide hl2, unhide hg⟩

end Go.Proofs.Ytnjcmlmgjoaeeaa

namespace Go.Proofs.Ytnjcmlmgjoaeeaa
open Go.RowKit

def toldO (r : Option (List (List Int))) : Bool := match r with | some X => X.all (fun row => row.all (fun x => x == 0)) | none => false
theorem leftOf_any {X : Array Value} {p wd ht rs : Int} {n : Nat} {C : Nat → Nat → Int} {fb : Bool} (HFB : Hid (frameB p wd ht rs n C = fb)) (h1 : fb = false → X = #[.int .i64 0, .int .i64 0, .int .i64 0, .int .i64 0, .int .i64 0, .int .i64 0, .int .i64 0, .int .i64 0, .int .i64 0, .int .i64 0, .int .i64 0, .int .i64 0, .int .i64 0, .int .i64 0, .int .i64 0, .int .i64 0, .int .i64 0, .int .i64 0, .int .i64 0, .int .i64 0, .int .i64 0]) (h2 : fb = true → ∃ D, Fx X p wd ht rs n D ∧ ∀ i, i < n → D i = C i)
    (v : Value) (S : List Scn) (w : World) (hS : RdSs w v S) (hsz : szR szSc S ≤ 1048576) (r : Option (List (List Int))) (HR : Hid (leftO fb n S = r)) :
    Calls Try.prog 47 #[.agg X, v] w fun e w' => ∃ mv, e = .returned (.tuple #[mv, .bool r.isSome]) ∧ (∀ Y, r = some Y → ∃ b, mv = .map (some b) ∧ w.heap.size ≤ b ∧ OwM w' b Y) ∧ w.grownBy w' none := by
  have hT := tells_of HFB h1 h2
  cases fb with
  | false =>
    obtain rfl := h1 rfl
    have e : r = none := by rw [← unhide HR]; rfl
    subst e
    refine (leftOf_no v w).mono ?_
    rintro e w' ⟨rfl, g⟩
    exact ⟨_, rfl, fun Y e => absurd e (by simp), g⟩
  | true =>
    obtain ⟨D, hF, _⟩ := h2 rfl
    have hg := geo_of (unhide HFB)
    have hp : (p == 0) = false := by
      have hf := unhide HFB
      unfold frameB at hf
      rw [Bool.and_eq_true] at hf
      rcases (headB_facts hf.1).1 with h | h <;> (rw [h]; rfl)
    have hc := sz_scan hsz
    have hl : S.length ≤ 1048576 := by unfold szR at hsz; omega
    exact leftOf_yes X p wd ht rs n D hF hp hg.n4 hT v S w hS (fun a ha => by have := hc a ha; omega) (by omega) r HR

set_option maxRecDepth 20000 in
set_option maxHeartbeats 1600000 in
theorem giveLeft : ImplLeft := by
  intro p wd ht rs fo n fc C v S w hr hn hS hsz fb HFB L HL
  obtain ⟨vo, vn, vc, rfl⟩ : ∃ vo vn vc, v = .slice vo vn vc := by obtain ⟨vo, vc, e, _⟩ := hS; exact ⟨vo, _, vc, e⟩
  obtain ⟨r, HR⟩ : ∃ r, Hid (leftO fb n S = r) := ⟨_, rfl⟩
  have HLR : Hid (r.getD [] = L) := by unfold Hid; rw [← unhide HR]; exact unhide HL
  have HRO : Hid (∀ Y, r = some Y → Rows64 n Y ∧ n ≤ 4) := fun Y e => by
    have h := (unhide HR).trans e
    refine ⟨leftO_rows h, ?_⟩
    cases fb with
    | false => cases h
    | true => exact (geo_of (unhide HFB)).n4
  have HG0 : Hid (w.grownBy (w.alloc (.cells #[.int .i64 p, .int .i64 wd, .int .i64 ht, .int .i64 rs, .slice fo n fc] 26)) none) := World.grownBy_alloc _ _ _
  have HFIX := hide (fixFrame p wd ht rs fo n fc C _ (hr.grown (unhide HG0)) hn fb HFB)
  have HS := hide hS
  clear hr hS HL
  go_enter Try.func15, Try.ntmps15
  go_wp2_with fail
  refine (unhide HFIX).mono ?_
  rintro e w1 ⟨X, rfl, h1, h2, g1⟩
  have HG1 := hide (grown_trans (unhide HG0) g1)
  have HLO := hide (leftOf_any HFB h1 h2 (.slice vo vn vc) S w1 (RdSs.st _ _ _ _ (unhide HS) (unhide HG1)) hsz r HR)
  clear h1 h2 g1 HFIX HG0
  go_wp2_with fail
  refine (unhide HLO).mono ?_
  rintro e w2 ⟨mv, rfl, hm, g2⟩
  have HG2 := hide (grown_trans (unhide HG1) g2)
  have hs1 := (unhide HG1).size
  clear g2 HLO HG1
  cases r with
  | none =>
    obtain rfl : [] = L := unhide HLR
    clear hm
    go_wp2
    go_ret
    exact ⟨_, [], rfl, OwR.nil _ _ _, by simp, fun g hg => by simp at hg, unhide HG2⟩
  | some Y =>
    obtain rfl : Y = L := unhide HLR
    obtain ⟨b, rfl, hb, o2⟩ := hm Y rfl
    obtain ⟨h64, hn4⟩ := unhide HRO Y rfl
    have HLI := hide (listsOf Y (fun c hc => h64.2 c (by rw [← h64.1]; exact hc)) (by rw [h64.1]; exact hn4) b w2 o2)
    clear hm o2 h64
    go_wp2_with fail
    refine (unhide HLI).mono ?_
    rintro e w3 ⟨u, F, rfl, o3, n3, l3, g3⟩
    have hs2 := (unhide HG2).size
    have HR3 : Hid (∃ u' F, Ending.returned u = .returned u' ∧ Ow2 w3 u' Y F ∧ F.Nodup ∧ (∀ g ∈ F, w.heap.size ≤ g) ∧ w.grownBy w3 none) := ⟨u, F, rfl, o3, n3, fun g hg => by have := l3 g hg; omega, grown_trans (unhide HG2) g3⟩
    clear o3 n3 l3 g3 HLI
    go_wp2
    go_ret
    exact unhide HR3

set_option maxRecDepth 20000 in
set_option maxHeartbeats 1600000 in
theorem giveScriptOk : ImplScriptOk := by
  intro p wd ht rs fo n fc C v S w hr hn hS hsz fb t HFB HT
  obtain ⟨vo, vn, vc, rfl⟩ : ∃ vo vn vc, v = .slice vo vn vc := by obtain ⟨vo, vc, e, _⟩ := hS; exact ⟨vo, _, vc, e⟩
  obtain ⟨r, HR⟩ : ∃ r, Hid (leftO fb n S = r) := ⟨_, rfl⟩
  have HTR : Hid (toldO r = t) := by
    unfold Hid
    rw [← unhide HR]
    exact unhide HT
  have HRO : Hid (∀ Y, r = some Y → Rows64 n Y) := fun Y e => leftO_rows ((unhide HR).trans e)
  have HG0 : Hid (w.grownBy (w.alloc (.cells #[.int .i64 p, .int .i64 wd, .int .i64 ht, .int .i64 rs, .slice fo n fc] 26)) none) := World.grownBy_alloc _ _ _
  have HFIX := hide (fixFrame p wd ht rs fo n fc C _ (hr.grown (unhide HG0)) hn fb HFB)
  have HS := hide hS
  clear hr hS HT
  go_enter Try.func14, Try.ntmps14
  go_wp2_with fail
  refine (unhide HFIX).mono ?_
  rintro e w1 ⟨X, rfl, h1, h2, g1⟩
  have HG1 := hide (grown_trans (unhide HG0) g1)
  have HLO := hide (leftOf_any HFB h1 h2 (.slice vo vn vc) S w1 (RdSs.st _ _ _ _ (unhide HS) (unhide HG1)) hsz r HR)
  clear h1 h2 g1 HFIX HG0
  go_wp2_with fail
  refine (unhide HLO).mono ?_
  rintro e w2 ⟨mv, rfl, hm, g2⟩
  have HG2 := hide (grown_trans (unhide HG1) g2)
  clear g2 HLO HG1
  cases r with
  | none =>
    obtain rfl : false = t := unhide HTR
    clear hm
    go_wp2
    go_ret
    exact ⟨rfl, unhide HG2⟩
  | some Y =>
    obtain ⟨b, rfl, hb, o2⟩ := hm Y rfl
    have h64 := unhide HRO Y rfl
    have HAL := hide (allTold Y (fun c hc => h64.2 c (by rw [← h64.1]; exact hc)) b w2 o2 t (unhide HTR))
    clear hm o2 h64 HTR HRO
    go_wp2_with fail
    refine (unhide HAL).mono ?_
    rintro e w3 ⟨rfl, g3⟩
    have HG3 := hide (grown_trans (unhide HG2) g3)
    clear g3 HAL
    go_wp2
    go_ret
    exact ⟨rfl, unhide HG3⟩

end Go.Proofs.Ytnjcmlmgjoaeeaa

namespace Go.Proofs.Ytnjcmlmgjoaeeaa
open Go.RowKit

set_option maxHeartbeats 1600000 in
theorem growScan (k : Nat) (hk : 0 < k) (hk2 : k ≤ 100000) (w : World) :
    Calls Try.prog 81 #[.slice none 0 0, .int .i64 k] w fun e w' => ∃ so sc, e = .returned (.slice so 0 sc) ∧ w'.ownsRow w.heap.size 38 5 (.slice so 0 sc) 0 [] ∧ w.grownBy w' none := by
  obtain ⟨i0, hi, hz0, hz1, hz2⟩ := info_parts info_scan
  have hold : (Builtin.firstCells i0.size 0 (.slice none 0 0)).run Try.prog w.drew = .ok ([] : List Value).toArray w.drew := run_firstCells_none w.drew i0.size 0 0 0
  obtain ⟨z, hz⟩ : ∃ z : Value, z = .agg #[.slice none 0 0, .int .i64 0, .int .i64 0, .int .i64 0, .int .i64 0] := ⟨_, rfl⟩
  rw [← hz] at hz0
  have hzc : z.cells.size = 5 := by rw [hz]; rfl
  have hrz : ∀ ty, (Builtin.append_ #[27, 3] ty #[.slice none 0 0, .int .i64 (k : Int)]).run Try.prog w =
      .ok (.slice (some ⟨w.heap.size, 0, none⟩) k (grownCap w k 0 38)) (w.drew.alloc (.cells (([] : List Value).toArray ++ Builtin.zeroCells z.cells k ++ Builtin.zeroCells z.cells (grownCap w k 0 38 - k)) 38)) := fun ty => by
    have h := Lib.run_append_grow_zeros w 27 3 ty 38 i0 z .i64 .i64 Try.underlying27 Try.underlying3 hi hz0 none 0 0 [] hold k hk (by rw [hz1]; omega) (by omega) (by omega) (by rw [hz2]; omega) (by rw [hz2]; exact growslice_fits (by omega) (by omega))
    simpa using h
  have hge := grownCap_ge w k 0 38
  have hle := grownCap_le_maxLen w k 0 38 (by unfold maxLen; omega)
  obtain ⟨G, hG⟩ : ∃ G, G = grownCap w k 0 38 := ⟨_, rfl⟩
  rw [← hG] at hrz hge hle
  unfold maxLen at hle
  obtain ⟨cs, hcs⟩ : ∃ cs, ([] : List Value).toArray ++ Builtin.zeroCells z.cells k ++ Builtin.zeroCells z.cells (G - k) = cs := ⟨_, rfl⟩
  have hsz : cs.size = G * 5 := by rw [← hcs]; simp [size_zeroCells, hzc]; omega
  rw [hcs] at hrz
  have HF : Hid ((w.drew.alloc (.cells cs 38)).ownsRow w.heap.size 38 5 (.slice (some ⟨w.heap.size, 0, none⟩) 0 G) 0 [] ∧ w.grownBy (w.drew.alloc (.cells cs 38)) none) := by
    refine ⟨⟨by simp, .inr ⟨w.heap.size, G, cs, rfl, Nat.le_refl _, heap_alloc_new w.drew _, by omega, by unfold maxLen; omega, hsz, by simp⟩⟩, grown_alloc (grown_drew (World.grownBy.refl _ _)) _⟩
  have hG0 : ¬ G = 0 := by omega
  have h1 : ¬ ((k : Int) < 0) := by omega
  have h4 : (0 : Int) < (k : Int) := by omega
  have e1 := i64_in ((k : Int)) (by omega)
  clear hold hG hcs hsz hi hz0 hz1 hz2 hz hzc
  go_enter Try.func81, Try.ntmps81
  go_wp2_with (at_builtin; refine Lib.wpList_append_run _ rfl _ _ _ _ rfl _ _ rfl rfl _ _ (hrz _) ?_)
  go_ret
  exact ⟨_, _, rfl, (unhide HF).1, (unhide HF).2⟩

/-- A row that is copied: how many scans, and their cells. -/
structure Src (w : World) (v : Value) (p : Nat × List Value) : Prop where
  at' : ∃ b cap, v = .slice (some ⟨b, 0, none⟩) p.1 cap ∧ ∀ j u, p.2[j]? = some u → w.cell? ⟨b, j, none⟩ = some u
  len : p.2.length = p.1 * 5
  one : ∀ u ∈ p.2, u.oneCell' = true
theorem Src.grown {w w' : World} {v : Value} {p : Nat × List Value} (h : Src w v p) (g : w.grownBy w' none) : Src w' v p := by
  obtain ⟨b, cap, e, hc⟩ := h.at'
  exact ⟨⟨b, cap, e, fun j u hu => g.cell (hc j u hu) (by simp)⟩, h.len, h.one⟩
def sumC (ps : List (Nat × List Value)) : Nat → Nat
  | 0 => 0
  | i + 1 => sumC ps i + (ps.getD i (0, [])).1
def rowC (ps : List (Nat × List Value)) : Nat → List Value
  | 0 => []
  | i + 1 => rowC ps i ++ (ps.getD i (0, [])).2
theorem sumC_le (ps : List (Nat × List Value)) (m N : Nat) (h : ∀ i, i < N → (ps.getD i (0, [])).1 ≤ m) : ∀ i, i ≤ N → sumC ps i ≤ i * m
  | 0, _ => by simp [sumC]
  | i + 1, hi => by
    have h1 := sumC_le ps m N h i (by omega)
    have h2 := h i (by omega)
    simp only [sumC, Nat.add_mul, Nat.one_mul]
    omega
theorem sumC_mono (ps : List (Nat × List Value)) : ∀ i j, i ≤ j → sumC ps i ≤ sumC ps j := by
  intro i j h
  induction j with
  | zero => obtain rfl : i = 0 := by omega
            exact Nat.le_refl _
  | succ j ih =>
    by_cases e : i = j + 1
    · rw [e]; exact Nat.le_refl _
    · have := ih (by omega)
      simp only [sumC]
      omega

set_option maxRecDepth 20000 in
set_option maxHeartbeats 3200000 in
theorem concatScan (g N : Nat) (vs : List Value) (ps : List (Nat × List Value)) (hp : 0 < sumC ps N) (hps : N ≤ 100) (hm : ∀ i, i < N → (ps.getD i (0, [])).1 ≤ 100) (w : World) (hc : ∀ i, i < N → w.cell? ⟨g, i, none⟩ = some (vs.getD i undef)) (hS : ∀ i, i < N → Src w (vs.getD i undef) (ps.getD i (0, []))) :
    Calls Try.prog 71 #[.slice (some ⟨g, 0, none⟩) N N] w fun e w' => ∃ u, e = .returned u ∧ w'.ownsRow w.heap.size 38 5 u (sumC ps N) (rowC ps N) ∧ w.grownBy w' none := by
  have HC := hide hc
  have HSS := hide hS
  have HM := hide (sumC_le ps 100 N hm)
  have hmx : N * 100 ≤ 100 * 100 := Nat.mul_le_mul hps (Nat.le_refl _)
  clear hc hS hm
  go_enter Try.func71, Try.ntmps71
  go_wp2
  go_loopw [3, 11] (fun s iv wr => ∃ i : Nat, i ≤ N ∧ iv = .int .i64 i ∧ s = .int .i64 (sumC ps i : Nat) ∧ wr = w) (fun _ iv _ => N - (intOf iv).toNat)
  case atStart => exact ⟨0, Nat.zero_le _, rfl, rfl, rfl⟩
  case round =>
    obtain ⟨i, hi, rfl, rfl, rfl⟩ := hrel
    by_cases hlt : i < N
    · have hd : decide ((i : Int) < (N : Int)) = true := decide_eq_true (by omega)
      have hd3 : (i : Int) < (N : Int) := by omega
      have i0 : (0 : Int) ≤ (i : Int) := by omega
      obtain ⟨b, cap, ev, _⟩ := (unhide HSS i hlt).at'
      have ci := unhide HC i hlt
      rw [ev] at ci
      have hmi := unhide HM (i + 1) (by omega)
      have hmi2 : (i + 1) * 100 ≤ 100 * 100 := Nat.mul_le_mul (by omega) (Nat.le_refl _)
      have es : sumC ps (i + 1) = sumC ps i + (ps.getD i (0, [])).1 := rfl
      obtain ⟨c, hcn⟩ : ∃ c, (ps.getD i (0, [])).1 = c := ⟨_, rfl⟩
      obtain ⟨s, hsn⟩ : ∃ s, sumC ps i = s := ⟨_, rfl⟩
      rw [hcn, hsn] at es
      rw [es] at hmi
      rw [hcn] at ci
      have ESS := hide es
      have e1 := i64_in (((s : Nat) : Int) + ((c : Nat) : Int)) (by omega)
      have h1 : decide (((s : Nat) : Int) + ((c : Nat) : Int) < 0) = false := decide_eq_false (by omega)
      rw [hsn]
      clear es ev hmi hmi2 hcn hsn
      go_wp2
      go_roundw
      case rel => exact ⟨i + 1, by omega, by go_num, by rw [unhide ESS]; go_num, trivial⟩
      case measure => simp [intOf]; omega
    · obtain rfl : i = N := by omega
      have hd : decide ((i : Int) < (i : Int)) = false := decide_eq_false (by omega)
      have hmi := unhide HM i (Nat.le_refl _)
      obtain ⟨T, HTT⟩ : ∃ T, Hid (sumC ps i = T) := ⟨_, rfl⟩
      rw [unhide HTT] at hp hmi ⊢
      have HG := hide (growScan T hp (by omega) wr)
      have HRC : Hid (∀ j, j ≤ i → (rowC ps j).length = sumC ps j * 5) := fun j hj => by
        induction j with
        | zero => rfl
        | succ j ih =>
          have h := (unhide HSS j (by omega)).len
          simp only [rowC, sumC, List.length_append, Nat.add_mul]
          rw [ih (by omega), h]
      have HMN : Hid (∀ j, j ≤ i → sumC ps j ≤ T) := fun j hj => by rw [← unhide HTT]; exact sumC_mono ps j i hj
      obtain ⟨i0, hi0, hz0, hz1, hz2⟩ := info_parts info_scan
      have HI0 := hide hi0
      have HZ0 := hide hz0
      have HZ1 := hide hz1
      have HZ2 := hide hz2
      clear hi0 hz0 hz1 hz2
      go_wp2_with fail
      refine (unhide HG).mono ?_
      rintro e w1 ⟨so, sc, rfl, o1, g1⟩
      have HO1 := hide o1
      have HG1 := hide g1
      clear o1 g1 HG hd
      go_wp2
      obtain ⟨wo, rfl⟩ : ∃ wo, wo = wr := ⟨wr, rfl⟩
      go_loopw [6, 27] (fun v jv wq => ∃ j : Nat, j ≤ i ∧ jv = .int .i64 j ∧ Hid (wq.ownsRow wo.heap.size 38 5 v (sumC ps j) (rowC ps j)) ∧ Hid (wo.grownBy wq none)) (fun _ jv _ => i - (intOf jv).toNat)
      case atStart => exact ⟨0, Nat.zero_le _, rfl, HO1, HG1⟩
      case round =>
        clear HO1 HG1
        obtain ⟨j, hj, rfl, ho, hg⟩ := hrel
        obtain ⟨uo, uc, rfl⟩ := own_form (unhide ho)
        by_cases hlt : j < i
        · have hd : decide ((j : Int) < (i : Int)) = true := decide_eq_true (by omega)
          have hd3 : (j : Int) < (i : Int) := by omega
          have j0 : (0 : Int) ≤ (j : Int) := by omega
          have hsr := (unhide HSS j hlt).grown (unhide hg)
          obtain ⟨b, cap, ev, hnews⟩ := hsr.at'
          have cj := (unhide hg).cell (unhide HC j hlt) (by simp)
          rw [ev] at cj
          have HLE := hide hsr.len
          have HON := hide hsr.one
          have HNW : Hid (∀ q u, (ps.getD j (0, [])).2[q]? = some u → wr.cell? ((⟨b, 0, none⟩ : Addr).add q) = some u) := fun q u hu => by
            have h := hnews q u hu
            by_cases e : q = 0
            · subst e; simpa [Addr.add] using h
            · simpa [Addr.add, e] using h
          have hmj := unhide HMN (j + 1) (by omega)
          have es : sumC ps (j + 1) = sumC ps j + (ps.getD j (0, [])).1 := rfl
          have er : rowC ps (j + 1) = rowC ps j ++ (ps.getD j (0, [])).2 := rfl
          obtain ⟨c, hcn⟩ : ∃ c, (ps.getD j (0, [])).1 = c := ⟨_, rfl⟩
          obtain ⟨rw', hrw⟩ : ∃ r, (ps.getD j (0, [])).2 = r := ⟨_, rfl⟩
          obtain ⟨s, hsn⟩ : ∃ s, sumC ps j = s := ⟨_, rfl⟩
          rw [hcn, hsn] at es
          rw [hrw] at er
          rw [es] at hmj
          rw [hcn] at cj HLE
          rw [hrw] at HNW HLE HON
          rw [hsn] at ho ⊢
          have ESS := hide es
          have ERR := hide er
          have hgs := (unhide hg).size
          clear es er ev hnews hcn hrw hsr
          go_wp2_with (at_builtin; refine wpList_append_own_at _ rfl _ _ 27 rfl wo.heap.size 38 i0 _ 5 56 Try.underlying27 (unhide HI0) (unhide HZ0) (unhide HZ1) (unhide HZ2) rfl (by decide) (.slice uo s uc) s _ rfl (unhide ho) ⟨b, 0, none⟩ c cap rw' rfl (unhide HLE) (unhide HNW) (unhide HON) (by unfold maxLen; omega) (by omega) hgs ?_)
          intro v5 w5 o5 g5 _ _
          have HO5 : Hid (w5.ownsRow wo.heap.size 38 5 v5 (sumC ps (j + 1)) (rowC ps (j + 1))) := by unfold Hid; rw [unhide ESS, unhide ERR]; exact o5
          have HG5 := hide (grown_new (unhide hg) g5 (fun q e => ((unhide ho).lt q e).1))
          clear o5 g5 ho hg cj HNW HLE HON
          go_wp2
          go_roundw
          case rel => exact ⟨j + 1, by omega, by go_num, HO5, HG5⟩
          case measure => simp [intOf]; omega
        · obtain rfl : j = i := by omega
          have hd : decide ((j : Int) < (j : Int)) = false := decide_eq_false (by omega)
          go_wp2
          go_ret
          exact ⟨_, rfl, unhide ho, unhide hg⟩

end Go.Proofs.Ytnjcmlmgjoaeeaa

namespace Go.Proofs.Ytnjcmlmgjoaeeaa
open Go.RowKit

/-- What a frame that was fixed tells of how many components it has. -/
structure Cnt (X : Array Value) (n : Nat) : Prop where
  size : X.size = 21
  c4 : X[4]? = some (.int .i64 n)
  n4 : n ≤ 4

set_option maxRecDepth 20000 in
set_option maxHeartbeats 3200000 in
theorem together (X : Array Value) (n : Nat) (hX : Cnt X n) (fr to hi lo : Int) (w : World) :
    Calls Try.prog 69 #[.agg X, .agg #[.slice none 0 0, .int .i64 fr, .int .i64 to, .int .i64 hi, .int .i64 lo]] w fun e w' => ∃ u F, e = .returned u ∧ OwSs w' u [⟨allC n, fr, to, hi, lo⟩] F ∧ F.Nodup ∧ (∀ g ∈ F, w.heap.size ≤ g) ∧ w.grownBy w' none := by
  have hn := hX.n4
  obtain ⟨W0, HW⟩ : ∃ W0, Hid ((w.alloc (.cells X 71)).alloc (.cells #[.slice none 0 0, .int .i64 fr, .int .i64 to, .int .i64 hi, .int .i64 lo] 38) = W0) := ⟨_, rfl⟩
  have HG0 : Hid (w.grownBy W0 none) := by rw [← unhide HW]; exact grown_alloc (grown_alloc (World.grownBy.refl _ _) _) _
  have b0 : W0.heap[w.heap.size]? = some (.cells X 71 (0, 0)) := by
    rw [← unhide HW]
    exact at_rowS (World.grownBy_alloc _ _ none) (heap_alloc_new w _) (by simp)
  have HB0 : Hid (W0.heap[w.heap.size + 1]? = some (.cells #[.slice none 0 0, .int .i64 fr, .int .i64 to, .int .i64 hi, .int .i64 lo] 38 (0, 0))) := by
    rw [← unhide HW]
    have := heap_alloc_new (w.alloc (.cells X 71)) (.cells #[.slice none 0 0, .int .i64 fr, .int .i64 to, .int .i64 hi, .int .i64 lo] 38)
    unfold Hid
    simpa using this
  have c4 : W0.cell? ⟨w.heap.size, 4, none⟩ = some (.int .i64 n) := by rw [cell_of_row W0 _ 4 _ _ (0, 0) b0]; exact hX.c4
  have HO0 : Hid (W0.ownsRow (w.heap.size + 2) 3 1 (.slice none 0 0) ((allC n).take 0).length (((allC n).take 0).map (Value.int .i64))) := ⟨rfl, .inl ⟨rfl, rfl⟩⟩
  rw [← unhide HW] at c4
  clear b0 hX
  go_enter Try.func69, Try.ntmps69
  go_wp2
  rw [unhide HW]
  clear HW c4
  go_loopw [8] (fun iv wr => ∃ (k : Nat) (vo : Option Addr) (vc : Nat), k ≤ n ∧ iv = .int .i64 k ∧ Hid (wr.heap[w.heap.size + 1]? = some (.cells #[.slice vo k vc, .int .i64 fr, .int .i64 to, .int .i64 hi, .int .i64 lo] 38 (0, 0))) ∧ Hid (wr.ownsRow (w.heap.size + 2) 3 1 (.slice vo k vc) ((allC n).take k).length (((allC n).take k).map (Value.int .i64))) ∧ Hid (w.grownBy wr none)) (fun iv _ => n - (intOf iv).toNat)
  case atStart => exact ⟨0, none, 0, Nat.zero_le _, rfl, HB0, HO0, HG0⟩
  case round =>
    clear HB0 HO0 HG0
    obtain ⟨k, vo, vc, hk, rfl, hB, hO, hG⟩ := hrel
    obtain ⟨c0, c1, c2, c3, c4⟩ := scanCells (unhide hB)
    have hws := (Array.getElem?_eq_some_iff.1 (unhide hB)).1
    by_cases hlt : k < n
    · have hd : decide ((k : Int) < (n : Int)) = true := decide_eq_true (by omega)
      have hli : ((allC n).take k).length = k := by simp [allC]; omega
      obtain ⟨T, HTT⟩ : ∃ T, Hid ((allC n).take k = T) := ⟨_, rfl⟩
      obtain ⟨R, HRR⟩ : ∃ R, Hid ((allC n).take (k + 1) = R) := ⟨_, rfl⟩
      rw [unhide HTT] at hO hli
      have HLI := hide hli
      have HNX : Hid (T ++ [(k : Int)] = R) := by unfold Hid; rw [← unhide HTT, ← unhide HRR]; exact allC_next n k hlt
      have HLR : Hid (R.length = k + 1) := by unfold Hid; rw [← unhide HRR]; simp [allC]; omega
      clear hli
      go_wp2_with (at_builtin; refine append_intS rfl _ _ rfl (w.heap.size + 2) (.slice vo k vc) T rfl (unhide hO) (k : Int) rfl (by rw [unhide HLI]; omega) (by omega) R (unhide HNX) ?_)
      intro v5 w5 o5 g5 hat5
      have hB5 := at_rowS g5 (unhide hB) (fun e => by have := ((unhide hO).lt _ e).1; omega)
      have HG5 := hide (grown_new (unhide hG) g5 (fun q e => by have := ((unhide hO).lt _ e).1; omega))
      have o5' := o5
      rw [unhide HLR] at o5'
      obtain ⟨ao5, ac5, rfl⟩ := own_form o5'
      clear o5' hat5 g5 c0 c1 c2 c3 c4
      obtain ⟨c0, c1, c2, c3, c4⟩ := scanCells hB5
      have f0 := frozen_of_row w5 (w.heap.size + 1) 0 _ _ hB5
      have HB6 := hide (heap_setCell_same w5 (w.heap.size + 1) 0 _ _ (.slice ao5 (k + 1) ac5) hB5)
      have HG6 := hide (grown_new (unhide HG5) (grown_set w5 (w.heap.size + 1) 0 (.slice ao5 (k + 1) ac5)) (fun q e => by injection e with e; omega))
      have HO6 : Hid ((w5.setCell ⟨w.heap.size + 1, 0, none⟩ (.slice ao5 (k + 1) ac5)).ownsRow (w.heap.size + 2) 3 1 (.slice ao5 (k + 1) ac5) ((allC n).take (k + 1)).length (((allC n).take (k + 1)).map (Value.int .i64))) := by
        unfold Hid
        rw [unhide HRR]
        exact own_beneath o5 (grown_set w5 (w.heap.size + 1) 0 (.slice ao5 (k + 1) ac5)) (fun p q h1 h2 e => by have := (o5.lt p h1).1; injection h2 with h2; omega)
      clear hB5 o5 hO hB hG HG5 HNX HLR HTT HLI
      go_wp2
      go_roundw
      case rel => exact ⟨k + 1, ao5, ac5, by omega, by go_num, HB6, HO6, HG6⟩
      case measure => simp [intOf]; omega
    · obtain rfl : n = k := by omega
      have hd : decide ((n : Int) < (n : Int)) = false := decide_eq_false (by omega)
      have hta : (allC n).take n = allC n := List.take_of_length_le (by simp [allC])
      rw [hta] at hO
      have HR3 : Hid (∃ F, OwSs (wr.alloc (.cells #[.slice vo n vc, .int .i64 fr, .int .i64 to, .int .i64 hi, .int .i64 lo] 38)) (.slice (some ⟨wr.heap.size, 0, none⟩) 1 1) [⟨allC n, fr, to, hi, lo⟩] F ∧ F.Nodup ∧ (∀ g ∈ F, w.heap.size ≤ g) ∧ w.grownBy (wr.alloc (.cells #[.slice vo n vc, .int .i64 fr, .int .i64 to, .int .i64 hi, .int .i64 lo] 38)) none) := by
        refine ⟨[wr.heap.size] ++ [blk (.slice vo n vc)].flatten, ⟨fun _ => five (.slice vo n vc) (.int .i64 fr) (.int .i64 to) (.int .i64 hi) (.int .i64 lo), [blk (.slice vo n vc)], rfl, World.ownsRow_lit wr #[.slice vo n vc, .int .i64 fr, .int .i64 to, .int .i64 hi, .int .i64 lo] 1 (Nat.zero_le _) (by unfold maxLen; omega) rfl, fun i hi => ?_, rfl⟩, ?_, fun g hg => ?_, grown_alloc (unhide hG) _⟩
        · obtain rfl : i = 0 := by simpa using hi
          exact ⟨⟨rfl, rfl, rfl, rfl⟩, own_base ((unhide hO).alloc _) (Nat.zero_le _), rfl⟩
        · simp only [List.flatten_cons, List.flatten_nil, List.append_nil, List.singleton_append, List.nodup_cons]
          exact ⟨fun h => by have := ((unhide hO).lt _ (mem_blk.1 h)).2; omega, blk_nodup _⟩
        · simp only [List.flatten_cons, List.flatten_nil, List.append_nil, List.singleton_append, List.mem_cons] at hg
          rcases hg with rfl | hg
          · omega
          · have := ((unhide hO).lt _ (mem_blk.1 hg)).1; omega
      clear hta hO hB hG
      go_wp2
      go_ret
      obtain ⟨F, h⟩ := unhide HR3
      exact ⟨_, F, rfl, h⟩

end Go.Proofs.Ytnjcmlmgjoaeeaa

namespace Go.Proofs.Ytnjcmlmgjoaeeaa
open Go.RowKit

def apG (T : List Scn) (c : Int) : List Scn := T.map fun a => ⟨[c], a.fr, a.to, a.hi, a.lo⟩
theorem apG_len (T : List Scn) (c : Int) : (apG T c).length = T.length := by simp [apG]
def apTo (n : Nat) (T : List Scn) (i j : Nat) : List Scn := ((allC n).take i).flatMap (apG T) ++ (apG T i).take j
theorem apTo_next (n : Nat) (T : List Scn) (i j : Nat) (hj : j < T.length) : apTo n T i j ++ [⟨[(i : Int)], T[j].fr, T[j].to, T[j].hi, T[j].lo⟩] = apTo n T i (j + 1) := by
  unfold apTo
  rw [List.append_assoc, List.take_succ_eq_append_getElem (show j < (apG T i).length by rw [apG_len]; exact hj)]
  simp [apG]
theorem apTo_all (n : Nat) (T : List Scn) (i : Nat) (hi : i < n) : apTo n T i T.length = apTo n T (i + 1) 0 := by
  unfold apTo
  have e : (apG T (i : Int)).take T.length = apG T (i : Int) := List.take_of_length_le (by rw [apG_len]; exact Nat.le_refl _)
  rw [e, eachC_next n i hi (apG T), List.take_zero, List.append_nil]
theorem apTo_end (n : Nat) (T : List Scn) : apTo n T n 0 = eachC n (apG T) := by
  unfold apTo eachC
  rw [List.take_of_length_le (by simp [allC]), List.take_zero, List.append_nil]
theorem flat_lenA (T : List Scn) : ∀ l : List Int, (l.flatMap (apG T)).length = l.length * T.length
  | [] => by simp
  | c :: l => by rw [List.flatMap_cons, List.length_append, flat_lenA T l, apG_len, List.length_cons, Nat.add_mul, Nat.one_mul, Nat.add_comm]
theorem apTo_len (n : Nat) (T : List Scn) (i j : Nat) (hi : i ≤ n) (hj : j ≤ T.length) : (apTo n T i j).length = i * T.length + j := by
  unfold apTo
  rw [List.length_append, flat_lenA, List.length_take, List.length_take, apG_len]
  have : (allC n).length = n := by simp [allC]
  rw [this, Nat.min_eq_left hi, Nat.min_eq_left hj]

/-- A list of scans while it is made. -/
structure Ap (w wr : World) (v : Value) (R : List Scn) (F : List Nat) : Prop where
  own : OwSs wr v R F
  nd : F.Nodup
  lo : ∀ g ∈ F, w.heap.size + 1 ≤ g
  grown : w.grownBy wr none
theorem OwG.headA {α : Type} {e : TypeId} {sz : Nat} {P : World → (Nat → Value) → α → List Nat → Prop} {w : World} {v : Value} {L : List α} {F : List Nat} (h : OwG e sz P w v L F) : ∀ x ∈ blk v, x ∈ F := by
  obtain ⟨U, Fs, _, _, _, rfl⟩ := h
  intro x hx
  simp [hx]

set_option maxRecDepth 20000 in
set_option maxHeartbeats 3200000 in
theorem apart (X : Array Value) (n : Nat) (hX : Cnt X n) (v : Value) (T : List Scn) (w : World) (hT : RdSs w v T) (hTl : T.length ≤ 100) (L : List Scn) (HL : Hid (eachC n (apG T) = L)) :
    Calls Try.prog 70 #[.agg X, v] w fun e w' => ∃ u F, e = .returned u ∧ OwSs w' u L F ∧ F.Nodup ∧ (∀ g ∈ F, w.heap.size ≤ g) ∧ w.grownBy w' none := by
  have hn := hX.n4
  obtain ⟨to', tc, rfl, hTr⟩ := hT
  have b0 := heap_alloc_new w (.cells X 71)
  have c4 : (w.alloc (.cells X 71)).cell? ⟨w.heap.size, 4, none⟩ = some (.int .i64 n) := by rw [cell_of_row _ _ 4 _ _ (0, 0) b0]; exact hX.c4
  have HTR := hide hTr
  have HA0 : Hid (Ap w (w.alloc (.cells X 71)) (.slice none 0 0) (apTo n T 0 0) []) := ⟨OwG.nil _ _ _ _, by simp, fun g hg => by simp at hg, World.grownBy_alloc _ _ _⟩
  obtain ⟨m, HML⟩ : ∃ m, Hid (T.length = m) := ⟨_, rfl⟩
  have hm : m ≤ 100 := by rw [← unhide HML]; exact hTl
  rw [unhide HML]
  clear b0 hX hTr hTl
  go_enter Try.func70, Try.ntmps70
  go_wp2
  clear c4
  go_loopw [5, 11] (fun ov iv wr => ∃ (i : Nat) (vo : Option Addr) (vn vc : Nat) (F : List Nat), i ≤ n ∧ iv = .int .i64 i ∧ ov = .slice vo vn vc ∧ Hid (Ap w wr (.slice vo vn vc) (apTo n T i 0) F)) (fun _ iv _ => n - (intOf iv).toNat)
  case atStart => exact ⟨0, _, _, _, [], Nat.zero_le _, rfl, rfl, HA0⟩
  case round =>
    clear HA0
    obtain ⟨i, vo, vn, vc, F, hi, rfl, rfl, hA⟩ := hrel
    by_cases hlt : i < n
    · have hd : decide ((i : Int) < (n : Int)) = true := decide_eq_true (by omega)
      go_wp2
      go_loopw [5, 16] (fun ov jv wr => ∃ (j : Nat) (vo : Option Addr) (vn vc : Nat) (F : List Nat), j ≤ m ∧ jv = .int .i64 j ∧ ov = .slice vo vn vc ∧ Hid (Ap w wr (.slice vo vn vc) (apTo n T i j) F)) (fun _ jv _ => m - (intOf jv).toNat)
      case atStart => exact ⟨0, _, _, _, F, Nat.zero_le _, rfl, rfl, hA⟩
      case round =>
        clear hA
        obtain ⟨j, vo, vn, vc, F, hj, rfl, rfl, hA⟩ := hrel
        by_cases hjl : j < m
        · have hd2 : decide ((j : Int) < (m : Int)) = true := decide_eq_true (by omega)
          have hd3 : (j : Int) < (m : Int) := by omega
          have j0 : (0 : Int) ≤ (j : Int) := by omega
          have hjT : j < T.length := by rw [unhide HML]; exact hjl
          obtain ⟨sb, soff, cf, rfl, hcell, hsc, co, cc, ec, _⟩ := unhide HTR j hjT
          have HNX := hide (apTo_next n T i j hjT)
          have HLEN := hide (apTo_len n T i j hi (by omega))
          generalize T[j] = a at hsc HNX ec
          obtain ⟨cs, fr, to, hi', lo⟩ := a
          obtain ⟨k0, k1, k2, k3, k4⟩ := rowScan (fun q hq => (unhide hA).grown.cell (hcell q hq) (by simp)) hsc
          dsimp only at k1 k2 k3 k4 HNX
          generalize List.length _ = cn at ec
          rw [ec] at k0
          clear hcell hsc ec
          obtain ⟨R, HRR⟩ : ∃ R, Hid (apTo n T i (j + 1) = R) := ⟨_, rfl⟩
          rw [unhide HRR] at HNX
          have hs1 : (wr.alloc (.cells #[(.slice (some ⟨wr.heap.size + 1, 0, none⟩) 1 1), .int .i64 fr, .int .i64 to, .int .i64 hi', .int .i64 lo] 38)).heap.size = wr.heap.size + 1 := by simp
          have gA : wr.grownBy ((wr.alloc (.cells #[(.slice (some ⟨wr.heap.size + 1, 0, none⟩) 1 1), .int .i64 fr, .int .i64 to, .int .i64 hi', .int .i64 lo] 38)).alloc (.cells #[.int .i64 (i : Int)] 3)) none := grown_alloc (grown_alloc (World.grownBy.refl _ _) _) _
          have HB3 : Hid (((wr.alloc (.cells #[(.slice (some ⟨wr.heap.size + 1, 0, none⟩) 1 1), .int .i64 fr, .int .i64 to, .int .i64 hi', .int .i64 lo] 38)).alloc (.cells #[.int .i64 (i : Int)] 3)).heap[wr.heap.size]? = some (.cells #[(.slice (some ⟨wr.heap.size + 1, 0, none⟩) 1 1), .int .i64 fr, .int .i64 to, .int .i64 hi', .int .i64 lo] 38 (0, 0))) := at_rowS (World.grownBy_alloc _ _ none) (heap_alloc_new wr _) (by simp)
          have HOR : Hid (((wr.alloc (.cells #[(.slice (some ⟨wr.heap.size + 1, 0, none⟩) 1 1), .int .i64 fr, .int .i64 to, .int .i64 hi', .int .i64 lo] 38)).alloc (.cells #[.int .i64 (i : Int)] 3)).ownsRow 0 3 1 (.slice (some ⟨wr.heap.size + 1, 0, none⟩) 1 1) 1 [.int .i64 (i : Int)]) := by
            have h := World.ownsRow_lit (wr.alloc (.cells #[(.slice (some ⟨wr.heap.size + 1, 0, none⟩) 1 1), .int .i64 fr, .int .i64 to, .int .i64 hi', .int .i64 lo] 38)) (e := 3) (size := 1) (base := 0) #[.int .i64 (i : Int)] 1 (Nat.zero_le _) (by unfold maxLen; omega) rfl
            rw [hs1] at h
            exact h
          have HU : Hid (∀ q (h : q < [(⟨[(i : Int)], fr, to, hi', lo⟩ : Scn)].length), OwScE ((wr.alloc (.cells #[(.slice (some ⟨wr.heap.size + 1, 0, none⟩) 1 1), .int .i64 fr, .int .i64 to, .int .i64 hi', .int .i64 lo] 38)).alloc (.cells #[.int .i64 (i : Int)] 3)) (five (.slice (some ⟨wr.heap.size + 1, 0, none⟩) 1 1) (.int .i64 fr) (.int .i64 to) (.int .i64 hi') (.int .i64 lo)) [(⟨[(i : Int)], fr, to, hi', lo⟩ : Scn)][q] ([[wr.heap.size + 1]].getD q [])) := fun q h => by
            obtain rfl : q = 0 := by simpa using h
            exact ⟨⟨rfl, rfl, rfl, rfl⟩, unhide HOR, rfl⟩
          have HO3 := hide (OwSs.ok.keep (unhide hA).own gA)
          have HD : Hid (∀ x ∈ [[wr.heap.size + 1]].flatten, x ∉ F) := fun x hx h => by
            have := OwSs.ok.lt _ _ _ _ (unhide hA).own x h
            simp at hx
            omega
          have HSZ : Hid (((wr.alloc (.cells #[(.slice (some ⟨wr.heap.size + 1, 0, none⟩) 1 1), .int .i64 fr, .int .i64 to, .int .i64 hi', .int .i64 lo] 38)).alloc (.cells #[.int .i64 (i : Int)] 3)).heap.size = wr.heap.size + 1 + 1) := by unfold Hid; simp
          obtain ⟨z0, z1, z2, z3, z4⟩ := scanCells (unhide HB3)
          have HGA := hide gA
          have HLB : Hid ((apTo n T i j).length + 1 ≤ 1000000) := by
            unfold Hid
            rw [unhide HLEN, unhide HML]
            have : i * m ≤ 4 * 100 := Nat.mul_le_mul (by omega) hm
            omega
          clear gA hs1 HLEN
          go_wp2_with (at_builtin; refine append_rowsG OwScE.ok Try.underlying27 info_scan rfl (by decide) (by decide) rfl _ _ rfl (.slice vo vn vc) (apTo n T i j) F rfl (unhide HO3) (unhide hA).nd #[(.slice (some ⟨wr.heap.size + 1, 0, none⟩) 1 1), .int .i64 fr, .int .i64 to, .int .i64 hi', .int .i64 lo] 1 (fun _ => five (.slice (some ⟨wr.heap.size + 1, 0, none⟩) 1 1) (.int .i64 fr) (.int .i64 to) (.int .i64 hi') (.int .i64 lo)) rfl [⟨[(i : Int)], fr, to, hi', lo⟩] rfl [[wr.heap.size + 1]] rfl (unhide HU) (by simp) (unhide HD) (by intro u hu; simp at hu; rcases hu with rfl | rfl | rfl | rfl | rfl <;> rfl) (wr.heap.size + 1 + 1) (unhide HSZ) rfl (unhide HLB) R (unhide HNX) ?_)
          intro v5 w5 F5 o5 n5 m5 wr5
          have HA5 : Hid (Ap w w5 v5 (apTo n T i (j + 1)) F5) := by
            have hws := (unhide hA).grown.size
            rw [unhide HRR]
            refine ⟨o5, n5, fun x hx => ?_, ?_⟩
            · rcases m5 x hx with h | h | h
              · exact (unhide hA).lo x h
              · omega
              · omega
            · exact Wr.new (grown_trans (unhide hA).grown (unhide HGA)) wr5 (fun x hx => by have := (unhide hA).lo x ((unhide hA).own.headA x hx); omega)
          obtain ⟨vo5, vc5, rfl⟩ := o5.form
          clear o5 n5 m5 wr5 HU HO3 HD HSZ z0 z1 z2 z3 z4 HGA HLB HOR HB3 k0 k1 k2 k3 k4 hA HNX HRR
          go_wp2
          go_roundw
          case rel => exact ⟨j + 1, vo5, _, vc5, F5, by omega, by go_num, rfl, HA5⟩
          case measure => simp [intOf]; omega
        · obtain rfl : j = m := by omega
          have hd2 : decide ((j : Int) < (j : Int)) = false := decide_eq_false (by omega)
          have HA5 : Hid (Ap w wr (.slice vo vn vc) (apTo n T (i + 1) 0) F) := by
            unfold Hid
            rw [← apTo_all n T i hlt, unhide HML]
            exact unhide hA
          go_wp2
          go_roundw
          case rel => exact ⟨i + 1, vo, vn, vc, F, by omega, by go_num, rfl, HA5⟩
          case measure => simp [intOf]; omega
    · obtain rfl : n = i := by omega
      have hd : decide ((n : Int) < (n : Int)) = false := decide_eq_false (by omega)
      rw [apTo_end, unhide HL] at hA
      go_wp2
      go_ret
      exact ⟨_, F, rfl, (unhide hA).own, (unhide hA).nd, fun g hg => by have := (unhide hA).lo g hg; omega, (unhide hA).grown⟩

end Go.Proofs.Ytnjcmlmgjoaeeaa

namespace Go.Proofs.Ytnjcmlmgjoaeeaa
open Go.RowKit

def OwLr (w : World) : List Value → List (List Scn) → List Nat → Prop
  | [], [], F => F = []
  | v :: vs, L :: Ls, F => ∃ F1 F2, OwSs w v L F1 ∧ OwLr w vs Ls F2 ∧ F = F1 ++ F2
  | _, _, _ => False
theorem OwLr.keep {w w' : World} (g : w.grownBy w' none) : ∀ {vs : List Value} {Ls : List (List Scn)} {F : List Nat}, OwLr w vs Ls F → OwLr w' vs Ls F
  | [], [], _, h => h
  | _ :: _, _ :: _, _, ⟨F1, F2, h1, h2, e⟩ => ⟨F1, F2, OwSs.ok.keep h1 g, OwLr.keep g h2, e⟩
theorem OwLr.lt {w : World} : ∀ {vs : List Value} {Ls : List (List Scn)} {F : List Nat}, OwLr w vs Ls F → ∀ x ∈ F, x < w.heap.size
  | [], [], _, h, x, hx => by
    have : _ = [] := h
    rw [this] at hx
    cases hx
  | _ :: _, _ :: _, _, ⟨F1, F2, h1, h2, e⟩, x, hx => by
    rw [e] at hx
    rcases List.mem_append.1 hx with h | h
    · exact OwSs.ok.lt _ _ _ _ h1 x h
    · exact OwLr.lt h2 x h
theorem OwLr.push {w : World} {v : Value} {L : List Scn} {G : List Nat} (o : OwSs w v L G) : ∀ {vs : List Value} {Ls : List (List Scn)} {F : List Nat}, OwLr w vs Ls F → OwLr w (vs ++ [v]) (Ls ++ [L]) (F ++ G)
  | [], [], _, h => ⟨G, [], o, rfl, by have : _ = [] := h; rw [this]; simp⟩
  | _ :: _, _ :: _, _, ⟨F1, F2, h1, h2, e⟩ => ⟨F1, F2 ++ G, h1, OwLr.push o h2, by rw [e, List.append_assoc]⟩
/-- .. none of it below B. -/
def OwB (B : Nat) (w : World) (vs : List Value) (Ls : List (List Scn)) : Prop := ∃ F, OwLr w vs Ls F ∧ F.Nodup ∧ ∀ g ∈ F, B ≤ g
theorem OwB.nil (B : Nat) (w : World) : OwB B w [] [] := ⟨[], rfl, by simp, fun g hg => by cases hg⟩
theorem OwB.keep {B : Nat} {w w' : World} {vs : List Value} {Ls : List (List Scn)} (h : OwB B w vs Ls) (g : w.grownBy w' none) : OwB B w' vs Ls := by
  obtain ⟨F, h1, h2, h3⟩ := h
  exact ⟨F, h1.keep g, h2, h3⟩
theorem OwB.push {B : Nat} {w w' : World} {vs : List Value} {Ls : List (List Scn)} {v : Value} {L : List Scn} {G : List Nat} (h : OwB B w vs Ls) (g : w.grownBy w' none) (o : OwSs w' v L G) (hG : G.Nodup) (hlo : ∀ x ∈ G, w.heap.size ≤ x) (hB : B ≤ w.heap.size) : OwB B w' (vs ++ [v]) (Ls ++ [L]) := by
  obtain ⟨F, h1, h2, h3⟩ := h
  refine ⟨F ++ G, (h1.keep g).push o, List.nodup_append.2 ⟨h2, hG, fun x hx y hy e => ?_⟩, fun x hx => ?_⟩
  · have := h1.lt x hx
    have := hlo y hy
    omega
  · rcases List.mem_append.1 hx with h | h
    · exact h3 x h
    · have := hlo x h; omega

theorem src_of {w : World} {v : Value} {n : Nat} {cs : List Value} {e : TypeId} (h : w.ownsRow 0 e 5 v n cs) (hn : 0 < n) (hone : ∀ u ∈ cs, u.oneCell' = true) : Src w v (n, cs) := by
  obtain ⟨ao, cap, rfl⟩ := own_form h
  obtain ⟨g, rfl, _, _⟩ := own_at h hn
  refine ⟨⟨g, cap, rfl, fun j u hu => ?_⟩, h.1, hone⟩
  have hj : j < cs.length := (List.getElem?_eq_some_iff.1 hu).1
  have hl := h.1
  rw [h.cellAt j (by omega)]
  exact hu

theorem one_of {w : World} {n : Nat} {U : Nat → Nat → Value} {L : List Scn} {Gs : List (List Nat)} (hl : L.length = n) (h : ∀ i (hi : i < L.length), OwScE w (U i) L[i] (Gs.getD i [])) : ∀ u ∈ rowsK n 5 U, u.oneCell' = true := by
  intro u hu
  obtain ⟨c, hc, rfl⟩ := List.getElem_of_mem hu
  rw [rowsK_len] at hc
  have hi : c / 5 < n := by omega
  have e : (rowsK n 5 U)[c]? = some (U (c / 5) (c % 5)) := by
    have := rowsK_get n 5 U (c / 5) (c % 5) hi (by omega)
    rw [show c / 5 * 5 + c % 5 = c by omega] at this
    exact this
  have e2 : (rowsK n 5 U)[c]'(by rw [rowsK_len]; exact hc) = U (c / 5) (c % 5) := by
    rw [List.getElem?_eq_getElem (by rw [rowsK_len]; exact hc)] at e
    exact Option.some.inj e
  rw [e2]
  obtain ⟨⟨e1, e3, e4, e5⟩, ho, _⟩ := h (c / 5) (by omega)
  have hm : c % 5 = 0 ∨ c % 5 = 1 ∨ c % 5 = 2 ∨ c % 5 = 3 ∨ c % 5 = 4 := by omega
  rcases hm with h | h | h | h | h <;> rw [h]
  · obtain ⟨ao, cap, e9⟩ := own_form ho
    rw [e9]; rfl
  · rw [e1]; rfl
  · rw [e3]; rfl
  · rw [e4]; rfl
  · rw [e5]; rfl

theorem OwLr.srcs {w : World} : ∀ {vs : List Value} {Ls : List (List Scn)} {F : List Nat}, OwLr w vs Ls F → (∀ L ∈ Ls, 0 < L.length) → ∃ ps : List (Nat × List Value), ps.length = vs.length ∧ vs.length = Ls.length ∧ (∀ i, i < vs.length → Src w (vs.getD i undef) (ps.getD i (0, []))) ∧ (∀ i, i < vs.length → (ps.getD i (0, [])).1 = (Ls.getD i []).length) ∧
    ∃ (U : Nat → Nat → Value) (Gs : List (List Nat)), Gs.length = Ls.flatten.length ∧ ps.flatMap (·.2) = rowsK Ls.flatten.length 5 U ∧ (∀ j (h : j < Ls.flatten.length), OwScE w (U j) Ls.flatten[j] (Gs.getD j [])) ∧ Gs.flatten.Sublist F
  | [], [], F, h, _ => ⟨[], rfl, rfl, fun i hi => absurd hi (by simp), fun i hi => absurd hi (by simp), fun _ _ => undef, [], rfl, by simp [rowsK], fun j h => absurd h (by simp), by simp⟩
  | v :: vs, L :: Ls, F, ⟨F1, F2, h1, h2, e⟩, hpos => by
    obtain ⟨ps, a1, a0, a2, a3, U, Gs, a4, a5, a6, a7⟩ := OwLr.srcs h2 (fun L' hL' => hpos L' (by simp [hL']))
    obtain ⟨U1, G1, l1, o1, els, rfl⟩ := h1
    have hs := src_of o1 (hpos L (by simp)) (one_of rfl els)
    refine ⟨(L.length, rowsK L.length 5 U1) :: ps, by simp [a1], by simp [a0], fun i hi => ?_, fun i hi => ?_, fun i j => if i < L.length then U1 i j else U (i - L.length) j, G1 ++ Gs, by simp [l1, a4], ?_, fun j hj => ?_, ?_⟩
    · cases i with
      | zero => exact hs
      | succ i => simpa using a2 i (by simpa using hi)
    · cases i with
      | zero => rfl
      | succ i => simpa using a3 i (by simpa using hi)
    · rw [List.flatMap_cons, a5, rowsK_append _ _ 5 (by decide), List.flatten_cons, List.length_append]
    · simp only [List.flatten_cons] at hj ⊢
      by_cases hil : j < L.length
      · have e1 : (fun q => if j < L.length then U1 j q else U (j - L.length) q) = U1 j := by funext q; rw [if_pos hil]
        have e2 : (G1 ++ Gs).getD j [] = G1.getD j [] := by simp [List.getElem?_append_left (show j < G1.length by omega)]
        rw [e1, e2, List.getElem_append_left hil]
        exact els j hil
      · have e1 : (fun q => if j < L.length then U1 j q else U (j - L.length) q) = U (j - L.length) := by funext q; rw [if_neg hil]
        have e2 : (G1 ++ Gs).getD j [] = Gs.getD (j - L.length) [] := by simp [List.getElem?_append_right (show G1.length ≤ j by omega), l1]
        have hj2 : j - L.length < Ls.flatten.length := by rw [List.length_append] at hj; omega
        rw [e1, e2, List.getElem_append_right (by omega)]
        exact a6 (j - L.length) hj2
    · rw [e, List.flatten_append]
      exact List.Sublist.append (List.sublist_append_right _ _) a7

theorem rowC_take (ps : List (Nat × List Value)) : ∀ i, i ≤ ps.length → rowC ps i = (ps.take i).flatMap (·.2)
  | 0, _ => by simp [rowC]
  | i + 1, h => by
    rw [List.take_succ_eq_append_getElem (by omega), List.flatMap_append, ← rowC_take ps i (by omega)]
    simp [rowC, show i < ps.length by omega]
theorem rowC_len {w : World} {vs : List Value} {ps : List (Nat × List Value)} (h : ∀ i, i < vs.length → Src w (vs.getD i undef) (ps.getD i (0, []))) : ∀ i, i ≤ vs.length → (rowC ps i).length = sumC ps i * 5
  | 0, _ => rfl
  | i + 1, hi => by
    have h1 := (h i (by omega)).len
    simp only [rowC, sumC, List.length_append, Nat.add_mul]
    rw [rowC_len h i (by omega), h1]

/-- All of them, one behind the other. -/
theorem OwB.concat {B : Nat} {w : World} {vs : List Value} {Ls : List (List Scn)} (h : OwB B w vs Ls) (hpos : ∀ L ∈ Ls, 0 < L.length) (hmost : ∀ L ∈ Ls, L.length ≤ 100) (hN : vs.length ≤ 100) (h1 : 0 < vs.length) (hB : B ≤ w.heap.size) (g : Nat) (hc : ∀ i, i < vs.length → w.cell? ⟨g, i, none⟩ = some (vs.getD i undef)) :
    Calls Try.prog 71 #[.slice (some ⟨g, 0, none⟩) vs.length vs.length] w fun e w' => ∃ u F, e = .returned u ∧ OwSs w' u Ls.flatten F ∧ F.Nodup ∧ (∀ x ∈ F, B ≤ x) ∧ w.grownBy w' none := by
  obtain ⟨F, hF, nF, lF⟩ := h
  obtain ⟨ps, a1, a0, a2, a3, U, Gs, a4, a5, a6, a7⟩ := hF.srcs hpos
  have hr : rowC ps vs.length = rowsK Ls.flatten.length 5 U := by rw [rowC_take ps _ (by omega), List.take_of_length_le (by omega), a5]
  have hsum : sumC ps vs.length = Ls.flatten.length := by
    have h2 := rowC_len a2 vs.length (Nat.le_refl _)
    rw [hr, rowsK_len] at h2
    omega
  have hat : ∀ i, i < vs.length → Ls.getD i [] ∈ Ls := fun i hi => by
    rw [show Ls.getD i [] = Ls[i]'(by omega) by simp [show i < Ls.length by omega]]
    exact List.getElem_mem _
  have hp : 0 < sumC ps vs.length := by
    have h2 := a3 0 h1
    have h3 := hpos _ (hat 0 h1)
    have h4 := sumC_mono ps 1 vs.length h1
    have h5 : sumC ps 1 = 0 + (ps.getD 0 (0, [])).1 := rfl
    omega
  refine (concatScan g vs.length vs ps hp hN (fun i hi => by rw [a3 i hi]; exact hmost _ (hat i hi)) w hc a2).mono ?_
  rintro e w' ⟨u, rfl, o, gg⟩
  rw [hsum, hr] at o
  refine ⟨u, blk u ++ Gs.flatten, rfl, ⟨U, Gs, a4, own_base o (Nat.zero_le _), fun i hi => OwScE.ok.keep (a6 i hi) gg, rfl⟩, List.nodup_append.2 ⟨blk_nodup u, a7.nodup nF, fun x hx y hy e => ?_⟩, fun x hx => ?_, gg⟩
  · have h2 := (o.lt x (mem_blk.1 hx)).1
    have h3 := hF.lt y (a7.subset hy)
    omega
  · rcases List.mem_append.1 hx with h2 | h2
    · have := (o.lt x (mem_blk.1 h2)).1; omega
    · exact lF x (a7.subset h2)

end Go.Proofs.Ytnjcmlmgjoaeeaa
