/-
  PassFns, PassTables, AnyTake, PassTold.
-/
import Derived.Test.YtfgglainjaplgaaMCd

namespace Go.Proofs.Ytfgglainjaplgaa
open Go.RowKit

theorem kindOfPass (w : World) (v0 : Value) (a : Scn) (k : Int) (HK : Hid ((if a.hi = 0 then 0 else 1) = k)) :
    Calls Try.prog 62 #[scV v0 a] w fun e w' => e = .returned (.int .i64 k) ∧ w.grownBy w' none := by
  obtain ⟨cs, fr, to, hi, lo⟩ := a
  have hk := unhide HK
  unfold scV
  dsimp only at hk ⊢
  have HG0 : Hid (w.grownBy (w.alloc (.cells #[v0, .int .i64 fr, .int .i64 to, .int .i64 hi, .int .i64 lo] 26)) none) := World.grownBy_alloc _ _ _
  obtain ⟨c0, c1, c2, c3, c4⟩ := scanCells (heap_alloc_new w (.cells #[v0, .int .i64 fr, .int .i64 to, .int .i64 hi, .int .i64 lo] 26))
  clear HK
  by_cases h0 : hi = 0
  · have n0 : (hi == 0) = true := by simp [h0]
    obtain rfl : k = 0 := by rw [← hk, if_pos h0]
    clear h0 hk
    go_enter Try.func62, Try.ntmps62
    go_wp2
    go_ret
    exact ⟨rfl, unhide HG0⟩
  · have n0 : (hi == 0) = false := by simp [h0]
    obtain rfl : k = 1 := by rw [← hk, if_neg h0]
    clear h0 hk
    go_enter Try.func62, Try.ntmps62
    go_wp2
    go_ret
    exact ⟨rfl, unhide HG0⟩

theorem pow_all : ∀ lo : Nat, lo < 15 → (1 : Int) ≤ 2 ^ lo ∧ (2 : Int) ^ lo ≤ 16384 := by decide
theorem pow_in (lo : Nat) (h : lo ≤ 14) : (1 : Int) ≤ 2 ^ lo ∧ (2 : Int) ^ lo ≤ 16384 := pow_all lo (by omega)
theorem cut_tdiv (n : Int) (lo : Nat) : n.tdiv (2 ^ lo) = cutI n lo := by
  have hp := pow2_pos lo
  unfold cutI
  split
  · rename_i h
    have e : n = -(-n) := by omega
    rw [e, Int.neg_tdiv, Int.tdiv_eq_ediv_of_nonneg (by omega)]
    simp
  · rename_i h
    rw [Int.tdiv_eq_ediv_of_nonneg (by omega)]
theorem cut_in (n : Int) (lo : Nat) (hn : -16383 ≤ n ∧ n ≤ 16383) : -16383 ≤ cutI n lo ∧ cutI n lo ≤ 16383 := by
  have hp := pow2_pos lo
  have key : ∀ a : Int, 0 ≤ a → 0 ≤ a / 2 ^ lo ∧ a / 2 ^ lo ≤ a := fun a ha => ⟨Int.ediv_nonneg ha (Int.le_of_lt hp), Int.ediv_le_self _ ha⟩
  unfold cutI
  split
  · have := key (-n) (by omega); omega
  · have := key n (by omega); omega

theorem firstTell (n : Int) (lo : Nat) (hn : -16383 ≤ n ∧ n ≤ 16383) (hlo : lo ≤ 13) (w : World) :
    Calls Try.prog 72 #[.agg #[.int .i64 lo], .int .i64 n] w fun e w' => e = .returned (.int .i64 (cutI n lo)) ∧ w.grownBy w' none := by
  have hp := pow_in lo (by omega)
  have hc := cut_in n lo hn
  have e1 := i64_in (2 ^ lo) (by omega)
  have hne : ¬ ((2 : Int) ^ lo = 0) := by omega
  have et := cut_tdiv n lo
  have e2 := i64_in (cutI n lo) (by omega)
  have l1 : ¬ ((lo : Int) < 0) := by omega
  have l2 : (lo : Int).toNat = lo := rfl
  clear hp hc
  go_enter Try.func72, Try.ntmps72
  go_wp2
  go_ret
  exact ⟨rfl, World.grownBy_alloc _ _ _⟩

theorem first_most (told : Int) (lo : Nat) : decide (-(16383 / 2 ^ lo) ≤ told ∧ told ≤ 16383 / 2 ^ lo) = (inLev told && inLev (told * 2 ^ lo)) := by
  have hp := pow2_pos lo
  unfold inLev
  rw [Bool.eq_iff_iff, Bool.and_eq_true, decide_eq_true_eq, decide_eq_true_eq, decide_eq_true_eq]
  have h1 : ∀ x : Int, x ≤ 16383 / 2 ^ lo ↔ x * 2 ^ lo ≤ 16383 := fun x => Int.le_ediv_iff_mul_le hp
  have h2 := h1 told
  have h3 := h1 (-told)
  have h4 : -told * 2 ^ lo = -(told * 2 ^ lo) := Int.neg_mul _ _
  have h5 : (16383 : Int) / 2 ^ lo ≤ 16383 := Int.ediv_le_self _ (by omega)
  constructor
  · rintro ⟨g1, g2⟩
    have := h2.1 g2
    have := h3.1 (by omega)
    omega
  · rintro ⟨_, g3, g4⟩
    have := h2.2 g4
    have := h3.2 (by omega)
    omega

theorem firstPut (x told : Int) (lo : Nat) (hlo : lo ≤ 13) (b : Bool) (HB : Hid ((inLev told && inLev (told * 2 ^ lo)) = b)) (w : World) :
    Calls Try.prog 75 #[.agg #[.int .i64 lo], .int .i64 x, .int .i64 told] w fun e w' => ∃ y : Int, (e = .returned (.tuple #[.int .i64 y, .bool b]) ∧ (b = true → y = told * 2 ^ lo)) ∧ w.grownBy w' none := by
  have hp := pow_in lo (by omega)
  have e1 := i64_in (2 ^ lo) (by omega)
  have hne : ¬ ((2 : Int) ^ lo = 0) := by omega
  have hd0 : 0 ≤ (16383 : Int) / 2 ^ lo := Int.ediv_nonneg (by omega) (by omega)
  have hd1 : (16383 : Int) / 2 ^ lo ≤ 16383 := Int.ediv_le_self _ (by omega)
  have hm := first_most told lo
  rw [unhide HB] at hm
  have et : (16383 : Int).tdiv (2 ^ lo) = 16383 / 2 ^ lo := Int.tdiv_eq_ediv_of_nonneg (by omega)
  have l1 : ¬ ((lo : Int) < 0) := by omega
  have l2 : (lo : Int).toNat = lo := rfl
  have hb := unhide HB
  obtain ⟨q, HQ⟩ : ∃ q, Hid ((16383 : Int) / 2 ^ lo = q) := ⟨_, rfl⟩
  rw [unhide HQ] at hd0 hd1 hm et
  have e2 := i64_in q (by omega)
  have e3 := i64_in (-q) (by omega)
  have HM := hide hm
  have HG0 : Hid (w.grownBy (w.alloc (.cells #[.int .i64 lo] 99)) none) := World.grownBy_alloc _ _ _
  have e4 : b = true → IntKind.i64.wrap (told * 2 ^ lo) = told * 2 ^ lo := fun h => by
    rw [h] at hb
    unfold inLev at hb
    simp only [Bool.and_eq_true, decide_eq_true_eq] at hb
    exact i64_in _ (by omega)
  clear hp hd0 hd1 hm hb HB
  go_enter Try.func75, Try.ntmps75
  go_wp2_with fail
  refine (inRange told (-q) q b HM _).mono ?_
  rintro e w2 ⟨rfl, rfl⟩
  cases b with
  | false =>
    clear e4
    go_wp2
    exact bodyPost_ret (v := .tuple #[.int .i64 0, .bool false]) (by simp [results, Try.results75, go_sem]) rfl (by first | exact ⟨0, ⟨rfl, fun h => by cases h⟩, unhide HG0⟩ | exact unhide HG0 | exact ⟨rfl, unhide HG0⟩)
  | true =>
    have e5 := e4 rfl
    clear e4
    go_wp2
    exact bodyPost_ret (v := .tuple #[.int .i64 (told * 2 ^ lo), .bool true]) (by simp [results, Try.results75, go_sem]) rfl (by first | exact ⟨_, ⟨rfl, fun _ => rfl⟩, unhide HG0⟩ | exact unhide HG0 | exact ⟨rfl, unhide HG0⟩)

theorem levelOk (n : Int) (w : World) (b : Bool) (HB : Hid (inLev n = b)) :
    Calls Try.prog 79 #[.int .i64 n] w fun e w' => e = .returned (.bool b) ∧ w = w' := by
  have hb : (n == min (max n (-16383)) 16383) = b := by
    rw [← unhide HB]
    unfold inLev
    rw [Bool.eq_iff_iff, beq_iff_eq, decide_eq_true_eq]
    omega
  go_enter Try.func79, Try.ntmps79
  go_wp2_with fail
  refine (nearestLevel n w).mono ?_
  rintro e w2 ⟨rfl, rfl⟩
  go_wp2
  go_ret
  exact ⟨rfl, rfl⟩

theorem cut_bit (x : Int) (lo : Nat) (h0 : 0 ≤ x) (h1 : x ≤ 16383) : bits BinOp.and IntKind.i64 (x / 2 ^ lo) 1 = x / 2 ^ lo % 2 ∧ 0 ≤ x / 2 ^ lo ∧ x / 2 ^ lo ≤ 16383 := by
  have hq0 : 0 ≤ x / 2 ^ lo := Int.ediv_nonneg h0 (Int.le_of_lt (pow2_pos lo))
  have hq1 : x / 2 ^ lo ≤ x := Int.ediv_le_self _ h0
  exact ⟨and1_i64 _ hq0 (by omega), hq0, by omega⟩

set_option maxHeartbeats 800000 in
theorem refTell (n : Int) (hi lo : Nat) (hn : -16383 ≤ n ∧ n ≤ 16383) (hhi : hi ≤ 14) (hlo : lo ≤ 13) (w : World) :
    Calls Try.prog 73 #[.agg #[.int .i64 hi, .int .i64 lo], .int .i64 n] w fun e w' => e = .returned (.int .i64 (bitI n hi lo)) ∧ w.grownBy w' none := by
  have hp := pow_in hi hhi
  have e1 := i64_in (2 ^ hi) (by omega)
  have hne : ¬ ((2 : Int) ^ hi = 0) := by omega
  have et := cut_tdiv n hi
  have hc := cut_in n hi hn
  have e2 := i64_in (cutI n hi) (by omega)
  have e3 := i64_in (-n) (by omega)
  have l1 : ¬ ((lo : Int) < 0) := by omega
  have l2 : (lo : Int).toNat = lo := rfl
  have l3 : ¬ ((hi : Int) < 0) := by omega
  have l4 : (hi : Int).toNat = hi := rfl
  clear hp hc
  by_cases h : n < 0
  · have hd : decide (n < 0) = true := decide_eq_true h
    obtain ⟨e6, q0, q1⟩ := cut_bit (-n) lo (by omega) (by omega)
    have ea : absI n = -n := by unfold absI; rw [if_pos h]
    have em : max n (-n) = -n := by omega
    have e7 := i64_in (-(-n / 2 ^ lo % 2)) (by omega)
    by_cases h0 : cutI n hi = 0
    · have n0 : (cutI n hi == 0) = true := by simp [h0]
      have hb : bitI n hi lo = -(-n / 2 ^ lo % 2) := by unfold bitI; rw [if_pos ⟨h, h0⟩, ea]
      rw [hb]
      clear hb ea h0 q0 q1
      go_enter Try.func73, Try.ntmps73
      go_wp2
      go_ret
      exact ⟨rfl, World.grownBy_alloc _ _ _⟩
    · have n0 : (cutI n hi == 0) = false := by simp [h0]
      have hb : bitI n hi lo = -n / 2 ^ lo % 2 := by unfold bitI; rw [if_neg (fun hh => h0 hh.2), ea]
      rw [hb]
      clear hb ea h0 q0 q1
      go_enter Try.func73, Try.ntmps73
      go_wp2
      go_ret
      exact ⟨rfl, World.grownBy_alloc _ _ _⟩
  · have hd : decide (n < 0) = false := decide_eq_false h
    obtain ⟨e6, q0, q1⟩ := cut_bit n lo (by omega) (by omega)
    have ea : absI n = n := by unfold absI; rw [if_neg h]
    have em : max n (-n) = n := by omega
    have hb : bitI n hi lo = n / 2 ^ lo % 2 := by unfold bitI; rw [if_neg (fun hh => h hh.1), ea]
    rw [hb]
    clear hb ea q0 q1
    go_enter Try.func73, Try.ntmps73
    go_wp2
    go_ret
    exact ⟨rfl, World.grownBy_alloc _ _ _⟩

def refB (lo : Nat) (n told : Int) : Bool := decide (-1 ≤ told ∧ told ≤ 1) && !(decide (told < 0) && decide (n ≠ 0)) && inLev (finer lo told n)

set_option maxHeartbeats 800000 in
theorem refPut (n told : Int) (hi lo : Nat) (hn : -16383 ≤ n ∧ n ≤ 16383) (hlo : lo ≤ 13) (b : Bool) (HB : Hid (refB lo n told = b)) (w : World) :
    Calls Try.prog 76 #[.agg #[.int .i64 hi, .int .i64 lo], .int .i64 n, .int .i64 told] w fun e w' => ∃ y : Int, (e = .returned (.tuple #[.int .i64 y, .bool b]) ∧ (b = true → y = finer lo told n)) ∧ w.grownBy w' none := by
  have hp := pow_in lo (by omega)
  have e1 := i64_in (2 ^ lo) (by omega)
  have l1 : ¬ ((lo : Int) < 0) := by omega
  have l2 : (lo : Int).toNat = lo := rfl
  have hb := unhide HB
  unfold refB at hb
  obtain ⟨b1, HB1⟩ : ∃ b, Hid (decide (-1 ≤ told ∧ told ≤ 1) = b) := ⟨_, rfl⟩
  rw [unhide HB1] at hb
  have HG0 : Hid (w.grownBy (w.alloc (.cells #[.int .i64 hi, .int .i64 lo] 101)) none) := World.grownBy_alloc _ _ _
  clear HB
  go_enter Try.func76, Try.ntmps76
  go_wp2_with fail
  refine (inRange told (-1) 1 b1 HB1 _).mono ?_
  rintro e w2 ⟨rfl, rfl⟩
  cases b1 with
  | false =>
    obtain rfl : b = false := by rw [← hb]; rfl
    clear hb
    go_wp2
    exact bodyPost_ret (v := .tuple #[.int .i64 0, .bool false]) (by simp [results, Try.results76, go_sem]) rfl ⟨0, ⟨rfl, fun h => by cases h⟩, unhide HG0⟩
  | true =>
    have ht := of_decide_eq_true (unhide HB1)
    clear HB1
    by_cases hneg : told < 0 ∧ n ≠ 0
    · obtain rfl : b = false := by rw [← hb, decide_eq_true hneg.1, decide_eq_true hneg.2]; rfl
      have d1 := decide_eq_true hneg.1
      have d2 : (n != 0) = true := by simp [hneg.2]
      clear hb
      go_wp2
      exact bodyPost_ret (v := .tuple #[.int .i64 0, .bool false]) (by simp [results, Try.results76, go_sem]) rfl ⟨0, ⟨rfl, fun h => by cases h⟩, unhide HG0⟩
    · have hno : (decide (told < 0) && decide (n ≠ 0)) = false := by
        rw [Bool.eq_false_iff]
        intro h
        rw [Bool.and_eq_true, decide_eq_true_eq, decide_eq_true_eq] at h
        exact hneg h
      have hB2 : inLev (finer lo told n) = b := by rw [← hb, hno]; simp
      have hk : (told < 0 ∧ n = 0) ∨ ¬ told < 0 := by by_cases h : told < 0 <;> simp_all
      have hmul : -16384 ≤ told * 2 ^ lo ∧ told * 2 ^ lo ≤ 16384 := by
        have : told = -1 ∨ told = 0 ∨ told = 1 := by omega
        rcases this with rfl | rfl | rfl <;> omega
      have e2 := i64_in (told * 2 ^ lo) (by omega)
      have e3 := i64_in (-(told * 2 ^ lo)) (by omega)
      clear hb hno hneg
      have hw : Hid (∀ y, y = finer lo told n → (∃ y', (Ending.returned (.tuple #[.int .i64 y, .bool b]) = .returned (.tuple #[.int .i64 y', .bool b]) ∧ (b = true → y' = finer lo told n)))) := fun y hy => ⟨y, rfl, fun _ => hy⟩
      by_cases hn0 : n < 0
      · have d3 := decide_eq_true hn0
        have ef : finer lo told n = n + -(told * 2 ^ lo) := by unfold finer; rw [if_pos hn0, Int.neg_mul]
        have ht0 : ¬ told < 0 := by omega
        have d1 := decide_eq_false ht0
        have e4 := i64_in (n + -(told * 2 ^ lo)) (by omega)
        have HLV := hide (fun W => levelOk (n + -(told * 2 ^ lo)) W b (by rw [← ef]; exact hB2))
        have HEF := hide ef
        clear hk ef hB2 hmul
        go_wp2_with fail
        refine (unhide HLV _).mono ?_
        rintro e w3 ⟨rfl, rfl⟩
        go_wp2
        exact bodyPost_ret (v := .tuple #[.int .i64 (n + -(told * 2 ^ lo)), .bool b]) (by simp [results, Try.results76, go_sem]) rfl ⟨_, ⟨rfl, fun _ => (unhide HEF).symm⟩, unhide HG0⟩
      · have d3 := decide_eq_false hn0
        have ef : finer lo told n = n + told * 2 ^ lo := by unfold finer; rw [if_neg hn0]
        have e4 := i64_in (n + told * 2 ^ lo) (by omega)
        have HLV := hide (fun W => levelOk (n + told * 2 ^ lo) W b (by rw [← ef]; exact hB2))
        have HEF := hide ef
        clear ef hB2 hmul
        rcases hk with ⟨h1, h2⟩ | h1
        · have d1 := decide_eq_true h1
          have d2 : (n != 0) = false := by simp [h2]
          clear h2
          go_wp2_with fail
          refine (unhide HLV _).mono ?_
          rintro e w3 ⟨rfl, rfl⟩
          go_wp2
          exact bodyPost_ret (v := .tuple #[.int .i64 (n + told * 2 ^ lo), .bool b]) (by simp [results, Try.results76, go_sem]) rfl ⟨_, ⟨rfl, fun _ => (unhide HEF).symm⟩, unhide HG0⟩
        · have d1 := decide_eq_false h1
          go_wp2_with fail
          refine (unhide HLV _).mono ?_
          rintro e w3 ⟨rfl, rfl⟩
          go_wp2
          exact bodyPost_ret (v := .tuple #[.int .i64 (n + told * 2 ^ lo), .bool b]) (by simp [results, Try.results76, go_sem]) rfl ⟨_, ⟨rfl, fun _ => (unhide HEF).symm⟩, unhide HG0⟩

end Go.Proofs.Ytfgglainjaplgaa

namespace Go.Proofs.Ytfgglainjaplgaa
open Go.RowKit

/-- A scan in its box, and a table that is not filled yet. -/
structure Tw (w W : World) (bs : Array Value) (T : TypeId) : Prop where
  sb : W.heap[w.heap.size]? = some (.cells bs 26 (0, 0))
  rb : W.heap[w.heap.size + 1]? = some (.cells #[.nilFunc, .nilFunc] T (0, 0))
  grown : w.grownBy W none
theorem Tw.size {w W : World} {bs : Array Value} {T : TypeId} (h : Tw w W bs T) : w.heap.size + 2 ≤ W.heap.size := (Array.getElem?_eq_some_iff.1 h.rb).1
theorem Tw.new {w W W' : World} {bs : Array Value} {T : TypeId} (h : Tw w W bs T) (g : W.grownBy W' none) : Tw w W' bs T := ⟨grown_atT g h.sb (by simp), grown_atT g h.rb (by simp), grown_trans h.grown g⟩
theorem Tw.wr {w W W' : World} {bs : Array Value} {T : TypeId} {k : Nat} (h : Tw w W bs T) (g : W.grownBy W' (some k)) (hk : w.heap.size + 2 ≤ k) : Tw w W' bs T :=
  ⟨grown_atT g h.sb (by simp; omega), grown_atT g h.rb (by simp; omega), grown_new h.grown g (fun x e => by simp at e; omega)⟩
theorem Tw.start (w : World) (bs : Array Value) (T : TypeId) : Tw w ((w.alloc (.cells bs 26)).alloc (.cells #[.nilFunc, .nilFunc] T)) bs T := by
  refine ⟨?_, ?_, grown_alloc (World.grownBy_alloc _ _ _) _⟩
  · rw [Below.heap_alloc _ _ _ (by simp)]
    exact heap_alloc_new w _
  · have := heap_alloc_new (w.alloc (.cells bs 26)) (.cells #[.nilFunc, .nilFunc] T)
    simpa using this

set_option maxRecDepth 20000 in
set_option maxHeartbeats 1600000 in
theorem tellTable (w : World) (v0 : Value) (cs : List Int) (fr to hi lo : Int) :
    Calls Try.prog 63 #[scV v0 ⟨cs, fr, to, hi, lo⟩] w fun e w' => e = .returned (.agg #[.func (.func 72) #[.agg #[.int .i64 lo]] #[], .func (.func 73) #[.agg #[.int .i64 hi, .int .i64 lo]] #[]]) ∧ w.grownBy w' none := by
  have hmf : ∀ (fn : Fn) (first cap : Array Value) (w : World), (Instr.makeFunc fn first cap).run Try.prog w = .ok (.func fn first cap) w := fun _ _ _ _ => rfl
  unfold scV
  dsimp only
  have H0 := hide (Tw.start w #[v0, .int .i64 fr, .int .i64 to, .int .i64 hi, .int .i64 lo] 85)
  go_enter Try.func63, Try.ntmps63
  go_wp2
  generalize ((w.alloc (.cells #[v0, .int .i64 fr, .int .i64 to, .int .i64 hi, .int .i64 lo] 26)).alloc (.cells #[.nilFunc, .nilFunc] 85)) = W0 at *
  refine wp_region_noPanic ?_
  have H1 := hide ((unhide H0).new (grown_drew (World.grownBy.refl W0 none)))
  clear H0
  refine wp_region_raw (fun W => Tw w W #[v0, .int .i64 fr, .int .i64 to, .int .i64 hi, .int .i64 lo] 85) [true, true, true, true, true, true, true, true, false, false, false, false] (by kernel_rfl) (fun _ _ _ _ _ h => h) rfl (by kernel_rfl) (unhide H1) ?_
  generalize W0.drew = W1 at *
  refine heldF_take (v := ?_) (Or.inl ⟨by rfl, ?_⟩) ?_
  rotate_left 1
  · intro w' hSw
    try dsimp only at hSw
    obtain ⟨s0, s1, s2, s3, s4⟩ := scanCells hSw.sb
    clear hSw
    go_simp
    try with_reducible rfl
  simp only [Act.put, List.setIfInBounds_toArray, List.set_cons_zero, List.set_cons_succ]
  refine heldF_take (v := ?_) (Or.inl ⟨by rfl, ?_⟩) ?_
  rotate_left 1
  · intro w' hSw
    try dsimp only at hSw
    obtain ⟨s0, s1, s2, s3, s4⟩ := scanCells hSw.sb
    clear hSw
    go_simp
    try with_reducible rfl
  simp only [Act.put, List.setIfInBounds_toArray, List.set_cons_zero, List.set_cons_succ]
  refine heldF_take (v := ?_) (Or.inl ⟨by rfl, ?_⟩) ?_
  rotate_left 1
  · intro w' hSw
    try dsimp only at hSw
    obtain ⟨s0, s1, s2, s3, s4⟩ := scanCells hSw.sb
    clear hSw
    go_simp
    try with_reducible rfl
  simp only [Act.put, List.setIfInBounds_toArray, List.set_cons_zero, List.set_cons_succ]
  refine heldF_take (v := ?_) (Or.inl ⟨by rfl, ?_⟩) ?_
  rotate_left 1
  · intro w' hSw
    try dsimp only at hSw
    obtain ⟨s0, s1, s2, s3, s4⟩ := scanCells hSw.sb
    clear hSw
    go_simp
    try with_reducible rfl
  simp only [Act.put, List.setIfInBounds_toArray, List.set_cons_zero, List.set_cons_succ]
  refine heldF_take (v := ?_) (Or.inl ⟨by rfl, ?_⟩) ?_
  rotate_left 1
  · intro w' hSw
    try dsimp only at hSw
    obtain ⟨s0, s1, s2, s3, s4⟩ := scanCells hSw.sb
    clear hSw
    go_simp
    try with_reducible rfl
  simp only [Act.put, List.setIfInBounds_toArray, List.set_cons_zero, List.set_cons_succ]
  refine heldF_take (v := ?_) (Or.inl ⟨by rfl, ?_⟩) ?_
  rotate_left 1
  · intro w' hSw
    try dsimp only at hSw
    obtain ⟨s0, s1, s2, s3, s4⟩ := scanCells hSw.sb
    clear hSw
    go_simp
    try with_reducible rfl
  simp only [Act.put, List.setIfInBounds_toArray, List.set_cons_zero, List.set_cons_succ]
  refine heldF_take (v := ?_) (Or.inl ⟨by rfl, ?_⟩) ?_
  rotate_left 1
  · intro w' hSw
    try dsimp only at hSw
    obtain ⟨s0, s1, s2, s3, s4⟩ := scanCells hSw.sb
    clear hSw
    go_simp
    try with_reducible rfl
  simp only [Act.put, List.setIfInBounds_toArray, List.set_cons_zero, List.set_cons_succ]
  refine heldF_take (v := ?_) (Or.inl ⟨by rfl, ?_⟩) ?_
  rotate_left 1
  · intro w' hSw
    try dsimp only at hSw
    obtain ⟨s0, s1, s2, s3, s4⟩ := scanCells hSw.sb
    clear hSw
    go_simp
    try with_reducible rfl
  simp only [Act.put, List.setIfInBounds_toArray, List.set_cons_zero, List.set_cons_succ]
  refine heldF_skip (heldF_skip (heldF_skip (heldF_skip (heldF_nil ?_))))
  have hs1 := (unhide H1).size
  refine anyH_step2 (i := 8) (j := 9) rfl rfl (by kernel_rfl) (fun K hK => ?_) (fun K hK => ?_)
  · go_simp
    have H2 := hide ((unhide H1).new (World.grownBy_alloc W1 (.cells #[.int .i64 0] 99) none))
    have N2 := hide (heap_alloc_new W1 (.cells #[.int .i64 0] 99))
    have s2 : W1.heap.size + 1 ≤ (W1.alloc (.cells #[.int .i64 0] 99)).heap.size := by simp
    refine hK.out _ _ (unhide H2) ?_
    clear hK K H1
    try simp only [Act.put, List.setIfInBounds_toArray, List.set_cons_zero, List.set_cons_succ]
    generalize (W1.alloc (.cells #[.int .i64 0] 99)) = W2 at *
    refine anyH_step1 (i := 9) rfl (by kernel_rfl) (fun K hK => ?_)
    go_simp
    have H3 := hide ((unhide H2).new (World.grownBy_alloc W2 (.cells #[.int .i64 0, .int .i64 0] 101) none))
    have N3 := hide (heap_alloc_new W2 (.cells #[.int .i64 0, .int .i64 0] 101))
    have M3 := hide (grown_atT (World.grownBy_alloc W2 (.cells #[.int .i64 0, .int .i64 0] 101) none) (unhide N2) (by simp))
    have s3 : W2.heap.size + 1 ≤ (W2.alloc (.cells #[.int .i64 0, .int .i64 0] 101)).heap.size := by simp
    refine hK.out _ _ (unhide H3) ?_
    clear hK K H2 N2
    try simp only [Act.put, List.setIfInBounds_toArray, List.set_cons_zero, List.set_cons_succ]
    generalize (W2.alloc (.cells #[.int .i64 0, .int .i64 0] 101)) = W3 at *
    refine anyH_step1 (i := 10) rfl (by kernel_rfl) (fun K hK => ?_)
    refine step_store_row (by rfl) 99 _ _ rfl (W1.heap.size) rfl #[.int .i64 lo] rfl #[.int .i64 0] 99 (unhide M3) rfl (by kernel_rfl) (by simp [Value.oneCell']) ?_
    intro W4 N4 g4
    have H4 := hide ((unhide H3).wr g4 (by omega))
    have M4 := hide (grown_atT g4 (unhide N3) (by simp; omega))
    have P4 := hide N4
    refine hK.out _ _ (unhide H4) ?_
    clear hK K H3 M3 N3 N4 g4
    try simp only [Act.put]
    refine anyH_step1 (i := 11) rfl (by kernel_rfl) (fun K hK => ?_)
    refine step_store_row (by rfl) 101 _ _ rfl (W2.heap.size) rfl #[.int .i64 hi, .int .i64 lo] rfl #[.int .i64 0, .int .i64 0] 101 (unhide M4) rfl (by kernel_rfl) (by simp [Value.oneCell']) ?_
    intro W5 N5 g5
    have H5 := hide ((unhide H4).wr g5 (by omega))
    have P5 := hide (grown_atT g5 (unhide P4) (by simp; omega))
    have M5 := hide N5
    refine hK.out _ _ (unhide H5) ?_
    clear hK K H4 M4 P4 N5 g5
    try simp only [Act.put]
    refine wpAnyH_done (by kernel_rfl) (NoPanic.normal ?_) _
    go_wp2_with (first | (refine load_row rfl 99 _ rfl (W1.heap.size) rfl #[.int .i64 lo] 99 (unhide P5) _ Try.underlying99 rfl (by kernel_rfl) ?_) | (refine load_row rfl 101 _ rfl (W2.heap.size) rfl #[.int .i64 hi, .int .i64 lo] 101 (unhide M5) _ Try.underlying101 rfl (by kernel_rfl) ?_) | (refine store_row rfl 85 _ _ rfl (w.heap.size + 1) rfl #[.func (.func 72) #[.agg #[.int .i64 lo]] #[], .func (.func 73) #[.agg #[.int .i64 hi, .int .i64 lo]] #[]] rfl #[.nilFunc, .nilFunc] 85 (unhide H5).rb rfl (by kernel_rfl) (by simp [Value.oneCell']) ?_; intro W6 hB6 g6))
    refine bodyPost_ret (v := .agg #[.func (.func 72) #[.agg #[.int .i64 lo]] #[], .func (.func 73) #[.agg #[.int .i64 hi, .int .i64 lo]] #[]]) ?_ rfl ⟨rfl, ?_⟩
    · rw [results_c1 rfl]
      exact run_loadVar_row W6 _ 85 85 _ (0, 0) _ hB6 Try.underlying85 rfl (by kernel_rfl)
    · exact grown_new (unhide H5).grown g6 (fun g e => by simp at e; omega)
  · go_simp
    have H2 := hide ((unhide H1).new (World.grownBy_alloc W1 (.cells #[.int .i64 0, .int .i64 0] 101) none))
    have N2 := hide (heap_alloc_new W1 (.cells #[.int .i64 0, .int .i64 0] 101))
    have s2 : W1.heap.size + 1 ≤ (W1.alloc (.cells #[.int .i64 0, .int .i64 0] 101)).heap.size := by simp
    refine hK.out _ _ (unhide H2) ?_
    clear hK K H1
    try simp only [Act.put, List.setIfInBounds_toArray, List.set_cons_zero, List.set_cons_succ]
    generalize (W1.alloc (.cells #[.int .i64 0, .int .i64 0] 101)) = W2 at *
    refine anyH_step1 (i := 8) rfl (by kernel_rfl) (fun K hK => ?_)
    go_simp
    have H3 := hide ((unhide H2).new (World.grownBy_alloc W2 (.cells #[.int .i64 0] 99) none))
    have N3 := hide (heap_alloc_new W2 (.cells #[.int .i64 0] 99))
    have M3 := hide (grown_atT (World.grownBy_alloc W2 (.cells #[.int .i64 0] 99) none) (unhide N2) (by simp))
    have s3 : W2.heap.size + 1 ≤ (W2.alloc (.cells #[.int .i64 0] 99)).heap.size := by simp
    refine hK.out _ _ (unhide H3) ?_
    clear hK K H2 N2
    try simp only [Act.put, List.setIfInBounds_toArray, List.set_cons_zero, List.set_cons_succ]
    generalize (W2.alloc (.cells #[.int .i64 0] 99)) = W3 at *
    refine anyH_step1 (i := 10) rfl (by kernel_rfl) (fun K hK => ?_)
    refine step_store_row (by rfl) 99 _ _ rfl (W2.heap.size) rfl #[.int .i64 lo] rfl #[.int .i64 0] 99 (unhide N3) rfl (by kernel_rfl) (by simp [Value.oneCell']) ?_
    intro W4 N4 g4
    have H4 := hide ((unhide H3).wr g4 (by omega))
    have M4 := hide (grown_atT g4 (unhide M3) (by simp; omega))
    have P4 := hide N4
    refine hK.out _ _ (unhide H4) ?_
    clear hK K H3 M3 N3 N4 g4
    try simp only [Act.put]
    refine anyH_step1 (i := 11) rfl (by kernel_rfl) (fun K hK => ?_)
    refine step_store_row (by rfl) 101 _ _ rfl (W1.heap.size) rfl #[.int .i64 hi, .int .i64 lo] rfl #[.int .i64 0, .int .i64 0] 101 (unhide M4) rfl (by kernel_rfl) (by simp [Value.oneCell']) ?_
    intro W5 N5 g5
    have H5 := hide ((unhide H4).wr g5 (by omega))
    have P5 := hide (grown_atT g5 (unhide P4) (by simp; omega))
    have M5 := hide N5
    refine hK.out _ _ (unhide H5) ?_
    clear hK K H4 M4 P4 N5 g5
    try simp only [Act.put]
    refine wpAnyH_done (by kernel_rfl) (NoPanic.normal ?_) _
    go_wp2_with (first | (refine load_row rfl 99 _ rfl (W2.heap.size) rfl #[.int .i64 lo] 99 (unhide P5) _ Try.underlying99 rfl (by kernel_rfl) ?_) | (refine load_row rfl 101 _ rfl (W1.heap.size) rfl #[.int .i64 hi, .int .i64 lo] 101 (unhide M5) _ Try.underlying101 rfl (by kernel_rfl) ?_) | (refine store_row rfl 85 _ _ rfl (w.heap.size + 1) rfl #[.func (.func 72) #[.agg #[.int .i64 lo]] #[], .func (.func 73) #[.agg #[.int .i64 hi, .int .i64 lo]] #[]] rfl #[.nilFunc, .nilFunc] 85 (unhide H5).rb rfl (by kernel_rfl) (by simp [Value.oneCell']) ?_; intro W6 hB6 g6))
    refine bodyPost_ret (v := .agg #[.func (.func 72) #[.agg #[.int .i64 lo]] #[], .func (.func 73) #[.agg #[.int .i64 hi, .int .i64 lo]] #[]]) ?_ rfl ⟨rfl, ?_⟩
    · rw [results_c1 rfl]
      exact run_loadVar_row W6 _ 85 85 _ (0, 0) _ hB6 Try.underlying85 rfl (by kernel_rfl)
    · exact grown_new (unhide H5).grown g6 (fun g e => by simp at e; omega)

set_option maxRecDepth 20000 in
set_option maxHeartbeats 1600000 in
theorem putTable (w : World) (v0 : Value) (cs : List Int) (fr to hi lo : Int) :
    Calls Try.prog 65 #[scV v0 ⟨cs, fr, to, hi, lo⟩] w fun e w' => e = .returned (.agg #[.func (.func 75) #[.agg #[.int .i64 lo]] #[], .func (.func 76) #[.agg #[.int .i64 hi, .int .i64 lo]] #[]]) ∧ w.grownBy w' none := by
  have hmf : ∀ (fn : Fn) (first cap : Array Value) (w : World), (Instr.makeFunc fn first cap).run Try.prog w = .ok (.func fn first cap) w := fun _ _ _ _ => rfl
  unfold scV
  dsimp only
  have H0 := hide (Tw.start w #[v0, .int .i64 fr, .int .i64 to, .int .i64 hi, .int .i64 lo] 90)
  go_enter Try.func65, Try.ntmps65
  go_wp2
  generalize ((w.alloc (.cells #[v0, .int .i64 fr, .int .i64 to, .int .i64 hi, .int .i64 lo] 26)).alloc (.cells #[.nilFunc, .nilFunc] 90)) = W0 at *
  refine wp_region_noPanic ?_
  have H1 := hide ((unhide H0).new (grown_drew (World.grownBy.refl W0 none)))
  clear H0
  refine wp_region_raw (fun W => Tw w W #[v0, .int .i64 fr, .int .i64 to, .int .i64 hi, .int .i64 lo] 90) [true, true, true, true, true, true, true, true, false, false, false, false] (by kernel_rfl) (fun _ _ _ _ _ h => h) rfl (by kernel_rfl) (unhide H1) ?_
  generalize W0.drew = W1 at *
  refine heldF_take (v := ?_) (Or.inl ⟨by rfl, ?_⟩) ?_
  rotate_left 1
  · intro w' hSw
    try dsimp only at hSw
    obtain ⟨s0, s1, s2, s3, s4⟩ := scanCells hSw.sb
    clear hSw
    go_simp
    try with_reducible rfl
  simp only [Act.put, List.setIfInBounds_toArray, List.set_cons_zero, List.set_cons_succ]
  refine heldF_take (v := ?_) (Or.inl ⟨by rfl, ?_⟩) ?_
  rotate_left 1
  · intro w' hSw
    try dsimp only at hSw
    obtain ⟨s0, s1, s2, s3, s4⟩ := scanCells hSw.sb
    clear hSw
    go_simp
    try with_reducible rfl
  simp only [Act.put, List.setIfInBounds_toArray, List.set_cons_zero, List.set_cons_succ]
  refine heldF_take (v := ?_) (Or.inl ⟨by rfl, ?_⟩) ?_
  rotate_left 1
  · intro w' hSw
    try dsimp only at hSw
    obtain ⟨s0, s1, s2, s3, s4⟩ := scanCells hSw.sb
    clear hSw
    go_simp
    try with_reducible rfl
  simp only [Act.put, List.setIfInBounds_toArray, List.set_cons_zero, List.set_cons_succ]
  refine heldF_take (v := ?_) (Or.inl ⟨by rfl, ?_⟩) ?_
  rotate_left 1
  · intro w' hSw
    try dsimp only at hSw
    obtain ⟨s0, s1, s2, s3, s4⟩ := scanCells hSw.sb
    clear hSw
    go_simp
    try with_reducible rfl
  simp only [Act.put, List.setIfInBounds_toArray, List.set_cons_zero, List.set_cons_succ]
  refine heldF_take (v := ?_) (Or.inl ⟨by rfl, ?_⟩) ?_
  rotate_left 1
  · intro w' hSw
    try dsimp only at hSw
    obtain ⟨s0, s1, s2, s3, s4⟩ := scanCells hSw.sb
    clear hSw
    go_simp
    try with_reducible rfl
  simp only [Act.put, List.setIfInBounds_toArray, List.set_cons_zero, List.set_cons_succ]
  refine heldF_take (v := ?_) (Or.inl ⟨by rfl, ?_⟩) ?_
  rotate_left 1
  · intro w' hSw
    try dsimp only at hSw
    obtain ⟨s0, s1, s2, s3, s4⟩ := scanCells hSw.sb
    clear hSw
    go_simp
    try with_reducible rfl
  simp only [Act.put, List.setIfInBounds_toArray, List.set_cons_zero, List.set_cons_succ]
  refine heldF_take (v := ?_) (Or.inl ⟨by rfl, ?_⟩) ?_
  rotate_left 1
  · intro w' hSw
    try dsimp only at hSw
    obtain ⟨s0, s1, s2, s3, s4⟩ := scanCells hSw.sb
    clear hSw
    go_simp
    try with_reducible rfl
  simp only [Act.put, List.setIfInBounds_toArray, List.set_cons_zero, List.set_cons_succ]
  refine heldF_take (v := ?_) (Or.inl ⟨by rfl, ?_⟩) ?_
  rotate_left 1
  · intro w' hSw
    try dsimp only at hSw
    obtain ⟨s0, s1, s2, s3, s4⟩ := scanCells hSw.sb
    clear hSw
    go_simp
    try with_reducible rfl
  simp only [Act.put, List.setIfInBounds_toArray, List.set_cons_zero, List.set_cons_succ]
  refine heldF_skip (heldF_skip (heldF_skip (heldF_skip (heldF_nil ?_))))
  have hs1 := (unhide H1).size
  refine anyH_step2 (i := 8) (j := 9) rfl rfl (by kernel_rfl) (fun K hK => ?_) (fun K hK => ?_)
  · go_simp
    have H2 := hide ((unhide H1).new (World.grownBy_alloc W1 (.cells #[.int .i64 0] 99) none))
    have N2 := hide (heap_alloc_new W1 (.cells #[.int .i64 0] 99))
    have s2 : W1.heap.size + 1 ≤ (W1.alloc (.cells #[.int .i64 0] 99)).heap.size := by simp
    refine hK.out _ _ (unhide H2) ?_
    clear hK K H1
    try simp only [Act.put, List.setIfInBounds_toArray, List.set_cons_zero, List.set_cons_succ]
    generalize (W1.alloc (.cells #[.int .i64 0] 99)) = W2 at *
    refine anyH_step1 (i := 9) rfl (by kernel_rfl) (fun K hK => ?_)
    go_simp
    have H3 := hide ((unhide H2).new (World.grownBy_alloc W2 (.cells #[.int .i64 0, .int .i64 0] 101) none))
    have N3 := hide (heap_alloc_new W2 (.cells #[.int .i64 0, .int .i64 0] 101))
    have M3 := hide (grown_atT (World.grownBy_alloc W2 (.cells #[.int .i64 0, .int .i64 0] 101) none) (unhide N2) (by simp))
    have s3 : W2.heap.size + 1 ≤ (W2.alloc (.cells #[.int .i64 0, .int .i64 0] 101)).heap.size := by simp
    refine hK.out _ _ (unhide H3) ?_
    clear hK K H2 N2
    try simp only [Act.put, List.setIfInBounds_toArray, List.set_cons_zero, List.set_cons_succ]
    generalize (W2.alloc (.cells #[.int .i64 0, .int .i64 0] 101)) = W3 at *
    refine anyH_step1 (i := 10) rfl (by kernel_rfl) (fun K hK => ?_)
    refine step_store_row (by rfl) 99 _ _ rfl (W1.heap.size) rfl #[.int .i64 lo] rfl #[.int .i64 0] 99 (unhide M3) rfl (by kernel_rfl) (by simp [Value.oneCell']) ?_
    intro W4 N4 g4
    have H4 := hide ((unhide H3).wr g4 (by omega))
    have M4 := hide (grown_atT g4 (unhide N3) (by simp; omega))
    have P4 := hide N4
    refine hK.out _ _ (unhide H4) ?_
    clear hK K H3 M3 N3 N4 g4
    try simp only [Act.put]
    refine anyH_step1 (i := 11) rfl (by kernel_rfl) (fun K hK => ?_)
    refine step_store_row (by rfl) 101 _ _ rfl (W2.heap.size) rfl #[.int .i64 hi, .int .i64 lo] rfl #[.int .i64 0, .int .i64 0] 101 (unhide M4) rfl (by kernel_rfl) (by simp [Value.oneCell']) ?_
    intro W5 N5 g5
    have H5 := hide ((unhide H4).wr g5 (by omega))
    have P5 := hide (grown_atT g5 (unhide P4) (by simp; omega))
    have M5 := hide N5
    refine hK.out _ _ (unhide H5) ?_
    clear hK K H4 M4 P4 N5 g5
    try simp only [Act.put]
    refine wpAnyH_done (by kernel_rfl) (NoPanic.normal ?_) _
    go_wp2_with (first | (refine load_row rfl 99 _ rfl (W1.heap.size) rfl #[.int .i64 lo] 99 (unhide P5) _ Try.underlying99 rfl (by kernel_rfl) ?_) | (refine load_row rfl 101 _ rfl (W2.heap.size) rfl #[.int .i64 hi, .int .i64 lo] 101 (unhide M5) _ Try.underlying101 rfl (by kernel_rfl) ?_) | (refine store_row rfl 90 _ _ rfl (w.heap.size + 1) rfl #[.func (.func 75) #[.agg #[.int .i64 lo]] #[], .func (.func 76) #[.agg #[.int .i64 hi, .int .i64 lo]] #[]] rfl #[.nilFunc, .nilFunc] 90 (unhide H5).rb rfl (by kernel_rfl) (by simp [Value.oneCell']) ?_; intro W6 hB6 g6))
    refine bodyPost_ret (v := .agg #[.func (.func 75) #[.agg #[.int .i64 lo]] #[], .func (.func 76) #[.agg #[.int .i64 hi, .int .i64 lo]] #[]]) ?_ rfl ⟨rfl, ?_⟩
    · rw [results_c1 rfl]
      exact run_loadVar_row W6 _ 90 90 _ (0, 0) _ hB6 Try.underlying90 rfl (by kernel_rfl)
    · exact grown_new (unhide H5).grown g6 (fun g e => by simp at e; omega)
  · go_simp
    have H2 := hide ((unhide H1).new (World.grownBy_alloc W1 (.cells #[.int .i64 0, .int .i64 0] 101) none))
    have N2 := hide (heap_alloc_new W1 (.cells #[.int .i64 0, .int .i64 0] 101))
    have s2 : W1.heap.size + 1 ≤ (W1.alloc (.cells #[.int .i64 0, .int .i64 0] 101)).heap.size := by simp
    refine hK.out _ _ (unhide H2) ?_
    clear hK K H1
    try simp only [Act.put, List.setIfInBounds_toArray, List.set_cons_zero, List.set_cons_succ]
    generalize (W1.alloc (.cells #[.int .i64 0, .int .i64 0] 101)) = W2 at *
    refine anyH_step1 (i := 8) rfl (by kernel_rfl) (fun K hK => ?_)
    go_simp
    have H3 := hide ((unhide H2).new (World.grownBy_alloc W2 (.cells #[.int .i64 0] 99) none))
    have N3 := hide (heap_alloc_new W2 (.cells #[.int .i64 0] 99))
    have M3 := hide (grown_atT (World.grownBy_alloc W2 (.cells #[.int .i64 0] 99) none) (unhide N2) (by simp))
    have s3 : W2.heap.size + 1 ≤ (W2.alloc (.cells #[.int .i64 0] 99)).heap.size := by simp
    refine hK.out _ _ (unhide H3) ?_
    clear hK K H2 N2
    try simp only [Act.put, List.setIfInBounds_toArray, List.set_cons_zero, List.set_cons_succ]
    generalize (W2.alloc (.cells #[.int .i64 0] 99)) = W3 at *
    refine anyH_step1 (i := 10) rfl (by kernel_rfl) (fun K hK => ?_)
    refine step_store_row (by rfl) 99 _ _ rfl (W2.heap.size) rfl #[.int .i64 lo] rfl #[.int .i64 0] 99 (unhide N3) rfl (by kernel_rfl) (by simp [Value.oneCell']) ?_
    intro W4 N4 g4
    have H4 := hide ((unhide H3).wr g4 (by omega))
    have M4 := hide (grown_atT g4 (unhide M3) (by simp; omega))
    have P4 := hide N4
    refine hK.out _ _ (unhide H4) ?_
    clear hK K H3 M3 N3 N4 g4
    try simp only [Act.put]
    refine anyH_step1 (i := 11) rfl (by kernel_rfl) (fun K hK => ?_)
    refine step_store_row (by rfl) 101 _ _ rfl (W1.heap.size) rfl #[.int .i64 hi, .int .i64 lo] rfl #[.int .i64 0, .int .i64 0] 101 (unhide M4) rfl (by kernel_rfl) (by simp [Value.oneCell']) ?_
    intro W5 N5 g5
    have H5 := hide ((unhide H4).wr g5 (by omega))
    have P5 := hide (grown_atT g5 (unhide P4) (by simp; omega))
    have M5 := hide N5
    refine hK.out _ _ (unhide H5) ?_
    clear hK K H4 M4 P4 N5 g5
    try simp only [Act.put]
    refine wpAnyH_done (by kernel_rfl) (NoPanic.normal ?_) _
    go_wp2_with (first | (refine load_row rfl 99 _ rfl (W2.heap.size) rfl #[.int .i64 lo] 99 (unhide P5) _ Try.underlying99 rfl (by kernel_rfl) ?_) | (refine load_row rfl 101 _ rfl (W1.heap.size) rfl #[.int .i64 hi, .int .i64 lo] 101 (unhide M5) _ Try.underlying101 rfl (by kernel_rfl) ?_) | (refine store_row rfl 90 _ _ rfl (w.heap.size + 1) rfl #[.func (.func 75) #[.agg #[.int .i64 lo]] #[], .func (.func 76) #[.agg #[.int .i64 hi, .int .i64 lo]] #[]] rfl #[.nilFunc, .nilFunc] 90 (unhide H5).rb rfl (by kernel_rfl) (by simp [Value.oneCell']) ?_; intro W6 hB6 g6))
    refine bodyPost_ret (v := .agg #[.func (.func 75) #[.agg #[.int .i64 lo]] #[], .func (.func 76) #[.agg #[.int .i64 hi, .int .i64 lo]] #[]]) ?_ rfl ⟨rfl, ?_⟩
    · rw [results_c1 rfl]
      exact run_loadVar_row W6 _ 90 90 _ (0, 0) _ hB6 Try.underlying90 rfl (by kernel_rfl)
    · exact grown_new (unhide H5).grown g6 (fun g e => by simp at e; omega)

end Go.Proofs.Ytfgglainjaplgaa

namespace Go.Proofs.Ytfgglainjaplgaa
open Go.RowKit

theorem anyH_take1 {P : Program} {md : Region.Mode} {Q : Exit → Act → World → Prop} {S : World → Prop} {l : List Oper} {i f : Nat} {o : Oper} {v : Value} {listed : Array Bool} {a : Act} {w : World} (ho : l[i]? = some o) (hB : (Region.noSelect l.toArray && Region.free md l.toArray listed i && (Region.ready md l.toArray listed).contains i) = true)
    (hQ : ∀ c a d v w, Q (.panic c) (Act.put a d v) w → Q (.panic c) a w) (hS : S w) (hy : YieldsIf P l.toArray S o v a) (h : wpAnyH P md l.toArray Q S f (listed.setIfInBounds i true) (a.put o.dst v) w) : wpAnyH P md l.toArray Q S (f + 1) listed a w := by
  rw [Bool.and_eq_true, Bool.and_eq_true] at hB
  exact wpAnyH_take (by simpa using ho) hB.1.1 hB.1.2 hB.2 (fun c a w hq => hQ c a _ _ w hq) hy hS h

end Go.Proofs.Ytfgglainjaplgaa

namespace Go.Proofs.Ytfgglainjaplgaa
open Go.RowKit

/-- A square and a scan in their boxes (and one for the answer, where there are three). -/
structure Tz (w W : World) (zs : List Int) (sx : Array Value) (lim : Nat) : Prop where
  qb : W.heap[w.heap.size]? = some (.cells (sq zs) 73 (0, 0))
  sb : W.heap[w.heap.size + 1]? = some (.cells sx 26 (0, 0))
  rb : lim = 3 → W.heap[w.heap.size + 2]? = some (.cells (sq zs64) 73 (0, 0))
  size : w.heap.size + lim ≤ W.heap.size
  few : 2 ≤ lim
  grown : w.grownBy W none
theorem Tz.new {w W W' : World} {zs : List Int} {sx : Array Value} {lim : Nat} (h : Tz w W zs sx lim) (g : W.grownBy W' none) : Tz w W' zs sx lim :=
  ⟨grown_atT g h.qb (by simp), grown_atT g h.sb (by simp), fun e => grown_atT g (h.rb e) (by simp), Nat.le_trans h.size g.size, h.few, grown_trans h.grown g⟩
theorem Tz.wrR {w W W' : World} {zs : List Int} {sx : Array Value} {lim : Nat} {row : Option Nat} (h : Tz w W zs sx lim) (g : W.grownBy W' row) (hk : ∀ k, row = some k → w.heap.size + lim ≤ k) : Tz w W' zs sx lim := by
  have hf := h.few
  exact ⟨grown_atT g h.qb (fun e => by have := hk _ e; omega), grown_atT g h.sb (fun e => by have := hk _ e; omega), fun e => grown_atT g (h.rb e) (fun e2 => by have := hk _ e2; omega), Nat.le_trans h.size g.size, h.few, grown_new h.grown g (fun x e => by have := hk x e; omega)⟩
theorem Tz.wr {w W W' : World} {zs : List Int} {sx : Array Value} {lim k : Nat} (h : Tz w W zs sx lim) (g : W.grownBy W' (some k)) (hk : w.heap.size + lim ≤ k) : Tz w W' zs sx lim := h.wrR g (fun x e => by simp at e; omega)

set_option maxRecDepth 20000 in
theorem slice_wave (b f m : Nat) (hf : f < 64) (hm : f + m ≤ 64) (w : World) : (Instr.sliceAt 73 (.pointer (some ⟨b, 0, none⟩)) (some (.int .i64 (f : Int))) (some (.int .i64 ((f : Int) + (m : Int)))) none).run Try.prog w = .ok (.slice (some ⟨b, f, none⟩) m (64 - f)) w := by
  have hl : Try.prog.arrayLen 73 = 64 := by kernel_rfl
  have hs : (sizeOf (Try.prog.elem 73)).run Try.prog w = .ok 1 w := by kernel_rfl
  rw [run_sliceAt_array_lh w _ _ (by kernel_rfl) .i64 .i64 _ _ (by omega) (by omega) (by rw [hl]; omega), hs, hl]
  simp only [Result.andThen_ok, slicedAt]
  rw [if_neg (by omega), Addr.add_lit]
  congr 2
  · simp
  · omega

/-- A list while it is told, beside the block's waves in their box. -/
structure Tm13 (w W : World) (zs : List Int) (sx : Array Value) (b : Nat) (Z : List Int) (v : Value) (A : List Int) : Prop where
  tz : Tz w W zs sx 2
  zb : W.heap[b]? = some (.cells (sq Z) 73 (0, 0))
  own : W.ownsRow (w.heap.size + 2) 3 1 v A.length (A.map (Value.int .i64))
  ne : ∀ g, v.ownBlock = some g → g ≠ b
theorem Tm13.new {w W W' : World} {zs : List Int} {sx : Array Value} {b : Nat} {Z : List Int} {v : Value} {A : List Int} (h : Tm13 w W zs sx b Z v A) (g : W.grownBy W' none) : Tm13 w W' zs sx b Z v A :=
  ⟨h.tz.new g, grown_atT g h.zb (by simp), own_grown h.own g, h.ne⟩
theorem Tm13.more {w W W' : World} {zs : List Int} {sx : Array Value} {b : Nat} {Z : List Int} {v v' : Value} {A B : List Int} (h : Tm13 w W zs sx b Z v A) (o : W'.ownsRow (w.heap.size + 2) 3 1 v' B.length (B.map (Value.int .i64))) (g : W.grownBy W' v.ownBlock) (hat : v'.ownBlock = v.ownBlock ∨ ∀ g, v'.ownBlock = some g → W.heap.size ≤ g) : Tm13 w W' zs sx b Z v' B := by
  refine ⟨h.tz.wrR g (fun k e => (h.own.lt k e).1), grown_atT g h.zb (fun e => h.ne b e rfl), o, fun q e => ?_⟩
  rcases hat with h1 | h1
  · exact h.ne q (by rw [← h1]; exact e)
  · have h2 := h1 q e
    have h3 := (Array.getElem?_eq_some_iff.1 h.zb).1
    omega

set_option maxRecDepth 20000 in
set_option maxHeartbeats 3200000 in
theorem told (zs : List Int) (hz : zs.length = 64) (v0 : Value) (cs : List Int) (k0 k1 : Nat) (hi lo : Int) (h1 : k0 ≤ k1) (h2 : k1 ≤ 63) (A : Array Value) (k : Int) (g : Nat) (rv : Value) (T : Int → Int)
    (HT : Hid (∀ W, Calls Try.prog 63 #[scV v0 ⟨cs, k0, k1, hi, lo⟩] W fun e w' => e = .returned (.agg A) ∧ W.grownBy w' none))
    (HK : Hid (∀ W, Calls Try.prog 62 #[scV v0 ⟨cs, k0, k1, hi, lo⟩] W fun e w' => e = .returned (.int .i64 k) ∧ W.grownBy w' none))
    (HX : Hid (∀ w, (Instr.index 85 (.agg A) (.int .i64 k)).run Try.prog w = .ok (.func (.func g) #[rv] #[]) w))
    (eg : ∀ args w, (callFunc g args).run Try.prog w = .ok (.enter g args) w)
    (HC : Hid (∀ j, j < 64 → ∀ W, Calls Try.prog g #[rv, .int .i64 ((zigged zs).getD j 0)] W fun e W' => e = .returned (.int .i64 (T ((zigged zs).getD j 0))) ∧ W.grownBy W' none))
    (L : List Int) (HL : Hid ((List.range (k1 + 1 - k0)).map (fun j => T ((zigged zs).getD (k0 + j) 0)) = L)) (w : World) :
    Calls Try.prog 53 #[.agg (sq zs), scV v0 ⟨cs, k0, k1, hi, lo⟩] w (Row13 w L) := by
  obtain ⟨Z, HZZ⟩ : ∃ Z, Hid (zigged zs = Z) := ⟨_, rfl⟩
  have HZL : Hid (Z.length = 64) := by rw [← unhide HZZ]; exact made_len _
  have HZS : Hid ((sq Z).size = 64) := by unfold Hid; rw [sq_size]; exact unhide HZL
  rw [unhide HZZ] at HC HL
  have HZ0 := hide hz
  unfold scV at HT HK ⊢
  dsimp only at HT HK ⊢
  have TB : Hid (Tz w ((w.alloc (.cells (sq zs) 73)).alloc (.cells #[v0, .int .i64 (k0 : Int), .int .i64 (k1 : Int), .int .i64 hi, .int .i64 lo] 26)) zs #[v0, .int .i64 (k0 : Int), .int .i64 (k1 : Int), .int .i64 hi, .int .i64 lo] 2) := by
    refine ⟨?_, ?_, fun e => absurd e (by decide), by simp, by decide, grown_alloc (World.grownBy_alloc _ _ _) _⟩
    · rw [Below.heap_alloc _ _ _ (by simp)]
      exact heap_alloc_new w _
    · have := heap_alloc_new (w.alloc (.cells (sq zs) 73)) (.cells #[v0, .int .i64 (k0 : Int), .int .i64 (k1 : Int), .int .i64 hi, .int .i64 lo] 26)
      simpa using this
  obtain ⟨m, HM⟩ : ∃ m, Hid (k1 + 1 = k0 + m) := ⟨k1 + 1 - k0, by unfold Hid; omega⟩
  have hm64 : k0 + m ≤ 64 := by have := unhide HM; omega
  have hk64 : k0 < 64 := by omega
  have e1 := i64_in ((k1 : Int) - (k0 : Int)) (by omega)
  have e2 : IntKind.i64.wrap ((k1 : Int) - (k0 : Int) + 1) = (m : Int) := by rw [i64_in _ (by omega)]; have := unhide HM; omega
  have e3 : IntKind.i64.wrap ((k1 : Int) + 1) = (k0 : Int) + (m : Int) := by rw [i64_in _ (by omega)]; have := unhide HM; omega
  have HL2 : Hid ((List.range m).map (fun j => T (Z.getD (k0 + j) 0)) = L) := by
    have h := unhide HL
    have e : k1 + 1 - k0 = m := by have := unhide HM; omega
    rw [e] at h
    exact h
  obtain ⟨i0, hi0, hz0, hz1, hz2⟩ := info_parts info_iS
  clear hz HL h1 h2
  go_enter Try.func53, Try.ntmps53
  go_wp2
  rename_i K hK
  generalize ((w.alloc (.cells (sq zs) 73)).alloc (.cells #[v0, .int .i64 (k0 : Int), .int .i64 (k1 : Int), .int .i64 hi, .int .i64 lo] 26)) = WB at *
  have REST : Hid (∀ (b : Nat) (Wx : World), Tz w Wx zs #[v0, .int .i64 (k0 : Int), .int .i64 (k1 : Int), .int .i64 hi, .int .i64 lo] 2 → w.heap.size + 2 ≤ b → Wx.heap[b]? = some (.cells (sq Z) 73 (0, 0)) →
      K { tmps := #[.agg (sq zs), .agg #[v0, .int .i64 (k0 : Int), .int .i64 (k1 : Int), .int .i64 hi, .int .i64 lo], .pointer (some ⟨w.heap.size, 0, none⟩), .pointer (some ⟨w.heap.size + 1, 0, none⟩), .slice none 0 0, .func (.func g) #[rv] #[], .pointer (some ⟨b, 0, none⟩), undef, undef, undef, .agg #[v0, .int .i64 (k0 : Int), .int .i64 (k1 : Int), .int .i64 hi, .int .i64 lo], .agg A, .agg #[v0, .int .i64 (k0 : Int), .int .i64 (k1 : Int), .int .i64 hi, .int .i64 lo], .int .i64 k, .func (.func g) #[rv] #[], .agg (sq zs), .agg (sq Z), undef, undef, undef, undef, undef, undef, undef, undef, undef, undef, undef, undef, undef, undef, undef, undef, undef, undef, undef, undef, undef, undef, undef, undef, undef, undef], defers := [] } Wx) := by
    intro b Wx hT hb hZb
    refine hK _ _ ?_
    clear hK TB
    have HT0 := hide hT
    have HB0 := hide hZb
    have hsl := slice_wave b k0 m hk64 hm64
    have hbs := (Array.getElem?_eq_some_iff.1 hZb).1
    have hts := hT.size
    obtain ⟨c0, c1, c2, c3, c4⟩ := scanCells hT.sb
    clear hT hZb
    go_wp2_with (at_make; refine wpList_make_own _ rfl _ _ 24 rfl (w.heap.size + 2) 3 i0 (.int .i64 0) 1 Try.underlying24 hi0 hz0 hz1 .i64 .i64 _ m rfl rfl rfl (by rw [hz2]; omega) (by unfold maxLen; omega) hts ?_)
    intro w2 hown hgrow
    have HF2 : Hid (Tm13 w w2 zs #[v0, .int .i64 (k0 : Int), .int .i64 (k1 : Int), .int .i64 hi, .int .i64 lo] b Z (.slice (some ⟨Wx.heap.size, 0, none⟩) 0 m) []) := ⟨(unhide HT0).new hgrow, grown_atT hgrow (unhide HB0) (by simp), hown, fun q e => by have e3 : Wx.heap.size = q := Option.some.inj e; omega⟩
    clear hown hgrow HT0 HB0 c0 c1 c2 c3 c4 hi0 hz0 hz1 hz2
    obtain ⟨c0, c1, c2, c3, c4⟩ := scanCells (unhide HF2).tz.sb
    go_wp2
    clear c0 c1 c2 c3 c4
    go_loopw [7, 31] (fun lv iv wr => ∃ (j : Nat) (so : Option Addr) (sc : Nat), j ≤ m ∧ iv = .int .i64 (j : Int) ∧ lv = .slice so j sc ∧ Hid (Tm13 w wr zs #[v0, .int .i64 (k0 : Int), .int .i64 (k1 : Int), .int .i64 hi, .int .i64 lo] b Z (.slice so j sc) ((List.range j).map (fun j => T (Z.getD (k0 + j) 0))))) (fun _ iv _ => m - (intOf iv).toNat)
    case atStart => exact ⟨0, _, _, Nat.zero_le _, rfl, rfl, HF2⟩
    case round =>
      clear HF2
      obtain ⟨j, so, sc, hj, rfl, rfl, hF⟩ := hrel
      by_cases hlt : j < m
      · obtain ⟨A1, HA⟩ : ∃ A, Hid ((List.range j).map (fun j => T (Z.getD (k0 + j) 0)) = A) := ⟨_, rfl⟩
        obtain ⟨R, HRR⟩ : ∃ R, Hid ((List.range (j + 1)).map (fun j => T (Z.getD (k0 + j) 0)) = R) := ⟨_, rfl⟩
        have HAL : Hid (A1.length = j) := by unfold Hid; rw [← unhide HA]; simp
        have HRL : Hid (R.length = j + 1) := by unfold Hid; rw [← unhide HRR]; simp
        have HNX : Hid (A1 ++ [T (Z.getD (k0 + j) 0)] = R) := by
          unfold Hid
          rw [← unhide HA, ← unhide HRR, List.range_succ, List.map_append]
          rfl
        have HCJ := hide (unhide HC (k0 + j) (by omega))
        have hcell := sq_cell (unhide hF).zb (k0 + j) (by rw [unhide HZL]; omega)
        generalize Z.getD (k0 + j) 0 = zv at HNX HCJ hcell
        obtain ⟨tv, HTV⟩ : ∃ tv, Hid (T zv = tv) := ⟨_, rfl⟩
        rw [unhide HTV] at HNX HCJ
        rw [unhide HA] at hF
        have hi1 : (j : Int) < (m : Int) := by omega
        clear HA HTV
        go_wp2_with fail
        refine (unhide HCJ wr).mono ?_
        rintro e w3 ⟨rfl, g3⟩
        have HF3 := hide ((unhide hF).new g3)
        have hsz3 := (unhide HF3).tz.size
        clear g3 hF hcell HCJ
        go_wp2_with (at_builtin; refine append_intS rfl _ _ rfl (w.heap.size + 2) (.slice so j sc) A1 rfl (unhide HF3).own tv rfl (by rw [unhide HAL]; omega) hsz3 R (unhide HNX) ?_)
        intro v4 w4 o4 g4 hat4
        have HF4 := hide ((unhide HF3).more o4 g4 hat4)
        rw [unhide HRL] at o4
        obtain ⟨so4, sc4, rfl⟩ := own_form o4
        clear o4 g4 hat4 HF3
        go_wp2
        go_roundw
        case rel => exact ⟨j + 1, so4, sc4, by omega, by go_num, rfl, by unfold Hid; rw [unhide HRR]; exact unhide HF4⟩
        case measure => simp [intOf]; omega
      · obtain rfl : j = m := by omega
        have HFE := hF
        have HLEN : Hid (L.length = j) := by unfold Hid; rw [← unhide HL2]; simp
        rw [unhide HL2] at HFE
        clear hF
        go_wp2
        go_ret
        refine ⟨so, sc, by rw [unhide HLEN]; rfl, ?_, (unhide HFE).tz.grown⟩
        have h := own_base (unhide HFE).own (show w.heap.size ≤ w.heap.size + 2 by omega)
        rw [unhide HLEN] at h ⊢
        exact h
  clear hK
  refine wp_region_noPanic ?_
  have T0 := hide ((unhide TB).new (grown_drew (World.grownBy.refl WB none)))
  clear TB
  refine wp_region_raw (fun W => Tz w W zs #[v0, .int .i64 (k0 : Int), .int .i64 (k1 : Int), .int .i64 hi, .int .i64 lo] 2) [true, false, true, false, false, true, false, false, false, false] (by kernel_rfl) (fun _ _ _ _ _ h => h) rfl (by kernel_rfl) (unhide T0) ?_
  generalize WB.drew = W0 at *
  refine heldF_take (v := .agg #[v0, .int .i64 (k0 : Int), .int .i64 (k1 : Int), .int .i64 hi, .int .i64 lo]) (Or.inl ⟨by rfl, ?_⟩) ?_
  · intro w' hSw
    exact exec_row 26 _ rfl (w.heap.size + 1) rfl #[v0, .int .i64 (k0 : Int), .int .i64 (k1 : Int), .int .i64 hi, .int .i64 lo] 26 hSw.sb _ Try.underlying26 rfl (by kernel_rfl)
  try simp only [Act.put, List.setIfInBounds_toArray, List.set_cons_zero, List.set_cons_succ]
  refine heldF_skip ?_
  refine heldF_take (v := .agg #[v0, .int .i64 (k0 : Int), .int .i64 (k1 : Int), .int .i64 hi, .int .i64 lo]) (Or.inl ⟨by rfl, ?_⟩) ?_
  · intro w' hSw
    exact exec_row 26 _ rfl (w.heap.size + 1) rfl #[v0, .int .i64 (k0 : Int), .int .i64 (k1 : Int), .int .i64 hi, .int .i64 lo] 26 hSw.sb _ Try.underlying26 rfl (by kernel_rfl)
  try simp only [Act.put, List.setIfInBounds_toArray, List.set_cons_zero, List.set_cons_succ]
  refine heldF_skip ?_
  refine heldF_skip ?_
  refine heldF_take (v := .agg (sq zs)) (Or.inl ⟨by rfl, ?_⟩) ?_
  · intro w' hSw
    exact exec_row 73 _ rfl w.heap.size rfl (sq zs) 73 hSw.qb _ Try.underlying73 rfl (by rw [sq_size, unhide HZ0]; kernel_rfl)
  try simp only [Act.put, List.setIfInBounds_toArray, List.set_cons_zero, List.set_cons_succ]
  refine heldF_skip (heldF_skip (heldF_skip (heldF_skip (heldF_nil ?_))))
  refine anyH_step2 (i := 1) (j := 7) rfl rfl (by kernel_rfl) (fun K hK => ?_) (fun K hK => ?_)
  · go_simp
    refine (unhide HT W0).mono ?_
    rintro e W1 ⟨rfl, g1⟩
    have T1 := hide ((unhide T0).new g1)
    have s1 := g1.size
    refine hK.out _ _ (unhide T1) ?_
    clear hK K g1
    try simp only [Act.put, List.setIfInBounds_toArray, List.set_cons_zero, List.set_cons_succ]
    refine anyH_step2 (i := 3) (j := 7) rfl rfl (by kernel_rfl) (fun K hK => ?_) (fun K hK => ?_)
    · go_simp
      refine (unhide HK W1).mono ?_
      rintro e W2 ⟨rfl, g2⟩
      have T2 := hide ((unhide T1).new g2)
      have s2 := g2.size
      refine hK.out _ _ (unhide T2) ?_
      clear hK K g2
      try simp only [Act.put, List.setIfInBounds_toArray, List.set_cons_zero, List.set_cons_succ]
      refine anyH_take1 (i := 4) (v := .func (.func g) #[rv] #[]) rfl (by kernel_rfl) (fun _ _ _ _ _ h => h) (unhide T2) (Or.inl ⟨by rfl, ?_⟩) ?_
      · intro w' hSw
        have hx := fun w => unhide HX w
        go_simp
        try with_reducible rfl
      try simp only [Act.put, List.setIfInBounds_toArray, List.set_cons_zero, List.set_cons_succ]
      refine anyH_step2 (i := 6) (j := 7) rfl rfl (by kernel_rfl) (fun K hK => ?_) (fun K hK => ?_)
      · go_simp
        refine (toZig zs (unhide HZ0) W2).mono ?_
        rintro e W3 ⟨rfl, g3⟩
        have T3 := hide ((unhide T2).new g3)
        have s3 := g3.size
        rw [unhide HZZ]
        refine hK.out _ _ (unhide T3) ?_
        clear hK K g3
        try simp only [Act.put, List.setIfInBounds_toArray, List.set_cons_zero, List.set_cons_succ]
        refine anyH_step1 (i := 7) rfl (by kernel_rfl) (fun K hK => ?_)
        go_simp
        have T4 := hide ((unhide T3).new (World.grownBy_alloc W3 (.cells #[.int .i64 0, .int .i64 0, .int .i64 0, .int .i64 0, .int .i64 0, .int .i64 0, .int .i64 0, .int .i64 0, .int .i64 0, .int .i64 0, .int .i64 0, .int .i64 0, .int .i64 0, .int .i64 0, .int .i64 0, .int .i64 0, .int .i64 0, .int .i64 0, .int .i64 0, .int .i64 0, .int .i64 0, .int .i64 0, .int .i64 0, .int .i64 0, .int .i64 0, .int .i64 0, .int .i64 0, .int .i64 0, .int .i64 0, .int .i64 0, .int .i64 0, .int .i64 0, .int .i64 0, .int .i64 0, .int .i64 0, .int .i64 0, .int .i64 0, .int .i64 0, .int .i64 0, .int .i64 0, .int .i64 0, .int .i64 0, .int .i64 0, .int .i64 0, .int .i64 0, .int .i64 0, .int .i64 0, .int .i64 0, .int .i64 0, .int .i64 0, .int .i64 0, .int .i64 0, .int .i64 0, .int .i64 0, .int .i64 0, .int .i64 0, .int .i64 0, .int .i64 0, .int .i64 0, .int .i64 0, .int .i64 0, .int .i64 0, .int .i64 0, .int .i64 0] 73) none))
        have N4 := hide (heap_alloc_new W3 (.cells #[.int .i64 0, .int .i64 0, .int .i64 0, .int .i64 0, .int .i64 0, .int .i64 0, .int .i64 0, .int .i64 0, .int .i64 0, .int .i64 0, .int .i64 0, .int .i64 0, .int .i64 0, .int .i64 0, .int .i64 0, .int .i64 0, .int .i64 0, .int .i64 0, .int .i64 0, .int .i64 0, .int .i64 0, .int .i64 0, .int .i64 0, .int .i64 0, .int .i64 0, .int .i64 0, .int .i64 0, .int .i64 0, .int .i64 0, .int .i64 0, .int .i64 0, .int .i64 0, .int .i64 0, .int .i64 0, .int .i64 0, .int .i64 0, .int .i64 0, .int .i64 0, .int .i64 0, .int .i64 0, .int .i64 0, .int .i64 0, .int .i64 0, .int .i64 0, .int .i64 0, .int .i64 0, .int .i64 0, .int .i64 0, .int .i64 0, .int .i64 0, .int .i64 0, .int .i64 0, .int .i64 0, .int .i64 0, .int .i64 0, .int .i64 0, .int .i64 0, .int .i64 0, .int .i64 0, .int .i64 0, .int .i64 0, .int .i64 0, .int .i64 0, .int .i64 0] 73))
        have s4 : W3.heap.size + 1 ≤ (W3.alloc (.cells #[.int .i64 0, .int .i64 0, .int .i64 0, .int .i64 0, .int .i64 0, .int .i64 0, .int .i64 0, .int .i64 0, .int .i64 0, .int .i64 0, .int .i64 0, .int .i64 0, .int .i64 0, .int .i64 0, .int .i64 0, .int .i64 0, .int .i64 0, .int .i64 0, .int .i64 0, .int .i64 0, .int .i64 0, .int .i64 0, .int .i64 0, .int .i64 0, .int .i64 0, .int .i64 0, .int .i64 0, .int .i64 0, .int .i64 0, .int .i64 0, .int .i64 0, .int .i64 0, .int .i64 0, .int .i64 0, .int .i64 0, .int .i64 0, .int .i64 0, .int .i64 0, .int .i64 0, .int .i64 0, .int .i64 0, .int .i64 0, .int .i64 0, .int .i64 0, .int .i64 0, .int .i64 0, .int .i64 0, .int .i64 0, .int .i64 0, .int .i64 0, .int .i64 0, .int .i64 0, .int .i64 0, .int .i64 0, .int .i64 0, .int .i64 0, .int .i64 0, .int .i64 0, .int .i64 0, .int .i64 0, .int .i64 0, .int .i64 0, .int .i64 0, .int .i64 0] 73)).heap.size := by simp
        refine hK.out _ _ (unhide T4) ?_
        clear hK K
        generalize (W3.alloc (.cells #[.int .i64 0, .int .i64 0, .int .i64 0, .int .i64 0, .int .i64 0, .int .i64 0, .int .i64 0, .int .i64 0, .int .i64 0, .int .i64 0, .int .i64 0, .int .i64 0, .int .i64 0, .int .i64 0, .int .i64 0, .int .i64 0, .int .i64 0, .int .i64 0, .int .i64 0, .int .i64 0, .int .i64 0, .int .i64 0, .int .i64 0, .int .i64 0, .int .i64 0, .int .i64 0, .int .i64 0, .int .i64 0, .int .i64 0, .int .i64 0, .int .i64 0, .int .i64 0, .int .i64 0, .int .i64 0, .int .i64 0, .int .i64 0, .int .i64 0, .int .i64 0, .int .i64 0, .int .i64 0, .int .i64 0, .int .i64 0, .int .i64 0, .int .i64 0, .int .i64 0, .int .i64 0, .int .i64 0, .int .i64 0, .int .i64 0, .int .i64 0, .int .i64 0, .int .i64 0, .int .i64 0, .int .i64 0, .int .i64 0, .int .i64 0, .int .i64 0, .int .i64 0, .int .i64 0, .int .i64 0, .int .i64 0, .int .i64 0, .int .i64 0, .int .i64 0] 73)) = W4 at *
        try simp only [Act.put, List.setIfInBounds_toArray, List.set_cons_zero, List.set_cons_succ]
        refine anyH_step1 (i := 8) rfl (by kernel_rfl) (fun K hK => ?_)
        go_simp
        refine hK.out _ _ (unhide T4) ?_
        clear hK K
        try simp only [Act.put, List.setIfInBounds_toArray, List.set_cons_zero, List.set_cons_succ]
        refine anyH_step1 (i := 9) rfl (by kernel_rfl) (fun K hK => ?_)
        refine step_store_row (by rfl) 73 _ _ rfl (W3.heap.size) rfl (sq Z) rfl #[.int .i64 0, .int .i64 0, .int .i64 0, .int .i64 0, .int .i64 0, .int .i64 0, .int .i64 0, .int .i64 0, .int .i64 0, .int .i64 0, .int .i64 0, .int .i64 0, .int .i64 0, .int .i64 0, .int .i64 0, .int .i64 0, .int .i64 0, .int .i64 0, .int .i64 0, .int .i64 0, .int .i64 0, .int .i64 0, .int .i64 0, .int .i64 0, .int .i64 0, .int .i64 0, .int .i64 0, .int .i64 0, .int .i64 0, .int .i64 0, .int .i64 0, .int .i64 0, .int .i64 0, .int .i64 0, .int .i64 0, .int .i64 0, .int .i64 0, .int .i64 0, .int .i64 0, .int .i64 0, .int .i64 0, .int .i64 0, .int .i64 0, .int .i64 0, .int .i64 0, .int .i64 0, .int .i64 0, .int .i64 0, .int .i64 0, .int .i64 0, .int .i64 0, .int .i64 0, .int .i64 0, .int .i64 0, .int .i64 0, .int .i64 0, .int .i64 0, .int .i64 0, .int .i64 0, .int .i64 0, .int .i64 0, .int .i64 0, .int .i64 0, .int .i64 0] 73 (unhide N4) (by rw [unhide HZS]; rfl) (by rw [unhide HZS]; kernel_rfl) (sq_one _) ?_
        intro W5 hB5 g5
        have T5 := hide ((unhide T4).wr g5 (by have := (unhide T0).size; omega))
        refine hK.out _ _ (unhide T5) ?_
        clear hK K
        try simp only [Act.put]
        refine wpAnyH_done (by kernel_rfl) (NoPanic.normal ?_) _
        exact unhide REST (W3.heap.size) _ (unhide T5) (by have := (unhide T0).size; omega) hB5
      · go_simp
        have T6 := hide ((unhide T2).new (World.grownBy_alloc W2 (.cells #[.int .i64 0, .int .i64 0, .int .i64 0, .int .i64 0, .int .i64 0, .int .i64 0, .int .i64 0, .int .i64 0, .int .i64 0, .int .i64 0, .int .i64 0, .int .i64 0, .int .i64 0, .int .i64 0, .int .i64 0, .int .i64 0, .int .i64 0, .int .i64 0, .int .i64 0, .int .i64 0, .int .i64 0, .int .i64 0, .int .i64 0, .int .i64 0, .int .i64 0, .int .i64 0, .int .i64 0, .int .i64 0, .int .i64 0, .int .i64 0, .int .i64 0, .int .i64 0, .int .i64 0, .int .i64 0, .int .i64 0, .int .i64 0, .int .i64 0, .int .i64 0, .int .i64 0, .int .i64 0, .int .i64 0, .int .i64 0, .int .i64 0, .int .i64 0, .int .i64 0, .int .i64 0, .int .i64 0, .int .i64 0, .int .i64 0, .int .i64 0, .int .i64 0, .int .i64 0, .int .i64 0, .int .i64 0, .int .i64 0, .int .i64 0, .int .i64 0, .int .i64 0, .int .i64 0, .int .i64 0, .int .i64 0, .int .i64 0, .int .i64 0, .int .i64 0] 73) none))
        have N6 := hide (heap_alloc_new W2 (.cells #[.int .i64 0, .int .i64 0, .int .i64 0, .int .i64 0, .int .i64 0, .int .i64 0, .int .i64 0, .int .i64 0, .int .i64 0, .int .i64 0, .int .i64 0, .int .i64 0, .int .i64 0, .int .i64 0, .int .i64 0, .int .i64 0, .int .i64 0, .int .i64 0, .int .i64 0, .int .i64 0, .int .i64 0, .int .i64 0, .int .i64 0, .int .i64 0, .int .i64 0, .int .i64 0, .int .i64 0, .int .i64 0, .int .i64 0, .int .i64 0, .int .i64 0, .int .i64 0, .int .i64 0, .int .i64 0, .int .i64 0, .int .i64 0, .int .i64 0, .int .i64 0, .int .i64 0, .int .i64 0, .int .i64 0, .int .i64 0, .int .i64 0, .int .i64 0, .int .i64 0, .int .i64 0, .int .i64 0, .int .i64 0, .int .i64 0, .int .i64 0, .int .i64 0, .int .i64 0, .int .i64 0, .int .i64 0, .int .i64 0, .int .i64 0, .int .i64 0, .int .i64 0, .int .i64 0, .int .i64 0, .int .i64 0, .int .i64 0, .int .i64 0, .int .i64 0] 73))
        have s6 : W2.heap.size + 1 ≤ (W2.alloc (.cells #[.int .i64 0, .int .i64 0, .int .i64 0, .int .i64 0, .int .i64 0, .int .i64 0, .int .i64 0, .int .i64 0, .int .i64 0, .int .i64 0, .int .i64 0, .int .i64 0, .int .i64 0, .int .i64 0, .int .i64 0, .int .i64 0, .int .i64 0, .int .i64 0, .int .i64 0, .int .i64 0, .int .i64 0, .int .i64 0, .int .i64 0, .int .i64 0, .int .i64 0, .int .i64 0, .int .i64 0, .int .i64 0, .int .i64 0, .int .i64 0, .int .i64 0, .int .i64 0, .int .i64 0, .int .i64 0, .int .i64 0, .int .i64 0, .int .i64 0, .int .i64 0, .int .i64 0, .int .i64 0, .int .i64 0, .int .i64 0, .int .i64 0, .int .i64 0, .int .i64 0, .int .i64 0, .int .i64 0, .int .i64 0, .int .i64 0, .int .i64 0, .int .i64 0, .int .i64 0, .int .i64 0, .int .i64 0, .int .i64 0, .int .i64 0, .int .i64 0, .int .i64 0, .int .i64 0, .int .i64 0, .int .i64 0, .int .i64 0, .int .i64 0, .int .i64 0] 73)).heap.size := by simp
        refine hK.out _ _ (unhide T6) ?_
        clear hK K
        generalize (W2.alloc (.cells #[.int .i64 0, .int .i64 0, .int .i64 0, .int .i64 0, .int .i64 0, .int .i64 0, .int .i64 0, .int .i64 0, .int .i64 0, .int .i64 0, .int .i64 0, .int .i64 0, .int .i64 0, .int .i64 0, .int .i64 0, .int .i64 0, .int .i64 0, .int .i64 0, .int .i64 0, .int .i64 0, .int .i64 0, .int .i64 0, .int .i64 0, .int .i64 0, .int .i64 0, .int .i64 0, .int .i64 0, .int .i64 0, .int .i64 0, .int .i64 0, .int .i64 0, .int .i64 0, .int .i64 0, .int .i64 0, .int .i64 0, .int .i64 0, .int .i64 0, .int .i64 0, .int .i64 0, .int .i64 0, .int .i64 0, .int .i64 0, .int .i64 0, .int .i64 0, .int .i64 0, .int .i64 0, .int .i64 0, .int .i64 0, .int .i64 0, .int .i64 0, .int .i64 0, .int .i64 0, .int .i64 0, .int .i64 0, .int .i64 0, .int .i64 0, .int .i64 0, .int .i64 0, .int .i64 0, .int .i64 0, .int .i64 0, .int .i64 0, .int .i64 0, .int .i64 0] 73)) = W6 at *
        try simp only [Act.put, List.setIfInBounds_toArray, List.set_cons_zero, List.set_cons_succ]
        refine anyH_step1 (i := 6) rfl (by kernel_rfl) (fun K hK => ?_)
        go_simp
        refine (toZig zs (unhide HZ0) W6).mono ?_
        rintro e W7 ⟨rfl, g7⟩
        have T7 := hide ((unhide T6).new g7)
        have s7 := g7.size
        rw [unhide HZZ]
        have N7 := hide (grown_atT g7 (unhide N6) (by simp))
        refine hK.out _ _ (unhide T7) ?_
        clear hK K g7
        try simp only [Act.put, List.setIfInBounds_toArray, List.set_cons_zero, List.set_cons_succ]
        refine anyH_step1 (i := 8) rfl (by kernel_rfl) (fun K hK => ?_)
        go_simp
        refine hK.out _ _ (unhide T7) ?_
        clear hK K
        try simp only [Act.put, List.setIfInBounds_toArray, List.set_cons_zero, List.set_cons_succ]
        refine anyH_step1 (i := 9) rfl (by kernel_rfl) (fun K hK => ?_)
        refine step_store_row (by rfl) 73 _ _ rfl (W2.heap.size) rfl (sq Z) rfl #[.int .i64 0, .int .i64 0, .int .i64 0, .int .i64 0, .int .i64 0, .int .i64 0, .int .i64 0, .int .i64 0, .int .i64 0, .int .i64 0, .int .i64 0, .int .i64 0, .int .i64 0, .int .i64 0, .int .i64 0, .int .i64 0, .int .i64 0, .int .i64 0, .int .i64 0, .int .i64 0, .int .i64 0, .int .i64 0, .int .i64 0, .int .i64 0, .int .i64 0, .int .i64 0, .int .i64 0, .int .i64 0, .int .i64 0, .int .i64 0, .int .i64 0, .int .i64 0, .int .i64 0, .int .i64 0, .int .i64 0, .int .i64 0, .int .i64 0, .int .i64 0, .int .i64 0, .int .i64 0, .int .i64 0, .int .i64 0, .int .i64 0, .int .i64 0, .int .i64 0, .int .i64 0, .int .i64 0, .int .i64 0, .int .i64 0, .int .i64 0, .int .i64 0, .int .i64 0, .int .i64 0, .int .i64 0, .int .i64 0, .int .i64 0, .int .i64 0, .int .i64 0, .int .i64 0, .int .i64 0, .int .i64 0, .int .i64 0, .int .i64 0, .int .i64 0] 73 (unhide N7) (by rw [unhide HZS]; rfl) (by rw [unhide HZS]; kernel_rfl) (sq_one _) ?_
        intro W8 hB8 g8
        have T8 := hide ((unhide T7).wr g8 (by have := (unhide T0).size; omega))
        refine hK.out _ _ (unhide T8) ?_
        clear hK K
        try simp only [Act.put]
        refine wpAnyH_done (by kernel_rfl) (NoPanic.normal ?_) _
        exact unhide REST (W2.heap.size) _ (unhide T8) (by have := (unhide T0).size; omega) hB8
    · go_simp
      have T9 := hide ((unhide T1).new (World.grownBy_alloc W1 (.cells #[.int .i64 0, .int .i64 0, .int .i64 0, .int .i64 0, .int .i64 0, .int .i64 0, .int .i64 0, .int .i64 0, .int .i64 0, .int .i64 0, .int .i64 0, .int .i64 0, .int .i64 0, .int .i64 0, .int .i64 0, .int .i64 0, .int .i64 0, .int .i64 0, .int .i64 0, .int .i64 0, .int .i64 0, .int .i64 0, .int .i64 0, .int .i64 0, .int .i64 0, .int .i64 0, .int .i64 0, .int .i64 0, .int .i64 0, .int .i64 0, .int .i64 0, .int .i64 0, .int .i64 0, .int .i64 0, .int .i64 0, .int .i64 0, .int .i64 0, .int .i64 0, .int .i64 0, .int .i64 0, .int .i64 0, .int .i64 0, .int .i64 0, .int .i64 0, .int .i64 0, .int .i64 0, .int .i64 0, .int .i64 0, .int .i64 0, .int .i64 0, .int .i64 0, .int .i64 0, .int .i64 0, .int .i64 0, .int .i64 0, .int .i64 0, .int .i64 0, .int .i64 0, .int .i64 0, .int .i64 0, .int .i64 0, .int .i64 0, .int .i64 0, .int .i64 0] 73) none))
      have N9 := hide (heap_alloc_new W1 (.cells #[.int .i64 0, .int .i64 0, .int .i64 0, .int .i64 0, .int .i64 0, .int .i64 0, .int .i64 0, .int .i64 0, .int .i64 0, .int .i64 0, .int .i64 0, .int .i64 0, .int .i64 0, .int .i64 0, .int .i64 0, .int .i64 0, .int .i64 0, .int .i64 0, .int .i64 0, .int .i64 0, .int .i64 0, .int .i64 0, .int .i64 0, .int .i64 0, .int .i64 0, .int .i64 0, .int .i64 0, .int .i64 0, .int .i64 0, .int .i64 0, .int .i64 0, .int .i64 0, .int .i64 0, .int .i64 0, .int .i64 0, .int .i64 0, .int .i64 0, .int .i64 0, .int .i64 0, .int .i64 0, .int .i64 0, .int .i64 0, .int .i64 0, .int .i64 0, .int .i64 0, .int .i64 0, .int .i64 0, .int .i64 0, .int .i64 0, .int .i64 0, .int .i64 0, .int .i64 0, .int .i64 0, .int .i64 0, .int .i64 0, .int .i64 0, .int .i64 0, .int .i64 0, .int .i64 0, .int .i64 0, .int .i64 0, .int .i64 0, .int .i64 0, .int .i64 0] 73))
      have s9 : W1.heap.size + 1 ≤ (W1.alloc (.cells #[.int .i64 0, .int .i64 0, .int .i64 0, .int .i64 0, .int .i64 0, .int .i64 0, .int .i64 0, .int .i64 0, .int .i64 0, .int .i64 0, .int .i64 0, .int .i64 0, .int .i64 0, .int .i64 0, .int .i64 0, .int .i64 0, .int .i64 0, .int .i64 0, .int .i64 0, .int .i64 0, .int .i64 0, .int .i64 0, .int .i64 0, .int .i64 0, .int .i64 0, .int .i64 0, .int .i64 0, .int .i64 0, .int .i64 0, .int .i64 0, .int .i64 0, .int .i64 0, .int .i64 0, .int .i64 0, .int .i64 0, .int .i64 0, .int .i64 0, .int .i64 0, .int .i64 0, .int .i64 0, .int .i64 0, .int .i64 0, .int .i64 0, .int .i64 0, .int .i64 0, .int .i64 0, .int .i64 0, .int .i64 0, .int .i64 0, .int .i64 0, .int .i64 0, .int .i64 0, .int .i64 0, .int .i64 0, .int .i64 0, .int .i64 0, .int .i64 0, .int .i64 0, .int .i64 0, .int .i64 0, .int .i64 0, .int .i64 0, .int .i64 0, .int .i64 0] 73)).heap.size := by simp
      refine hK.out _ _ (unhide T9) ?_
      clear hK K
      generalize (W1.alloc (.cells #[.int .i64 0, .int .i64 0, .int .i64 0, .int .i64 0, .int .i64 0, .int .i64 0, .int .i64 0, .int .i64 0, .int .i64 0, .int .i64 0, .int .i64 0, .int .i64 0, .int .i64 0, .int .i64 0, .int .i64 0, .int .i64 0, .int .i64 0, .int .i64 0, .int .i64 0, .int .i64 0, .int .i64 0, .int .i64 0, .int .i64 0, .int .i64 0, .int .i64 0, .int .i64 0, .int .i64 0, .int .i64 0, .int .i64 0, .int .i64 0, .int .i64 0, .int .i64 0, .int .i64 0, .int .i64 0, .int .i64 0, .int .i64 0, .int .i64 0, .int .i64 0, .int .i64 0, .int .i64 0, .int .i64 0, .int .i64 0, .int .i64 0, .int .i64 0, .int .i64 0, .int .i64 0, .int .i64 0, .int .i64 0, .int .i64 0, .int .i64 0, .int .i64 0, .int .i64 0, .int .i64 0, .int .i64 0, .int .i64 0, .int .i64 0, .int .i64 0, .int .i64 0, .int .i64 0, .int .i64 0, .int .i64 0, .int .i64 0, .int .i64 0, .int .i64 0] 73)) = W9 at *
      try simp only [Act.put, List.setIfInBounds_toArray, List.set_cons_zero, List.set_cons_succ]
      refine anyH_step1 (i := 3) rfl (by kernel_rfl) (fun K hK => ?_)
      go_simp
      refine (unhide HK W9).mono ?_
      rintro e W10 ⟨rfl, g10⟩
      have T10 := hide ((unhide T9).new g10)
      have s10 := g10.size
      have N10 := hide (grown_atT g10 (unhide N9) (by simp))
      refine hK.out _ _ (unhide T10) ?_
      clear hK K g10
      try simp only [Act.put, List.setIfInBounds_toArray, List.set_cons_zero, List.set_cons_succ]
      refine anyH_take1 (i := 4) (v := .func (.func g) #[rv] #[]) rfl (by kernel_rfl) (fun _ _ _ _ _ h => h) (unhide T10) (Or.inl ⟨by rfl, ?_⟩) ?_
      · intro w' hSw
        have hx := fun w => unhide HX w
        go_simp
        try with_reducible rfl
      try simp only [Act.put, List.setIfInBounds_toArray, List.set_cons_zero, List.set_cons_succ]
      refine anyH_step1 (i := 6) rfl (by kernel_rfl) (fun K hK => ?_)
      go_simp
      refine (toZig zs (unhide HZ0) W10).mono ?_
      rintro e W11 ⟨rfl, g11⟩
      have T11 := hide ((unhide T10).new g11)
      have s11 := g11.size
      rw [unhide HZZ]
      have N11 := hide (grown_atT g11 (unhide N10) (by simp))
      refine hK.out _ _ (unhide T11) ?_
      clear hK K g11
      try simp only [Act.put, List.setIfInBounds_toArray, List.set_cons_zero, List.set_cons_succ]
      refine anyH_step1 (i := 8) rfl (by kernel_rfl) (fun K hK => ?_)
      go_simp
      refine hK.out _ _ (unhide T11) ?_
      clear hK K
      try simp only [Act.put, List.setIfInBounds_toArray, List.set_cons_zero, List.set_cons_succ]
      refine anyH_step1 (i := 9) rfl (by kernel_rfl) (fun K hK => ?_)
      refine step_store_row (by rfl) 73 _ _ rfl (W1.heap.size) rfl (sq Z) rfl #[.int .i64 0, .int .i64 0, .int .i64 0, .int .i64 0, .int .i64 0, .int .i64 0, .int .i64 0, .int .i64 0, .int .i64 0, .int .i64 0, .int .i64 0, .int .i64 0, .int .i64 0, .int .i64 0, .int .i64 0, .int .i64 0, .int .i64 0, .int .i64 0, .int .i64 0, .int .i64 0, .int .i64 0, .int .i64 0, .int .i64 0, .int .i64 0, .int .i64 0, .int .i64 0, .int .i64 0, .int .i64 0, .int .i64 0, .int .i64 0, .int .i64 0, .int .i64 0, .int .i64 0, .int .i64 0, .int .i64 0, .int .i64 0, .int .i64 0, .int .i64 0, .int .i64 0, .int .i64 0, .int .i64 0, .int .i64 0, .int .i64 0, .int .i64 0, .int .i64 0, .int .i64 0, .int .i64 0, .int .i64 0, .int .i64 0, .int .i64 0, .int .i64 0, .int .i64 0, .int .i64 0, .int .i64 0, .int .i64 0, .int .i64 0, .int .i64 0, .int .i64 0, .int .i64 0, .int .i64 0, .int .i64 0, .int .i64 0, .int .i64 0, .int .i64 0] 73 (unhide N11) (by rw [unhide HZS]; rfl) (by rw [unhide HZS]; kernel_rfl) (sq_one _) ?_
      intro W12 hB12 g12
      have T12 := hide ((unhide T11).wr g12 (by have := (unhide T0).size; omega))
      refine hK.out _ _ (unhide T12) ?_
      clear hK K
      try simp only [Act.put]
      refine wpAnyH_done (by kernel_rfl) (NoPanic.normal ?_) _
      exact unhide REST (W1.heap.size) _ (unhide T12) (by have := (unhide T0).size; omega) hB12
  · go_simp
    have T13 := hide ((unhide T0).new (World.grownBy_alloc W0 (.cells #[.int .i64 0, .int .i64 0, .int .i64 0, .int .i64 0, .int .i64 0, .int .i64 0, .int .i64 0, .int .i64 0, .int .i64 0, .int .i64 0, .int .i64 0, .int .i64 0, .int .i64 0, .int .i64 0, .int .i64 0, .int .i64 0, .int .i64 0, .int .i64 0, .int .i64 0, .int .i64 0, .int .i64 0, .int .i64 0, .int .i64 0, .int .i64 0, .int .i64 0, .int .i64 0, .int .i64 0, .int .i64 0, .int .i64 0, .int .i64 0, .int .i64 0, .int .i64 0, .int .i64 0, .int .i64 0, .int .i64 0, .int .i64 0, .int .i64 0, .int .i64 0, .int .i64 0, .int .i64 0, .int .i64 0, .int .i64 0, .int .i64 0, .int .i64 0, .int .i64 0, .int .i64 0, .int .i64 0, .int .i64 0, .int .i64 0, .int .i64 0, .int .i64 0, .int .i64 0, .int .i64 0, .int .i64 0, .int .i64 0, .int .i64 0, .int .i64 0, .int .i64 0, .int .i64 0, .int .i64 0, .int .i64 0, .int .i64 0, .int .i64 0, .int .i64 0] 73) none))
    have N13 := hide (heap_alloc_new W0 (.cells #[.int .i64 0, .int .i64 0, .int .i64 0, .int .i64 0, .int .i64 0, .int .i64 0, .int .i64 0, .int .i64 0, .int .i64 0, .int .i64 0, .int .i64 0, .int .i64 0, .int .i64 0, .int .i64 0, .int .i64 0, .int .i64 0, .int .i64 0, .int .i64 0, .int .i64 0, .int .i64 0, .int .i64 0, .int .i64 0, .int .i64 0, .int .i64 0, .int .i64 0, .int .i64 0, .int .i64 0, .int .i64 0, .int .i64 0, .int .i64 0, .int .i64 0, .int .i64 0, .int .i64 0, .int .i64 0, .int .i64 0, .int .i64 0, .int .i64 0, .int .i64 0, .int .i64 0, .int .i64 0, .int .i64 0, .int .i64 0, .int .i64 0, .int .i64 0, .int .i64 0, .int .i64 0, .int .i64 0, .int .i64 0, .int .i64 0, .int .i64 0, .int .i64 0, .int .i64 0, .int .i64 0, .int .i64 0, .int .i64 0, .int .i64 0, .int .i64 0, .int .i64 0, .int .i64 0, .int .i64 0, .int .i64 0, .int .i64 0, .int .i64 0, .int .i64 0] 73))
    have s13 : W0.heap.size + 1 ≤ (W0.alloc (.cells #[.int .i64 0, .int .i64 0, .int .i64 0, .int .i64 0, .int .i64 0, .int .i64 0, .int .i64 0, .int .i64 0, .int .i64 0, .int .i64 0, .int .i64 0, .int .i64 0, .int .i64 0, .int .i64 0, .int .i64 0, .int .i64 0, .int .i64 0, .int .i64 0, .int .i64 0, .int .i64 0, .int .i64 0, .int .i64 0, .int .i64 0, .int .i64 0, .int .i64 0, .int .i64 0, .int .i64 0, .int .i64 0, .int .i64 0, .int .i64 0, .int .i64 0, .int .i64 0, .int .i64 0, .int .i64 0, .int .i64 0, .int .i64 0, .int .i64 0, .int .i64 0, .int .i64 0, .int .i64 0, .int .i64 0, .int .i64 0, .int .i64 0, .int .i64 0, .int .i64 0, .int .i64 0, .int .i64 0, .int .i64 0, .int .i64 0, .int .i64 0, .int .i64 0, .int .i64 0, .int .i64 0, .int .i64 0, .int .i64 0, .int .i64 0, .int .i64 0, .int .i64 0, .int .i64 0, .int .i64 0, .int .i64 0, .int .i64 0, .int .i64 0, .int .i64 0] 73)).heap.size := by simp
    refine hK.out _ _ (unhide T13) ?_
    clear hK K
    generalize (W0.alloc (.cells #[.int .i64 0, .int .i64 0, .int .i64 0, .int .i64 0, .int .i64 0, .int .i64 0, .int .i64 0, .int .i64 0, .int .i64 0, .int .i64 0, .int .i64 0, .int .i64 0, .int .i64 0, .int .i64 0, .int .i64 0, .int .i64 0, .int .i64 0, .int .i64 0, .int .i64 0, .int .i64 0, .int .i64 0, .int .i64 0, .int .i64 0, .int .i64 0, .int .i64 0, .int .i64 0, .int .i64 0, .int .i64 0, .int .i64 0, .int .i64 0, .int .i64 0, .int .i64 0, .int .i64 0, .int .i64 0, .int .i64 0, .int .i64 0, .int .i64 0, .int .i64 0, .int .i64 0, .int .i64 0, .int .i64 0, .int .i64 0, .int .i64 0, .int .i64 0, .int .i64 0, .int .i64 0, .int .i64 0, .int .i64 0, .int .i64 0, .int .i64 0, .int .i64 0, .int .i64 0, .int .i64 0, .int .i64 0, .int .i64 0, .int .i64 0, .int .i64 0, .int .i64 0, .int .i64 0, .int .i64 0, .int .i64 0, .int .i64 0, .int .i64 0, .int .i64 0] 73)) = W13 at *
    try simp only [Act.put, List.setIfInBounds_toArray, List.set_cons_zero, List.set_cons_succ]
    refine anyH_step1 (i := 1) rfl (by kernel_rfl) (fun K hK => ?_)
    go_simp
    refine (unhide HT W13).mono ?_
    rintro e W14 ⟨rfl, g14⟩
    have T14 := hide ((unhide T13).new g14)
    have s14 := g14.size
    have N14 := hide (grown_atT g14 (unhide N13) (by simp))
    refine hK.out _ _ (unhide T14) ?_
    clear hK K g14
    try simp only [Act.put, List.setIfInBounds_toArray, List.set_cons_zero, List.set_cons_succ]
    refine anyH_step1 (i := 3) rfl (by kernel_rfl) (fun K hK => ?_)
    go_simp
    refine (unhide HK W14).mono ?_
    rintro e W15 ⟨rfl, g15⟩
    have T15 := hide ((unhide T14).new g15)
    have s15 := g15.size
    have N15 := hide (grown_atT g15 (unhide N14) (by simp))
    refine hK.out _ _ (unhide T15) ?_
    clear hK K g15
    try simp only [Act.put, List.setIfInBounds_toArray, List.set_cons_zero, List.set_cons_succ]
    refine anyH_take1 (i := 4) (v := .func (.func g) #[rv] #[]) rfl (by kernel_rfl) (fun _ _ _ _ _ h => h) (unhide T15) (Or.inl ⟨by rfl, ?_⟩) ?_
    · intro w' hSw
      have hx := fun w => unhide HX w
      go_simp
      try with_reducible rfl
    try simp only [Act.put, List.setIfInBounds_toArray, List.set_cons_zero, List.set_cons_succ]
    refine anyH_step1 (i := 6) rfl (by kernel_rfl) (fun K hK => ?_)
    go_simp
    refine (toZig zs (unhide HZ0) W15).mono ?_
    rintro e W16 ⟨rfl, g16⟩
    have T16 := hide ((unhide T15).new g16)
    have s16 := g16.size
    rw [unhide HZZ]
    have N16 := hide (grown_atT g16 (unhide N15) (by simp))
    refine hK.out _ _ (unhide T16) ?_
    clear hK K g16
    try simp only [Act.put, List.setIfInBounds_toArray, List.set_cons_zero, List.set_cons_succ]
    refine anyH_step1 (i := 8) rfl (by kernel_rfl) (fun K hK => ?_)
    go_simp
    refine hK.out _ _ (unhide T16) ?_
    clear hK K
    try simp only [Act.put, List.setIfInBounds_toArray, List.set_cons_zero, List.set_cons_succ]
    refine anyH_step1 (i := 9) rfl (by kernel_rfl) (fun K hK => ?_)
    refine step_store_row (by rfl) 73 _ _ rfl (W0.heap.size) rfl (sq Z) rfl #[.int .i64 0, .int .i64 0, .int .i64 0, .int .i64 0, .int .i64 0, .int .i64 0, .int .i64 0, .int .i64 0, .int .i64 0, .int .i64 0, .int .i64 0, .int .i64 0, .int .i64 0, .int .i64 0, .int .i64 0, .int .i64 0, .int .i64 0, .int .i64 0, .int .i64 0, .int .i64 0, .int .i64 0, .int .i64 0, .int .i64 0, .int .i64 0, .int .i64 0, .int .i64 0, .int .i64 0, .int .i64 0, .int .i64 0, .int .i64 0, .int .i64 0, .int .i64 0, .int .i64 0, .int .i64 0, .int .i64 0, .int .i64 0, .int .i64 0, .int .i64 0, .int .i64 0, .int .i64 0, .int .i64 0, .int .i64 0, .int .i64 0, .int .i64 0, .int .i64 0, .int .i64 0, .int .i64 0, .int .i64 0, .int .i64 0, .int .i64 0, .int .i64 0, .int .i64 0, .int .i64 0, .int .i64 0, .int .i64 0, .int .i64 0, .int .i64 0, .int .i64 0, .int .i64 0, .int .i64 0, .int .i64 0, .int .i64 0, .int .i64 0, .int .i64 0] 73 (unhide N16) (by rw [unhide HZS]; rfl) (by rw [unhide HZS]; kernel_rfl) (sq_one _) ?_
    intro W17 hB17 g17
    have T17 := hide ((unhide T16).wr g17 (by have := (unhide T0).size; omega))
    refine hK.out _ _ (unhide T17) ?_
    clear hK K
    try simp only [Act.put]
    refine wpAnyH_done (by kernel_rfl) (NoPanic.normal ?_) _
    exact unhide REST (W0.heap.size) _ (unhide T17) (by have := (unhide T0).size; omega) hB17
end Go.Proofs.Ytfgglainjaplgaa
