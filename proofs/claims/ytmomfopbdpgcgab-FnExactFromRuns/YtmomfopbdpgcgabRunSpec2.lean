/-
  The items of a list, in the specification.
-/
import Derived.Test.YtmomfopbdpgcgabRunSpec
import Derived.Maps.AppendAt
import Derived.Deep.AppendLies
import Derived.Deep.RegionHeld3
namespace Go.Proofs.Ytmomfopbdpgcgab
open Go.RowKit

/-- The cells of items. -/
def itCells : List It → List Value
  | [] => []
  | p :: ps => .int .i64 p.1 :: .int .i64 p.2.1 :: .int .i64 p.2.2 :: itCells ps
theorem itCells_app : ∀ (xs ys : List It), itCells (xs ++ ys) = itCells xs ++ itCells ys
  | [], ys => rfl
  | p :: xs, ys => by simp [itCells, itCells_app xs ys]
theorem itCells_len : ∀ xs : List It, (itCells xs).length = xs.length * 3
  | [] => rfl
  | p :: xs => by simp [itCells, itCells_len xs]; omega
theorem itCells_at : ∀ (xs : List It) (i : Nat) (h : i < xs.length), (itCells xs)[i * 3]? = some (.int .i64 (xs[i].1)) ∧ (itCells xs)[i * 3 + 1]? = some (.int .i64 (xs[i].2.1)) ∧ (itCells xs)[i * 3 + 2]? = some (.int .i64 (xs[i].2.2))
  | p :: xs, 0, _ => ⟨rfl, rfl, rfl⟩
  | p :: xs, i + 1, h => by
    have ih := itCells_at xs i (by simpa using h)
    simp only [itCells, Nat.succ_mul]
    refine ⟨?_, ?_, ?_⟩
    · simpa using ih.1
    · have e : i * 3 + 3 + 1 = (i * 3 + 1) + 1 + 1 + 1 := by omega
      rw [e]; simpa using ih.2.1
    · have e : i * 3 + 3 + 2 = (i * 3 + 2) + 1 + 1 + 1 := by omega
      rw [e]; simpa using ih.2.2
theorem own_item {w : World} {lim : Nat} {e : TypeId} {v : Value} {X : List It} {a b c : Int} (h : w.ownsRow lim e 3 v (X.length + 1) (itCells X ++ [.int .i64 a, .int .i64 b, .int .i64 c])) : w.ownsRow lim e 3 v (X ++ [(a, b, c)]).length (itCells (X ++ [(a, b, c)])) := by
  rw [itCells_app, List.length_append]; exact h

theorem info_item : (Try.prog.info? 36).map (fun i => (i.zero, i.size, i.bytes)) = some (some (.agg #[.int .i64 0, .int .i64 0, .int .i64 0]), 3, 24) := by kernel_rfl

theorem append_item {w : World} {ops : Array Oper} {rest : List Oper} {o : Oper} {a : Act} {Q : Exit → Act → World → Prop} (hgd : o.guard = none) (s x : Operand)
    (ho : o.op = .call { callee := .builtin .append, args := #[s, x], argTypes := #[27, 27] })
    (B : World) (v : Value) (X : List It) (hs : a.eval s = v) (hown : w.ownsRow B.heap.size 36 3 v X.length (itCells X)) (p q r : Int) (hx : a.eval x = .slice (some ⟨w.heap.size, 0, none⟩) 1 1)
    (hb : X.length ≤ 1000) (hB : B.grownBy w none)
    (h : ∀ v' w', w'.ownsRow B.heap.size 36 3 v' (X ++ [(p, q, r)]).length (itCells (X ++ [(p, q, r)])) → B.grownBy w' none → wpList Try.prog ops Q rest (a.put o.dst v') w') :
    wpList Try.prog ops Q (o :: rest) a (w.alloc (.cells #[.int .i64 p, .int .i64 q, .int .i64 r] 36)) := by
  obtain ⟨i0, hi, hz0, hz1, hz2⟩ := info_parts info_item
  refine wpList_append_own_at _ hgd s x 27 ho B.heap.size 36 i0 _ 3 24 Try.underlying27 hi hz0 hz1 hz2 rfl (by decide) v X.length _ hs (hown.alloc _) ⟨w.heap.size, 0, none⟩ 1 1 [.int .i64 p, .int .i64 q, .int .i64 r] hx rfl (World.news_of_block (cs := #[.int .i64 p, .int .i64 q, .int .i64 r]) (t := 36) (fr := (0, 0)) (heap_alloc_new w _)) (by intro u hu; simp at hu; rcases hu with rfl | rfl | rfl <;> rfl) (by unfold maxLen; omega) (by omega) (by have := hB.size; simp; omega) ?_
  intro v' w' h1 h2 _ _
  exact h v' w' (own_item h1) (grown_new (grown_alloc hB _) h2 (fun g e => (hown.lt g e).1))

theorem all_at {f : Int → Bool} {xs : List Int} {k : Nat} (hk : k < xs.length) : (xs.take (k + 1)).all f = ((xs.take k).all f && f (xs.getD k 0)) := by
  rw [List.take_succ_eq_append_getElem hk, List.all_append]
  simp [hk]
theorem all_no {f : Int → Bool} {xs : List Int} {k : Nat} (hk : k < xs.length) (h : f (xs.getD k 0) = false) : xs.all f = false := by
  cases hx : xs.all f with
  | false => rfl
  | true =>
    have := List.all_eq_true.1 hx (xs[k]) (List.getElem_mem hk)
    have e : xs.getD k 0 = xs[k] := by simp [hk]
    rw [e, this] at h
    exact h

set_option maxHeartbeats 800000 in
theorem specCoefs (ao : Option Addr) (n cap : Nat) (xs : List Int) (w : World) (hr : Rd .i64 w ao n xs) (b : Bool) (HB : Hid (coefsB xs = b)) :
    Calls Try.prog 22 #[.slice ao n cap] w fun e w' => e = .returned (.bool b) ∧ w' = w := by
  have hl := hr.1
  have HR := hide hr
  clear hr
  by_cases hn : n ≤ 64
  · have hd : decide ((64 : Int) < (n : Int)) = false := decide_eq_false (by omega)
    go_enter Try.func22, Try.ntmps22
    go_wp2
    go_loopw [3] (fun i wr => ∃ k : Nat, k ≤ n ∧ i = .int .i64 k ∧ Hid ((xs.take k).all coefB = true) ∧ wr = w) (fun i _ => n - (intOf i).toNat)
    case atStart => exact ⟨0, Nat.zero_le _, rfl, rfl, rfl⟩
    case round =>
      obtain ⟨k, hk, rfl, ha, rfl⟩ := hrel
      by_cases hlt : k < n
      · obtain ⟨bb, off, rfl, hc⟩ := (unhide HR).2 k hlt
        have hal := all_at (f := coefB) (xs := xs) (k := k) (by omega)
        have hno := all_no (f := coefB) (xs := xs) (k := k) (by omega)
        generalize xs.getD k 0 = x at *
        obtain ⟨c, HC⟩ : ∃ c, Hid (classI x = c) := ⟨_, rfl⟩
        cases hx : coefB x with
        | true =>
          have hA : (xs.take (k + 1)).all coefB = true := by rw [hal, unhide ha, hx]; rfl
          have hc0 := (class_bounds hx).1
          rw [unhide HC] at hc0
          have hd2 : decide (c < 0) = false := decide_eq_false (by omega)
          have HA := hide hA
          clear hA ha hal hno hx
          go_wp2_with fail
          refine (specClassOf x c HC wr).mono ?_
          rintro e w1 ⟨rfl, rfl⟩
          go_wp2
          go_roundw
          case rel => exact ⟨k + 1, by omega, by go_num, HA, trivial⟩
          case measure => simp [intOf]; omega
        | false =>
          have hcm : c = -1 := by rw [← unhide HC, classI, hx]; rfl
          have hb : b = false := by rw [← unhide HB, coefsB, hno hx, Bool.and_false]
          subst hcm hb
          clear ha hal hno hx
          go_wp2_with fail
          refine (specClassOf x (-1) HC wr).mono ?_
          rintro e w1 ⟨rfl, rfl⟩
          go_wp2
          go_ret
          exact ⟨rfl, rfl⟩
      · obtain rfl : k = n := by omega
        have hb : b = true := by
          have h := unhide ha
          rw [← hl, List.take_length] at h
          rw [← unhide HB, coefsB, h, hl, decide_eq_true hn]; rfl
        subst hb
        go_wp2
        go_ret
        exact ⟨rfl, rfl⟩
  · have hb : b = false := by rw [← unhide HB, coefsB, hl, decide_eq_false hn]; rfl
    subst hb
    have hd : decide ((64 : Int) < (n : Int)) = true := decide_eq_true (by omega)
    go_enter Try.func22, Try.ntmps22
    go_wp2
    go_ret
    exact ⟨rfl, rfl⟩

theorem drop_get {xs : List Int} {k : Nat} (hk : k < xs.length) : xs.drop k = xs.getD k 0 :: xs.drop (k + 1) := by
  rw [List.drop_eq_getElem_cons hk]
  simp [hk]

set_option maxRecDepth 20000 in
set_option maxHeartbeats 3200000 in
theorem specRunsOf (ao : Option Addr) (n cap : Nat) (xs : List Int) (w : World) (hr : Rd .i64 w ao n xs) :
    Calls Try.prog 15 #[.slice ao n cap] w fun e w' => ∃ v, e = .returned v ∧ w'.ownsRow w.heap.size 36 3 v (runsG xs).length (itCells (runsG xs)) ∧ w.grownBy w' none := by
  have hl := hr.1
  have G0 : w.grownBy (w.alloc (.cells #[] 36)) none := World.grownBy_alloc _ _ _
  have HO0 : Hid ((w.alloc (.cells #[] 36)).ownsRow w.heap.size 36 3 (.slice (some ⟨w.heap.size, 0, none⟩) 0 0) 0 []) := World.ownsRow_lit w #[] 0 (Nat.le_refl _) (by unfold maxLen; omega) rfl
  have HR := hide (hr.grown G0)
  have HRW := hide hr
  have HG0 := hide G0
  obtain ⟨wa, hwa⟩ : ∃ wa, w.alloc (.cells #[] 36) = wa := ⟨_, rfl⟩
  rw [hwa] at HO0 HR HG0
  have HWA := hide hwa
  clear hr G0 hwa
  obtain ⟨b, HB⟩ : ∃ b, Hid (coefsB xs = b) := ⟨_, rfl⟩
  obtain ⟨i0, hi, hz0, hz1, hz2⟩ := info_parts info_item
  cases b with
  | false =>
    have e : runsG xs = [] := by rw [runsG, unhide HB]; rfl
    rw [e]
    go_enter Try.func15, Try.ntmps15
    go_wp2_with fail
    rw [unhide HWA]
    refine (specCoefs ao n cap xs wa (unhide HR) false HB).mono ?_
    rintro e w1 ⟨rfl, rfl⟩
    go_wp2
    go_ret
    exact ⟨_, rfl, unhide HO0, unhide HG0⟩
  | true =>
    have e : runsG xs = runsGo 0 xs := by rw [runsG, unhide HB]; rfl
    rw [e]
    have hn : n ≤ 64 := by
      have h := unhide HB
      simp only [coefsB, Bool.and_eq_true, decide_eq_true_eq] at h
      omega
    have hlen := runsGo_len 0 xs
    obtain ⟨T, HT⟩ : ∃ T, Hid (runsGo 0 xs = T) := ⟨_, rfl⟩
    rw [unhide HT] at hlen
    rw [unhide HT]
    clear e
    go_enter Try.func15, Try.ntmps15
    go_wp2_with fail
    rw [unhide HWA]
    refine (specCoefs ao n cap xs wa (unhide HR) true HB).mono ?_
    rintro e w1 ⟨rfl, rfl⟩
    go_wp2
    go_loopw [3, 4, 5] (fun o r i wr => ∃ (k run : Nat) (I : List It), k ≤ n ∧ run ≤ k ∧ i = .int .i64 k ∧ r = .int .i64 run ∧ Hid (wr.ownsRow w.heap.size 36 3 o I.length (itCells I)) ∧ Hid (I ++ runsGo run (xs.drop k) = T) ∧ Hid (w.grownBy wr none)) (fun _ _ i _ => n - (intOf i).toNat)
    case atStart => exact ⟨0, 0, [], Nat.zero_le _, Nat.zero_le _, rfl, rfl, HO0, unhide HT, HG0⟩
    case round =>
      clear HO0 HG0
      obtain ⟨k, run, I, hk, hrun, rfl, rfl, ho, hI, hg⟩ := hrel
      have hIl : I.length ≤ 64 := by
        have := unhide hI
        have h2 : (I ++ runsGo run (xs.drop k)).length = T.length := by rw [this]
        rw [List.length_append] at h2
        omega
      obtain ⟨so, sc, rfl⟩ := own_form (unhide ho)
      by_cases hlt : k < n
      · have hI2 := unhide hI
        rw [drop_get (by omega)] at hI2
        obtain ⟨bb, off, rfl, hcw⟩ := (unhide HRW).2 k hlt
        generalize xs.getD k 0 = x at *
        have KEEP : Hid (∀ wv, w.grownBy wv none → wv.cell? ⟨bb, off + k, none⟩ = some (.int .i64 x)) := fun wv hg => hg.cell hcw (by simp)
        have hc := unhide KEEP wr (unhide hg)
        clear hcw hI
        by_cases hx : x = 0
        · subst hx
          rw [runsGo, if_pos rfl] at hI2
          have HI2 := hide hI2
          clear hI2
          go_wp2
          go_roundw
          case rel => exact ⟨k + 1, run + 1, I, by omega, by omega, by go_num, by go_num, ho, HI2, hg⟩
          case measure => simp [intOf]; omega
        · rw [runsGo, if_neg hx] at hI2
          have hx0 : (x == 0) = false := beq_false_of_ne hx
          obtain ⟨c, HC⟩ : ∃ c, Hid (classI x = c) := ⟨_, rfl⟩
          obtain ⟨v, HV⟩ : ∃ v, Hid (bitsI x = v) := ⟨_, rfl⟩
          rw [unhide HC, unhide HV] at hI2
          have HI2 := hide hI2
          clear hI2 hx
          go_wp2
          go_loopw [3, 4] (fun o r wv => ∃ (q : Nat) (J : List It), q ≤ 64 ∧ r = .int .i64 q ∧ Hid (wv.ownsRow w.heap.size 36 3 o J.length (itCells J)) ∧ Hid (J ++ (List.replicate (q / 16) (15, 0, 0) ++ (((q % 16 : Nat) : Int), c, v) :: runsGo 0 (xs.drop (k + 1))) = T) ∧ Hid (w.grownBy wv none)) (fun _ r _ => (intOf r).toNat)
          case atStart => exact ⟨run, I, by omega, rfl, ho, HI2, hg⟩
          case round =>
            clear HI2 ho hg hc
            obtain ⟨q, J, hq, rfl, ho, hJ, hg⟩ := hrel
            obtain ⟨so, sc, rfl⟩ := own_form (unhide ho)
            have hJl : J.length + 1 ≤ 64 := by
              have h2 : (J ++ (List.replicate (q / 16) (15, 0, 0) ++ (((q % 16 : Nat) : Int), c, v) :: runsGo 0 (xs.drop (k + 1)))).length = T.length := by rw [unhide hJ]
              rw [List.length_append, List.length_append, List.length_cons] at h2
              omega
            by_cases h15 : 15 < q
            · have hd : decide ((15 : Int) < (q : Int)) = true := decide_eq_true (by omega)
              have e1 := i64_in ((q : Int) - 16) (by omega)
              go_wp2_with (at_builtin; refine append_item rfl _ _ rfl w (.slice so J.length sc) J rfl (unhide ho) 15 0 0 rfl (by omega) (unhide hg) ?_; intro v' w2 ho2 hg2)
              have HO2 := hide ho2
              have HG2 := hide hg2
              have HJ2 : Hid ((J ++ [(15, 0, 0)]) ++ (List.replicate ((q - 16) / 16) (15, 0, 0) ++ ((((q - 16) % 16 : Nat) : Int), c, v) :: runsGo 0 (xs.drop (k + 1))) = T) := by
                have h := unhide hJ
                have e2 : q / 16 = (q - 16) / 16 + 1 := by omega
                have e3 : q % 16 = (q - 16) % 16 := by omega
                rw [e2, e3, List.replicate_succ] at h
                unfold Hid
                rw [List.append_assoc]
                exact h
              clear ho2 hg2 hJ ho hg
              go_wp2
              go_roundw
              case rel => exact ⟨q - 16, J ++ [(15, 0, 0)], by omega, by go_num, HO2, HJ2, HG2⟩
              case measure => simp [intOf]; omega
            · have hd : decide ((15 : Int) < (q : Int)) = false := decide_eq_false (by omega)
              have hc := unhide KEEP wr (unhide hg)
              have hkI : (k : Int) < (n : Int) := by omega
              go_wp2
              go_region_held3 (fun w' => w'.cell? ⟨bb, off + k, none⟩ = some (.int .i64 x)) (first | exact hc | exact unhide KEEP _ G5 | exact unhide KEEP _ (grown_drew (unhide hg)) | exact unhide KEEP _ (grown_alloc (grown_drew (unhide hg)) _)) ((first | (go_at_call 23; refine (specClassOf x c HC _).mono ?_; rintro e w2 ⟨rfl, rfl⟩) | (go_at_call 24; refine (specBitsOf x v HV _).mono ?_; rintro e w2 ⟨rfl, rfl⟩) | (refine step_append_lies _ (by rfl) _ _ _ (by rfl) w.heap.size 36 i0 _ 3 24 Try.underlying27 hi hz0 hz1 hz2 rfl (by omega) (.slice so J.length sc) J.length (itCells J) (by rfl) ((World.ownsRow.drew (unhide ho)).alloc _) ⟨wr.heap.size, 0, none⟩ 1 1 [.int .i64 q, .int .i64 c, .int .i64 v] (by rfl) (by rfl) (World.news_of_block (cs := #[.int .i64 q, .int .i64 c, .int .i64 v]) (t := 36) (fr := (0, 0)) (heap_alloc_new wr.drew _)) (by simp [Value.oneCell']) (by omega) (by unfold maxLen; omega) (by omega) (by have := (unhide hg).size; simp; omega) (wr.heap.size + 1) (by simp) ?_; intro gg cc w5 hown' hgrow hat hglt; have G5 : w.grownBy w5 none := grown_new (grown_alloc (grown_drew (unhide hg)) _) hgrow (fun g e => ((unhide ho).lt g e).1))))
              have HO5 := hide (own_item hown')
              have HG5 := hide G5
              have HJ5 : Hid ((J ++ [((q : Int), c, v)]) ++ runsGo 0 (xs.drop (k + 1)) = T) := by
                have h := unhide hJ
                have e2 : q / 16 = 0 := by omega
                have e3 : q % 16 = q := by omega
                rw [e2, e3] at h
                unfold Hid
                rw [List.append_assoc]
                exact h
              clear hown' hgrow hat hglt G5 hJ ho hg
              go_wp2
              go_roundw
              case rel => exact ⟨k + 1, 0, J ++ [((q : Int), c, v)], by omega, by omega, by go_num, by go_num, HO5, HJ5, HG5⟩
              case measure => simp [intOf]; omega
      · obtain rfl : k = n := by omega
        have hI2 := unhide hI
        rw [List.drop_eq_nil_of_le (by omega), runsGo] at hI2
        by_cases h0 : 0 < run
        · have hd : decide ((0 : Int) < (run : Int)) = true := decide_eq_true (by omega)
          rw [if_pos h0] at hI2
          have HI2 := hide hI2
          clear hI2 hI
          go_wp2_with (at_builtin; refine append_item rfl _ _ rfl w (.slice so I.length sc) I rfl (unhide ho) 0 0 0 rfl (by omega) (unhide hg) ?_; intro v' w2 ho2 hg2)
          rw [unhide HI2] at ho2
          have HO2 := hide ho2
          have HG2 := hide hg2
          clear ho2 hg2
          go_wp2
          go_ret
          exact ⟨_, rfl, unhide HO2, unhide HG2⟩
        · have hd : decide ((0 : Int) < (run : Int)) = false := decide_eq_false (by omega)
          rw [if_neg h0, List.append_nil] at hI2
          subst hI2
          go_wp2
          go_ret
          exact ⟨_, rfl, unhide ho, unhide hg⟩

end Go.Proofs.Ytmomfopbdpgcgab
