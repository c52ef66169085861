/-
  ScriptFor2, TabZigSpec, TabSpec, TabZigSpec2, CutSpec, FirstSpec, RunPure, RunSpec, RefSpec, SameInts.
-/
import Derived.Test.YtfgglainjaplgaaRows
import Derived.Deep.QuietTactic
import Derived.BigQuiet
import Derived.Test.YtfgglainjaplgaaMEe

namespace Go.Proofs.Ytfgglainjaplgaa
open Go.RowKit

/-- Scans are appended to a script that is being made. -/
theorem Sf.app {w wr wn : World} {fx : Array Value} {v av : Value} {X : List Scn} {A : List Int} {F : List Nat} (h : Sf w wr fx v av X A F) (gn : wr.grownBy wn none) {ops : Array Oper} {rest : List Oper} {o : Oper} {a : Act} {Q : Exit → Act → World → Prop} (hgd : o.guard = none) (s x : Operand)
    (ho : o.op = .call { callee := .builtin .append, args := #[s, x], argTypes := #[34, 34] }) (hs : a.eval s = v) (cs : Array Value) (m : Nat) (V : Nat → Nat → Value) (hcs : cs.toList = rowsK m 5 V) (M : List Scn) (hM : M.length = m) (Gs : List (List Nat)) (hGs : Gs.length = m) (hu : ∀ i (h : i < M.length), OwScE wn (V i) M[i] (Gs.getD i [])) (hG : Gs.flatten.Nodup) (hlo : ∀ x ∈ Gs.flatten, wr.heap.size ≤ x) (h1c : ∀ u ∈ cs.toList, u.oneCell' = true)
    (H : Nat) (hH : wn.heap.size = H) (hx : a.eval x = .slice (some ⟨H, 0, none⟩) m m) (hb : X.length + m ≤ 1000) (R : List Scn) (hR : X ++ M = R)
    (hK : ∀ v' w' F', Sf w w' fx v' av R A F' → wpList Try.prog ops Q rest (a.put o.dst v') w') :
    wpList Try.prog ops Q (o :: rest) a (wn.alloc (.cells cs 26)) := by
  have hn := h.new gn
  refine append_rowsG (w := wn) OwScE.ok Try.underlying34 info_scan rfl (by decide) (by decide) hgd s x ho v X F hs hn.own hn.nd cs m V hcs M hM Gs hGs hu hG (fun y hy hF => ?_) h1c H hH hx (by omega) R hR ?_
  · have h1 := hlo y hy
    have h2 := OwSs.ok.lt _ _ _ _ h.own y hF
    omega
  · intro v' w' F' o' n' m' g'
    exact hK v' w' F' (h.push (G := Gs.flatten) gn o' n' m' hlo g')

/-- A list of numbers appended to a new one. -/
theorem append_copyS {w : World} {ops : Array Oper} {rest : List Oper} {o : Oper} {a : Act} {Q : Exit → Act → World → Prop} (hgd : o.guard = none) (s x : Operand)
    (ho : o.op = .call { callee := .builtin .append, args := #[s, x], argTypes := #[24, 24] })
    (hs : a.eval s = .slice (some ⟨w.heap.size, 0, none⟩) 0 0) (ad : Addr) (n ac : Nat) (A : List Int) (hn : A.length = n) (hx : a.eval x = .slice (some ad) n ac) (hnews : ∀ j u, (A.map (Value.int .i64))[j]? = some u → (w.alloc (.cells #[] 3)).cell? (ad.add j) = some u) (hb : n ≤ 1000)
    (hK : ∀ v' w', w'.ownsRow w.heap.size 3 1 v' n (A.map (Value.int .i64)) → w.grownBy w' none → (∀ g, v'.ownBlock = some g → w.heap.size ≤ g) → wpList Try.prog ops Q rest (a.put o.dst v') w') :
    wpList Try.prog ops Q (o :: rest) a (w.alloc (.cells #[] 3)) := by
  obtain ⟨i0, hi, hz0, hz1, hz2⟩ := info_parts info_iS
  refine wpList_append_own_at _ hgd s x 24 ho w.heap.size 3 i0 _ 1 8 Try.underlying24 hi hz0 hz1 hz2 rfl (by decide) _ 0 [] hs (World.ownsRow_lit w #[] 0 (Nat.le_refl _) (by unfold maxLen; omega) rfl) ad n ac (A.map (Value.int .i64)) hx (by simp [hn]) hnews (by intro u hu; obtain ⟨y, _, rfl⟩ := List.mem_map.1 hu; rfl) (by unfold maxLen; omega) (by omega) (by simp) ?_
  intro v' w' h1 h2 _ h4
  rw [Nat.zero_add, List.nil_append] at h1
  have hga : w.grownBy w' none := by
    refine grown_new (World.grownBy_alloc w (.cells #[] 3) none) h2 (fun g e => ?_)
    have e9 : w.heap.size = g := Option.some.inj e
    omega
  exact hK v' w' h1 hga (fun g e => (h1.lt g e).1)
theorem copy_news {w : World} {g n ac base : Nat} {A : List Int} (hA : A.length = n) (h : w.ownsRow base 3 1 (.slice (some ⟨g, 0, none⟩) n ac) A.length (A.map (Value.int .i64))) : ∀ j u, (A.map (Value.int .i64))[j]? = some u → (w.alloc (.cells #[] 3)).cell? ((⟨g, 0, none⟩ : Addr).add j) = some u := by
  rw [hA] at h
  intro j u hj
  have hl : j < n := by
    have := (List.getElem?_eq_some_iff.1 hj).1
    simpa [hA] using this
  rw [Addr.add_lit, Nat.zero_add]
  refine (World.grownBy_alloc w (.cells #[] 3) none).cell ?_ (by simp)
  rw [h.cellAt j (by omega)]
  exact hj

theorem flat_len (f : Int → List Scn) (m : Nat) (hf : ∀ i, (f i).length = m) : ∀ l : List Int, (l.flatMap f).length = l.length * m
  | [] => by simp
  | a :: l => by rw [List.flatMap_cons, List.length_append, flat_len f m hf l, hf a, List.length_cons, Nat.add_mul, Nat.one_mul, Nat.add_comm]
theorem scripts_short (n : Nat) (hn : n ≤ 4) (i : Nat) (P : List Scn) (f : Int → List Scn) (hP : P.length ≤ 60) (hf : ∀ i, (f i).length ≤ 2) : (P ++ ((allC n).take i).flatMap f).length ≤ 100 := by
  have hg : ∀ l : List Int, (l.flatMap f).length ≤ l.length * 2 := fun l => by
    induction l with
    | nil => simp
    | cons a l ih =>
      have := hf a
      rw [List.flatMap_cons, List.length_append, List.length_cons]
      omega
  have h1 := hg ((allC n).take i)
  have h2 : ((allC n).take i).length ≤ 4 := by rw [List.length_take]; simp [allC]; omega
  rw [List.length_append]
  omega
theorem each_short (n : Nat) (hn : n ≤ 4) (f : Int → List Scn) (hf : ∀ i, (f i).length ≤ 2) : (eachC n f).length ≤ 8 := by
  have hg : ∀ l : List Int, (l.flatMap f).length ≤ l.length * 2 := fun l => by
    induction l with
    | nil => simp
    | cons a l ih =>
      have := hf a
      rw [List.flatMap_cons, List.length_append, List.length_cons]
      omega
  have h1 := hg (allC n)
  have h2 : (allC n).length = n := by simp [allC]
  unfold eachC
  omega
theorem scr_len1 (n : Nat) : ([] ++ [(⟨allC n, 0, 0, 0, 1⟩ : Scn)]).length ≤ 60 := by simp
theorem scr_len2 (n : Nat) (hn : n ≤ 4) : (([] ++ [(⟨allC n, 0, 0, 0, 1⟩ : Scn)]) ++ eachC n (fun i => [(⟨[i], 1, 5, 0, 2⟩ : Scn), (⟨[i], 6, 63, 0, 2⟩ : Scn)])).length ≤ 60 := by
  have := each_short n hn (fun i => [(⟨[i], 1, 5, 0, 2⟩ : Scn), (⟨[i], 6, 63, 0, 2⟩ : Scn)]) (fun _ => by simp)
  rw [List.length_append]
  have := scr_len1 n
  simp only [List.nil_append, List.length_singleton]
  omega
theorem scr_len3 (n : Nat) (hn : n ≤ 4) : ((([] ++ [(⟨allC n, 0, 0, 0, 1⟩ : Scn)]) ++ eachC n (fun i => [(⟨[i], 1, 5, 0, 2⟩ : Scn), (⟨[i], 6, 63, 0, 2⟩ : Scn)])) ++ eachC n (fun i => [(⟨[i], 1, 63, 2, 1⟩ : Scn)])).length ≤ 100 := by
  have h1 := each_short n hn (fun i => [(⟨[i], 1, 5, 0, 2⟩ : Scn), (⟨[i], 6, 63, 0, 2⟩ : Scn)]) (fun _ => by simp)
  have h2 := each_short n hn (fun i => [(⟨[i], 1, 63, 2, 1⟩ : Scn)]) (fun _ => by simp)
  rw [List.length_append, List.length_append]
  simp only [List.nil_append, List.length_singleton]
  omega
theorem scr_len4 (n : Nat) (hn : n ≤ 4) : (((([] ++ [(⟨allC n, 0, 0, 0, 1⟩ : Scn)]) ++ eachC n (fun i => [(⟨[i], 1, 5, 0, 2⟩ : Scn), (⟨[i], 6, 63, 0, 2⟩ : Scn)])) ++ eachC n (fun i => [(⟨[i], 1, 63, 2, 1⟩ : Scn)])) ++ [(⟨allC n, 0, 0, 1, 0⟩ : Scn)]).length ≤ 60 := by
  have h1 := each_short n hn (fun i => [(⟨[i], 1, 5, 0, 2⟩ : Scn), (⟨[i], 6, 63, 0, 2⟩ : Scn)]) (fun _ => by simp)
  have h2 := each_short n hn (fun i => [(⟨[i], 1, 63, 2, 1⟩ : Scn)]) (fun _ => by simp)
  rw [List.length_append, List.length_append, List.length_append]
  simp only [List.nil_append, List.length_singleton]
  omega

set_option maxRecDepth 20000 in
set_option maxHeartbeats 6400000 in
theorem specScript2 (p wd ht rs : Int) (fo : Option Addr) (n fc : Nat) (C : Nat → Nat → Int) (w : World) (hr : RdC w fo n C) (fb : Bool) (HFB : Hid (frameB p wd ht rs n C = fb)) (L : List Scn) (HL : Hid (scriptG fb n 2 = L)) :
    Calls Try.prog 10 #[.agg #[.int .i64 p, .int .i64 wd, .int .i64 ht, .int .i64 rs, .slice fo n fc], .int .i64 2] w fun e w' => ∃ u F, e = .returned u ∧ OwSs w' u L F ∧ F.Nodup ∧ (∀ g ∈ F, w.heap.size ≤ g) ∧ w.grownBy w' none := by
  have hn4 : fb = true → n ≤ 4 := fun e => by have := unhide HFB; rw [e] at this; exact (geo_of this).n4
  obtain ⟨W2, HW2⟩ : ∃ W2, Hid ((w.alloc (.cells #[.int .i64 p, .int .i64 wd, .int .i64 ht, .int .i64 rs, .slice fo n fc] 33)).alloc (.cells #[] 26) = W2) := ⟨_, rfl⟩
  have G0 : w.grownBy W2 none := by rw [← unhide HW2]; exact grown_alloc (grown_alloc (World.grownBy.refl _ _) _) _
  have B0 : W2.heap[w.heap.size]? = some (.cells #[.int .i64 p, .int .i64 wd, .int .i64 ht, .int .i64 rs, .slice fo n fc] 33 (0, 0)) := by
    rw [← unhide HW2]
    exact at_rowS (World.grownBy_alloc _ _ none) (heap_alloc_new w _) (by simp)
  have O0 : W2.ownsRow (w.heap.size + 1) 26 5 (.slice (some ⟨w.heap.size + 1, 0, none⟩) 0 0) 0 [] := by
    rw [← unhide HW2]
    have := World.ownsRow_lit (w.alloc (.cells #[.int .i64 p, .int .i64 wd, .int .i64 ht, .int .i64 rs, .slice fo n fc] 33)) (e := 26) (size := 5) (base := w.heap.size + 1) #[] 0 (by simp) (by unfold maxLen; omega) rfl
    simpa using this
  have OS : OwSs W2 (.slice (some ⟨w.heap.size + 1, 0, none⟩) 0 0) [] [w.heap.size + 1] := ⟨fun _ _ => .slice none 0 0, [], rfl, own_base O0 (Nat.zero_le _), fun i hi => absurd hi (by simp), rfl⟩
  have HFR := hide (specFrameOk p wd ht rs fo n fc C W2 (hr.grown G0) fb HFB)
  have HB0 := hide B0
  have HG0 := hide G0
  have HOS := hide OS
  rw [← unhide HW2] at B0
  obtain ⟨f0, f1, f2, f3, f4⟩ := frameCells' B0
  have HN4 := hide hn4
  clear hr G0 B0 O0 OS hn4
  go_enter Try.func10, Try.ntmps10
  go_wp2_with fail
  rw [unhide HW2]
  clear HW2 f0 f1 f2 f3 f4
  refine (unhide HFR).mono ?_
  rintro e w3 ⟨rfl, g3⟩
  have HG3 := hide (grown_trans (unhide HG0) g3)
  have HO3 := hide (OwSs.ok.keep (unhide HOS) g3)
  have HB3 := hide (at_rowS g3 (unhide HB0) (by simp))
  have HNIL : Hid (∀ W, w3.grownBy W none → L = [] → OwSs W (.slice (some ⟨w.heap.size + 1, 0, none⟩) 0 0) L [w.heap.size + 1] ∧ w.grownBy W none) := fun W g e => by subst e; exact ⟨OwSs.ok.keep (unhide HO3) g, grown_trans (unhide HG3) g⟩
  clear g3 HFR HG0 HOS HB0
  cases fb with
  | false =>
    have e : L = [] := by rw [← unhide HL]; rfl
    have HF := hide (unhide HNIL w3 (World.grownBy.refl _ _) e)
    go_wp2
    go_ret
    exact ⟨_, _, rfl, (unhide HF).1, by simp, fun g hg => by simp at hg; omega, (unhide HF).2⟩
  | true =>
    have hn := unhide HN4 rfl
    have hn1 := (geo_of (unhide HFB)).n1
    have HB : Hid (decide ((0 : Int) ≤ 2 ∧ (2 : Int) ≤ 2) = true) := rfl
    go_wp2_with fail
    refine (between 2 0 2 true HB w3).mono ?_
    rintro e w3 ⟨rfl, rfl⟩
    have HS0 : Hid (Sf w (w3.alloc (.cells #[] 3)) #[.int .i64 p, .int .i64 wd, .int .i64 ht, .int .i64 rs, .slice fo n fc] (.slice (some ⟨w.heap.size + 1, 0, none⟩) 0 0) (.slice (some ⟨w3.heap.size, 0, none⟩) 0 0) [] ((allC n).take 0) [w.heap.size + 1]) := by
      have gA : w3.grownBy (w3.alloc (.cells #[] 3)) none := World.grownBy_alloc _ _ _
      have hlt := OwSs.ok.lt _ _ _ _ (unhide HO3) (w.heap.size + 1) (by simp)
      refine ⟨OwSs.ok.keep (unhide HO3) gA, by simp, fun g hg => by simp at hg; omega, ?_, fun g e hx => ?_, at_rowS gA (unhide HB3) (by simp), grown_trans (unhide HG3) gA⟩
      · exact World.ownsRow_lit w3 #[] 0 (by omega) (by unfold maxLen; omega) rfl
      · have e9 : w3.heap.size = g := Option.some.inj e
        simp at hx; omega
    clear HNIL HG3 HO3 HB3 HFB HN4
    have c4 : (w3.alloc (.cells #[] 3)).cell? ⟨w.heap.size, 4, none⟩ = some (.slice fo n fc) := (frameCells' (unhide HS0).fr).2.2.2.2
    go_wp2
    clear c4
    go_loopw [6, 7] (fun av iv wr => ∃ (i : Nat) (ao : Option Addr) (ac : Nat) (F : List Nat), i ≤ n ∧ iv = .int .i64 i ∧ av = .slice ao i ac ∧ Hid (Sf w wr #[.int .i64 p, .int .i64 wd, .int .i64 ht, .int .i64 rs, .slice fo n fc] (.slice (some ⟨w.heap.size + 1, 0, none⟩) 0 0) (.slice ao i ac) [] ((allC n).take i) F)) (fun _ iv _ => n - (intOf iv).toNat)
    case atStart => exact ⟨0, _, _, _, Nat.zero_le _, rfl, rfl, HS0⟩
    case round =>
      clear HS0
      obtain ⟨i, ao, ac, F, hin, rfl, rfl, hS⟩ := hrel
      have c4 : wr.cell? ⟨w.heap.size, 4, none⟩ = some (.slice fo n fc) := (frameCells' (unhide hS).fr).2.2.2.2
      have hli : ((allC n).take i).length = i := by simp [allC]; omega
      by_cases hlt : i < n
      · have hd : decide ((i : Int) < (n : Int)) = true := decide_eq_true (by omega)
        obtain ⟨T, HTT⟩ : ∃ T, Hid ((allC n).take i = T) := ⟨_, rfl⟩
        obtain ⟨R, HRR⟩ : ∃ R, Hid ((allC n).take (i + 1) = R) := ⟨_, rfl⟩
        rw [unhide HTT] at hS hli
        have HLI := hide hli
        have HNX : Hid (T ++ [(i : Int)] = R) := by unfold Hid; rw [← unhide HTT, ← unhide HRR]; exact allC_next n i hlt
        have HLR : Hid (R.length = i + 1) := by unfold Hid; rw [← unhide HRR]; simp [allC]; omega
        clear hli
        go_wp2_with (at_builtin; refine append_intS rfl _ _ rfl (w.heap.size + 1) (.slice ao i ac) T rfl (unhide hS).al (i : Int) rfl (by rw [unhide HLI]; omega) (unhide hS).size R (unhide HNX) ?_)
        intro v5 w5 o5 g5 hat5
        have HS5 := hide ((unhide hS).more o5 g5 hat5)
        rw [unhide HLR] at o5
        obtain ⟨ao5, ac5, rfl⟩ := own_form o5
        rw [← unhide HRR] at HS5
        clear o5 g5 hat5 hS HLI c4 HNX HLR HTT
        go_wp2
        go_roundw
        case rel => exact ⟨i + 1, ao5, ac5, F, by omega, by go_num, rfl, HS5⟩
        case measure => simp [intOf]; omega
      · obtain rfl : n = i := by omega
        have hd : decide ((n : Int) < (n : Int)) = false := decide_eq_false (by omega)
        have hta : (allC n).take n = allC n := List.take_of_length_le (by simp [allC])
        rw [hta] at hS
        have HLA : Hid ((allC n).length = n) := by unfold Hid; simp [allC]
        clear hta hli c4
        obtain ⟨ga, eao, _, _⟩ := own_at (n := n) (by have h9 := (unhide hS).al; rw [unhide HLA] at h9; exact h9) hn1
        subst eao
        have c4 : wr.cell? ⟨w.heap.size, 4, none⟩ = some (.slice fo n fc) := (frameCells' (unhide hS).fr).2.2.2.2
        obtain ⟨X, HX⟩ : ∃ X, Hid (([] : List Scn) = X) := ⟨_, hide rfl⟩
        have HXL : Hid (X.length ≤ 100) := by unfold Hid; rw [← unhide HX]; first | exact Nat.zero_le _ | exact scr_len3 n hn
        rw [unhide HX] at hS
        go_wp2_with (first | (at_builtin; refine append_copyS (w := wr) rfl _ _ rfl rfl ⟨ga, 0, none⟩ n ac (allC n) (unhide HLA) rfl (copy_news (unhide HLA) (unhide hS).al) (by omega) ?_; intro v4 w4 o4 g4 l4; obtain ⟨co, cc, rfl⟩ := own_form o4; have G4 := hide g4; have O4 := hide o4; have L4 := hide l4; have HU : Hid (∀ j (h : j < [(⟨allC n, 0, 0, 0, 1⟩ : Scn)].length), OwScE w4 ((fun _ => five (.slice co n cc) (.int .i64 0) (.int .i64 0) (.int .i64 0) (.int .i64 1)) j) [(⟨allC n, 0, 0, 0, 1⟩ : Scn)][j] ([blk (.slice co n cc)].getD j [])) := (fun j h => by obtain rfl : j = 0 := (by simpa using h); exact ⟨⟨rfl, rfl, rfl, rfl⟩, (by show w4.ownsRow 0 _ _ _ (allC n).length _; rw [unhide HLA]; exact own_base (unhide O4) (Nat.zero_le _)), rfl⟩); clear o4 g4 l4) | (at_builtin; refine Sf.app (wn := w4) (unhide hS) (unhide G4) rfl _ _ rfl rfl #[.slice co n cc, .int .i64 0, .int .i64 0, .int .i64 0, .int .i64 1] 1 (fun _ => five (.slice co n cc) (.int .i64 0) (.int .i64 0) (.int .i64 0) (.int .i64 1)) rfl [(⟨allC n, 0, 0, 0, 1⟩ : Scn)] rfl [blk (.slice co n cc)] rfl (unhide HU) (by simp [blk_nodup]) (fun x hx => unhide L4 x (mem_blk.1 (by simpa using hx))) (by intro u hu; simp at hu; first | (rcases hu with rfl | rfl | rfl | rfl <;> rfl) | (rcases hu with rfl | rfl | rfl <;> rfl)) w4.heap.size rfl rfl (by have := unhide HXL; omega) _ rfl ?_))
        intro v5 w5 F5 S5
        obtain ⟨vo5, vc5, rfl⟩ := OwG.form S5.own
        obtain ⟨ln, HLN⟩ : ∃ ln, Hid ((X ++ [(⟨allC n, 0, 0, 0, 1⟩ : Scn)]).length = ln) := ⟨_, hide rfl⟩
        rw [unhide HLN] at S5 ⊢
        rw [← unhide HX] at S5
        have HA1 := hide S5
        clear S5 HU G4 O4 L4 HLN hS HX HXL
        clear c4
        go_wp2
        go_loopw [5, 9] (fun ov iv wr => ∃ (i : Nat) (vo : Option Addr) (vn vc : Nat) (F : List Nat), i ≤ n ∧ iv = .int .i64 i ∧ ov = .slice vo vn vc ∧ Hid (Sf w wr #[.int .i64 p, .int .i64 wd, .int .i64 ht, .int .i64 rs, .slice fo n fc] (.slice vo vn vc) (.slice (some ⟨ga, 0, none⟩) n ac) (([] ++ [(⟨allC n, 0, 0, 0, 1⟩ : Scn)]) ++ ((allC n).take i).flatMap (fun i => [(⟨[i], 1, 5, 0, 2⟩ : Scn), (⟨[i], 6, 63, 0, 2⟩ : Scn)])) (allC n) F)) (fun _ iv _ => n - (intOf iv).toNat)
        case atStart => exact ⟨0, _, _, _, _, Nat.zero_le _, rfl, rfl, by unfold Hid; rw [List.take_zero, List.flatMap_nil, List.append_nil]; exact unhide HA1⟩
        case round =>
          clear HA1
          obtain ⟨i, vo, vn, vc, F, hin, rfl, rfl, hS⟩ := hrel
          by_cases hlt : i < n
          · have hd2 : decide ((i : Int) < (n : Int)) = true := decide_eq_true (by omega)
            obtain ⟨X, HX⟩ : ∃ X, Hid (([] ++ [(⟨allC n, 0, 0, 0, 1⟩ : Scn)]) ++ ((allC n).take i).flatMap (fun i => [(⟨[i], 1, 5, 0, 2⟩ : Scn), (⟨[i], 6, 63, 0, 2⟩ : Scn)]) = X) := ⟨_, hide rfl⟩
            obtain ⟨R, HR⟩ : ∃ R, Hid (([] ++ [(⟨allC n, 0, 0, 0, 1⟩ : Scn)]) ++ ((allC n).take (i + 1)).flatMap (fun i => [(⟨[i], 1, 5, 0, 2⟩ : Scn), (⟨[i], 6, 63, 0, 2⟩ : Scn)]) = R) := ⟨_, hide rfl⟩
            have HNX : Hid (X ++ [(⟨[(i : Int)], 1, 5, 0, 2⟩ : Scn), (⟨[(i : Int)], 6, 63, 0, 2⟩ : Scn)] = R) := by
              unfold Hid
              rw [← unhide HX, ← unhide HR, List.append_assoc]
              exact congrArg _ (eachC_next n i hlt (fun i => [(⟨[i], 1, 5, 0, 2⟩ : Scn), (⟨[i], 6, 63, 0, 2⟩ : Scn)]))
            have HXL : Hid (X.length ≤ 100) := by
              unfold Hid
              rw [← unhide HX]
              exact scripts_short n hn i _ _ (by first | exact scr_len1 n | exact scr_len2 n hn | exact scr_len3 n hn | exact scr_len4 n hn) (fun _ => by simp)
            rw [unhide HX] at hS
            have HGA : Hid (wr.grownBy ((wr.alloc (.cells #[.int .i64 (i : Int)] 3)).alloc (.cells #[.int .i64 (i : Int)] 3)) none) := grown_alloc (World.grownBy_alloc _ _ _) _
            have HU : Hid (∀ j (h : j < [(⟨[(i : Int)], 1, 5, 0, 2⟩ : Scn), (⟨[(i : Int)], 6, 63, 0, 2⟩ : Scn)].length), OwScE ((wr.alloc (.cells #[.int .i64 (i : Int)] 3)).alloc (.cells #[.int .i64 (i : Int)] 3)) ((fun q => if q = 0 then five (.slice (some ⟨wr.heap.size, 0, none⟩) 1 1) (.int .i64 1) (.int .i64 5) (.int .i64 0) (.int .i64 2) else five (.slice (some ⟨wr.heap.size + 1, 0, none⟩) 1 1) (.int .i64 6) (.int .i64 63) (.int .i64 0) (.int .i64 2)) j) [(⟨[(i : Int)], 1, 5, 0, 2⟩ : Scn), (⟨[(i : Int)], 6, 63, 0, 2⟩ : Scn)][j] ([[wr.heap.size], [wr.heap.size + 1]].getD j [])) := fun j h => by
              have hj : j = 0 ∨ j = 1 := by simp at h; omega
              rcases hj with rfl | rfl
              · refine ⟨⟨rfl, rfl, rfl, rfl⟩, ?_, rfl⟩
                exact own_grown (World.ownsRow_lit wr #[.int .i64 (i : Int)] 1 (Nat.zero_le _) (by unfold maxLen; omega) rfl) (World.grownBy_alloc _ _ _)
              · refine ⟨⟨rfl, rfl, rfl, rfl⟩, ?_, rfl⟩
                have h9 := World.ownsRow_lit (e := 3) (size := 1) (base := 0) (wr.alloc (.cells #[.int .i64 (i : Int)] 3)) #[.int .i64 (i : Int)] 1 (Nat.zero_le _) (by unfold maxLen; omega) rfl
                have e9 : (wr.alloc (.cells #[.int .i64 (i : Int)] 3)).heap.size = wr.heap.size + 1 := by simp
                rw [e9] at h9
                exact h9
            go_wp2_with (at_builtin; refine Sf.app (wn := (wr.alloc (.cells #[.int .i64 (i : Int)] 3)).alloc (.cells #[.int .i64 (i : Int)] 3)) (unhide hS) (unhide HGA) rfl _ _ rfl rfl #[.slice (some ⟨wr.heap.size, 0, none⟩) 1 1, .int .i64 1, .int .i64 5, .int .i64 0, .int .i64 2, .slice (some ⟨wr.heap.size + 1, 0, none⟩) 1 1, .int .i64 6, .int .i64 63, .int .i64 0, .int .i64 2] 2 (fun q => if q = 0 then five (.slice (some ⟨wr.heap.size, 0, none⟩) 1 1) (.int .i64 1) (.int .i64 5) (.int .i64 0) (.int .i64 2) else five (.slice (some ⟨wr.heap.size + 1, 0, none⟩) 1 1) (.int .i64 6) (.int .i64 63) (.int .i64 0) (.int .i64 2)) rfl [(⟨[(i : Int)], 1, 5, 0, 2⟩ : Scn), (⟨[(i : Int)], 6, 63, 0, 2⟩ : Scn)] rfl [[wr.heap.size], [wr.heap.size + 1]] rfl (unhide HU) (by simp) (fun x hx => by simp at hx; omega) (fun u hu => List.all_eq_true.1 (show (#[.slice (some ⟨wr.heap.size, 0, none⟩) 1 1, .int .i64 1, .int .i64 5, .int .i64 0, .int .i64 2, .slice (some ⟨wr.heap.size + 1, 0, none⟩) 1 1, .int .i64 6, .int .i64 63, .int .i64 0, .int .i64 2] : Array Value).toList.all (fun u => u.oneCell') = true from rfl) u hu) (wr.heap.size + 2) (by simp) rfl (by have := unhide HXL; omega) R (unhide HNX) ?_)
            intro v5 w5 F5 S5
            obtain ⟨vo5, vc5, rfl⟩ := OwG.form S5.own
            have HS5 := hide S5
            obtain ⟨ln, HLN⟩ : ∃ ln, Hid (R.length = ln) := ⟨_, hide rfl⟩
            rw [unhide HLN] at HS5 ⊢
            rw [← unhide HR] at HS5
            clear S5 HU HGA hS HNX HXL HX HLN
            go_wp2
            go_roundw
            case rel => exact ⟨i + 1, vo5, ln, vc5, F5, by omega, by go_num, rfl, HS5⟩
            case measure => simp [intOf]; omega
          · obtain rfl : n = i := by omega
            have hd2 : decide ((n : Int) < (n : Int)) = false := decide_eq_false (by omega)
            have HA2 : Hid (Sf w wr #[.int .i64 p, .int .i64 wd, .int .i64 ht, .int .i64 rs, .slice fo n fc] (.slice vo vn vc) (.slice (some ⟨ga, 0, none⟩) n ac) (([] ++ [(⟨allC n, 0, 0, 0, 1⟩ : Scn)]) ++ eachC n (fun i => [(⟨[i], 1, 5, 0, 2⟩ : Scn), (⟨[i], 6, 63, 0, 2⟩ : Scn)])) (allC n) F) := by
              have h9 := unhide hS
              rw [List.take_of_length_le (by rw [unhide HLA]; exact Nat.le_refl _)] at h9
              exact h9
            clear hS
            go_wp2
            go_loopw [5, 10] (fun ov iv wr => ∃ (i : Nat) (vo : Option Addr) (vn vc : Nat) (F : List Nat), i ≤ n ∧ iv = .int .i64 i ∧ ov = .slice vo vn vc ∧ Hid (Sf w wr #[.int .i64 p, .int .i64 wd, .int .i64 ht, .int .i64 rs, .slice fo n fc] (.slice vo vn vc) (.slice (some ⟨ga, 0, none⟩) n ac) ((([] ++ [(⟨allC n, 0, 0, 0, 1⟩ : Scn)]) ++ eachC n (fun i => [(⟨[i], 1, 5, 0, 2⟩ : Scn), (⟨[i], 6, 63, 0, 2⟩ : Scn)])) ++ ((allC n).take i).flatMap (fun i => [(⟨[i], 1, 63, 2, 1⟩ : Scn)])) (allC n) F)) (fun _ iv _ => n - (intOf iv).toNat)
            case atStart => exact ⟨0, _, _, _, _, Nat.zero_le _, rfl, rfl, by unfold Hid; rw [List.take_zero, List.flatMap_nil, List.append_nil]; exact unhide HA2⟩
            case round =>
              clear HA2
              obtain ⟨i, vo, vn, vc, F, hin, rfl, rfl, hS⟩ := hrel
              by_cases hlt : i < n
              · have hd2 : decide ((i : Int) < (n : Int)) = true := decide_eq_true (by omega)
                obtain ⟨X, HX⟩ : ∃ X, Hid ((([] ++ [(⟨allC n, 0, 0, 0, 1⟩ : Scn)]) ++ eachC n (fun i => [(⟨[i], 1, 5, 0, 2⟩ : Scn), (⟨[i], 6, 63, 0, 2⟩ : Scn)])) ++ ((allC n).take i).flatMap (fun i => [(⟨[i], 1, 63, 2, 1⟩ : Scn)]) = X) := ⟨_, hide rfl⟩
                obtain ⟨R, HR⟩ : ∃ R, Hid ((([] ++ [(⟨allC n, 0, 0, 0, 1⟩ : Scn)]) ++ eachC n (fun i => [(⟨[i], 1, 5, 0, 2⟩ : Scn), (⟨[i], 6, 63, 0, 2⟩ : Scn)])) ++ ((allC n).take (i + 1)).flatMap (fun i => [(⟨[i], 1, 63, 2, 1⟩ : Scn)]) = R) := ⟨_, hide rfl⟩
                have HNX : Hid (X ++ [(⟨[(i : Int)], 1, 63, 2, 1⟩ : Scn)] = R) := by
                  unfold Hid
                  rw [← unhide HX, ← unhide HR, List.append_assoc]
                  exact congrArg _ (eachC_next n i hlt (fun i => [(⟨[i], 1, 63, 2, 1⟩ : Scn)]))
                have HXL : Hid (X.length ≤ 100) := by
                  unfold Hid
                  rw [← unhide HX]
                  exact scripts_short n hn i _ _ (by first | exact scr_len1 n | exact scr_len2 n hn | exact scr_len3 n hn | exact scr_len4 n hn) (fun _ => by simp)
                rw [unhide HX] at hS
                have HGA : Hid (wr.grownBy (wr.alloc (.cells #[.int .i64 (i : Int)] 3)) none) := World.grownBy_alloc _ _ _
                have HU : Hid (∀ j (h : j < [(⟨[(i : Int)], 1, 63, 2, 1⟩ : Scn)].length), OwScE (wr.alloc (.cells #[.int .i64 (i : Int)] 3)) ((fun _ => five (.slice (some ⟨wr.heap.size, 0, none⟩) 1 1) (.int .i64 1) (.int .i64 63) (.int .i64 2) (.int .i64 1)) j) [(⟨[(i : Int)], 1, 63, 2, 1⟩ : Scn)][j] ([[wr.heap.size]].getD j [])) := fun j h => by
                  obtain rfl : j = 0 := by simpa using h
                  exact ⟨⟨rfl, rfl, rfl, rfl⟩, World.ownsRow_lit wr #[.int .i64 (i : Int)] 1 (Nat.zero_le _) (by unfold maxLen; omega) rfl, rfl⟩
                go_wp2_with (at_builtin; refine Sf.app (wn := wr.alloc (.cells #[.int .i64 (i : Int)] 3)) (unhide hS) (unhide HGA) rfl _ _ rfl rfl #[.slice (some ⟨wr.heap.size, 0, none⟩) 1 1, .int .i64 1, .int .i64 63, .int .i64 2, .int .i64 1] 1 (fun _ => five (.slice (some ⟨wr.heap.size, 0, none⟩) 1 1) (.int .i64 1) (.int .i64 63) (.int .i64 2) (.int .i64 1)) rfl [(⟨[(i : Int)], 1, 63, 2, 1⟩ : Scn)] rfl [[wr.heap.size]] rfl (unhide HU) (by simp) (fun x hx => by simp at hx; omega) (fun u hu => List.all_eq_true.1 (show (#[.slice (some ⟨wr.heap.size, 0, none⟩) 1 1, .int .i64 1, .int .i64 63, .int .i64 2, .int .i64 1] : Array Value).toList.all (fun u => u.oneCell') = true from rfl) u hu) (wr.heap.size + 1) (by simp) rfl (by have := unhide HXL; omega) R (unhide HNX) ?_)
                intro v5 w5 F5 S5
                obtain ⟨vo5, vc5, rfl⟩ := OwG.form S5.own
                have HS5 := hide S5
                obtain ⟨ln, HLN⟩ : ∃ ln, Hid (R.length = ln) := ⟨_, hide rfl⟩
                rw [unhide HLN] at HS5 ⊢
                rw [← unhide HR] at HS5
                clear S5 HU HGA hS HNX HXL HX HLN
                go_wp2
                go_roundw
                case rel => exact ⟨i + 1, vo5, ln, vc5, F5, by omega, by go_num, rfl, HS5⟩
                case measure => simp [intOf]; omega
              · obtain rfl : n = i := by omega
                have hd2 : decide ((n : Int) < (n : Int)) = false := decide_eq_false (by omega)
                have HA3 : Hid (Sf w wr #[.int .i64 p, .int .i64 wd, .int .i64 ht, .int .i64 rs, .slice fo n fc] (.slice vo vn vc) (.slice (some ⟨ga, 0, none⟩) n ac) ((([] ++ [(⟨allC n, 0, 0, 0, 1⟩ : Scn)]) ++ eachC n (fun i => [(⟨[i], 1, 5, 0, 2⟩ : Scn), (⟨[i], 6, 63, 0, 2⟩ : Scn)])) ++ eachC n (fun i => [(⟨[i], 1, 63, 2, 1⟩ : Scn)])) (allC n) F) := by
                  have h9 := unhide hS
                  rw [List.take_of_length_le (by rw [unhide HLA]; exact Nat.le_refl _)] at h9
                  exact h9
                clear hS
                obtain ⟨X, HX⟩ : ∃ X, Hid (((([] ++ [(⟨allC n, 0, 0, 0, 1⟩ : Scn)]) ++ eachC n (fun i => [(⟨[i], 1, 5, 0, 2⟩ : Scn), (⟨[i], 6, 63, 0, 2⟩ : Scn)])) ++ eachC n (fun i => [(⟨[i], 1, 63, 2, 1⟩ : Scn)])) = X) := ⟨_, hide rfl⟩
                have HXL : Hid (X.length ≤ 100) := by unfold Hid; rw [← unhide HX]; first | exact Nat.zero_le _ | exact scr_len3 n hn
                rw [unhide HX] at HA3
                go_wp2_with (first | (at_builtin; refine append_copyS (w := wr) rfl _ _ rfl rfl ⟨ga, 0, none⟩ n ac (allC n) (unhide HLA) rfl (copy_news (unhide HLA) (unhide HA3).al) (by omega) ?_; intro v4 w4 o4 g4 l4; obtain ⟨co, cc, rfl⟩ := own_form o4; have G4 := hide g4; have O4 := hide o4; have L4 := hide l4; have HU : Hid (∀ j (h : j < [(⟨allC n, 0, 0, 1, 0⟩ : Scn)].length), OwScE w4 ((fun _ => five (.slice co n cc) (.int .i64 0) (.int .i64 0) (.int .i64 1) (.int .i64 0)) j) [(⟨allC n, 0, 0, 1, 0⟩ : Scn)][j] ([blk (.slice co n cc)].getD j [])) := (fun j h => by obtain rfl : j = 0 := (by simpa using h); exact ⟨⟨rfl, rfl, rfl, rfl⟩, (by show w4.ownsRow 0 _ _ _ (allC n).length _; rw [unhide HLA]; exact own_base (unhide O4) (Nat.zero_le _)), rfl⟩); clear o4 g4 l4) | (at_builtin; refine Sf.app (wn := w4) (unhide HA3) (unhide G4) rfl _ _ rfl rfl #[.slice co n cc, .int .i64 0, .int .i64 0, .int .i64 1, .int .i64 0] 1 (fun _ => five (.slice co n cc) (.int .i64 0) (.int .i64 0) (.int .i64 1) (.int .i64 0)) rfl [(⟨allC n, 0, 0, 1, 0⟩ : Scn)] rfl [blk (.slice co n cc)] rfl (unhide HU) (by simp [blk_nodup]) (fun x hx => unhide L4 x (mem_blk.1 (by simpa using hx))) (by intro u hu; simp at hu; first | (rcases hu with rfl | rfl | rfl | rfl <;> rfl) | (rcases hu with rfl | rfl | rfl <;> rfl)) w4.heap.size rfl rfl (by have := unhide HXL; omega) _ rfl ?_))
                intro v5 w5 F5 S5
                obtain ⟨vo5, vc5, rfl⟩ := OwG.form S5.own
                obtain ⟨ln, HLN⟩ : ∃ ln, Hid ((X ++ [(⟨allC n, 0, 0, 1, 0⟩ : Scn)]).length = ln) := ⟨_, hide rfl⟩
                rw [unhide HLN] at S5 ⊢
                rw [← unhide HX] at S5
                have HA4 := hide S5
                clear S5 HU G4 O4 L4 HLN HA3 HX HXL
                go_wp2
                go_loopw [5, 11] (fun ov iv wr => ∃ (i : Nat) (vo : Option Addr) (vn vc : Nat) (F : List Nat), i ≤ n ∧ iv = .int .i64 i ∧ ov = .slice vo vn vc ∧ Hid (Sf w wr #[.int .i64 p, .int .i64 wd, .int .i64 ht, .int .i64 rs, .slice fo n fc] (.slice vo vn vc) (.slice (some ⟨ga, 0, none⟩) n ac) ((((([] ++ [(⟨allC n, 0, 0, 0, 1⟩ : Scn)]) ++ eachC n (fun i => [(⟨[i], 1, 5, 0, 2⟩ : Scn), (⟨[i], 6, 63, 0, 2⟩ : Scn)])) ++ eachC n (fun i => [(⟨[i], 1, 63, 2, 1⟩ : Scn)])) ++ [(⟨allC n, 0, 0, 1, 0⟩ : Scn)]) ++ ((allC n).take i).flatMap (fun i => [(⟨[i], 1, 63, 1, 0⟩ : Scn)])) (allC n) F)) (fun _ iv _ => n - (intOf iv).toNat)
                case atStart => exact ⟨0, _, _, _, _, Nat.zero_le _, rfl, rfl, by unfold Hid; rw [List.take_zero, List.flatMap_nil, List.append_nil]; exact unhide HA4⟩
                case round =>
                  clear HA4
                  obtain ⟨i, vo, vn, vc, F, hin, rfl, rfl, hS⟩ := hrel
                  by_cases hlt : i < n
                  · have hd2 : decide ((i : Int) < (n : Int)) = true := decide_eq_true (by omega)
                    obtain ⟨X, HX⟩ : ∃ X, Hid ((((([] ++ [(⟨allC n, 0, 0, 0, 1⟩ : Scn)]) ++ eachC n (fun i => [(⟨[i], 1, 5, 0, 2⟩ : Scn), (⟨[i], 6, 63, 0, 2⟩ : Scn)])) ++ eachC n (fun i => [(⟨[i], 1, 63, 2, 1⟩ : Scn)])) ++ [(⟨allC n, 0, 0, 1, 0⟩ : Scn)]) ++ ((allC n).take i).flatMap (fun i => [(⟨[i], 1, 63, 1, 0⟩ : Scn)]) = X) := ⟨_, hide rfl⟩
                    obtain ⟨R, HR⟩ : ∃ R, Hid ((((([] ++ [(⟨allC n, 0, 0, 0, 1⟩ : Scn)]) ++ eachC n (fun i => [(⟨[i], 1, 5, 0, 2⟩ : Scn), (⟨[i], 6, 63, 0, 2⟩ : Scn)])) ++ eachC n (fun i => [(⟨[i], 1, 63, 2, 1⟩ : Scn)])) ++ [(⟨allC n, 0, 0, 1, 0⟩ : Scn)]) ++ ((allC n).take (i + 1)).flatMap (fun i => [(⟨[i], 1, 63, 1, 0⟩ : Scn)]) = R) := ⟨_, hide rfl⟩
                    have HNX : Hid (X ++ [(⟨[(i : Int)], 1, 63, 1, 0⟩ : Scn)] = R) := by
                      unfold Hid
                      rw [← unhide HX, ← unhide HR, List.append_assoc]
                      exact congrArg _ (eachC_next n i hlt (fun i => [(⟨[i], 1, 63, 1, 0⟩ : Scn)]))
                    have HXL : Hid (X.length ≤ 100) := by
                      unfold Hid
                      rw [← unhide HX]
                      exact scripts_short n hn i _ _ (by first | exact scr_len1 n | exact scr_len2 n hn | exact scr_len3 n hn | exact scr_len4 n hn) (fun _ => by simp)
                    rw [unhide HX] at hS
                    have HGA : Hid (wr.grownBy (wr.alloc (.cells #[.int .i64 (i : Int)] 3)) none) := World.grownBy_alloc _ _ _
                    have HU : Hid (∀ j (h : j < [(⟨[(i : Int)], 1, 63, 1, 0⟩ : Scn)].length), OwScE (wr.alloc (.cells #[.int .i64 (i : Int)] 3)) ((fun _ => five (.slice (some ⟨wr.heap.size, 0, none⟩) 1 1) (.int .i64 1) (.int .i64 63) (.int .i64 1) (.int .i64 0)) j) [(⟨[(i : Int)], 1, 63, 1, 0⟩ : Scn)][j] ([[wr.heap.size]].getD j [])) := fun j h => by
                      obtain rfl : j = 0 := by simpa using h
                      exact ⟨⟨rfl, rfl, rfl, rfl⟩, World.ownsRow_lit wr #[.int .i64 (i : Int)] 1 (Nat.zero_le _) (by unfold maxLen; omega) rfl, rfl⟩
                    go_wp2_with (at_builtin; refine Sf.app (wn := wr.alloc (.cells #[.int .i64 (i : Int)] 3)) (unhide hS) (unhide HGA) rfl _ _ rfl rfl #[.slice (some ⟨wr.heap.size, 0, none⟩) 1 1, .int .i64 1, .int .i64 63, .int .i64 1, .int .i64 0] 1 (fun _ => five (.slice (some ⟨wr.heap.size, 0, none⟩) 1 1) (.int .i64 1) (.int .i64 63) (.int .i64 1) (.int .i64 0)) rfl [(⟨[(i : Int)], 1, 63, 1, 0⟩ : Scn)] rfl [[wr.heap.size]] rfl (unhide HU) (by simp) (fun x hx => by simp at hx; omega) (fun u hu => List.all_eq_true.1 (show (#[.slice (some ⟨wr.heap.size, 0, none⟩) 1 1, .int .i64 1, .int .i64 63, .int .i64 1, .int .i64 0] : Array Value).toList.all (fun u => u.oneCell') = true from rfl) u hu) (wr.heap.size + 1) (by simp) rfl (by have := unhide HXL; omega) R (unhide HNX) ?_)
                    intro v5 w5 F5 S5
                    obtain ⟨vo5, vc5, rfl⟩ := OwG.form S5.own
                    have HS5 := hide S5
                    obtain ⟨ln, HLN⟩ : ∃ ln, Hid (R.length = ln) := ⟨_, hide rfl⟩
                    rw [unhide HLN] at HS5 ⊢
                    rw [← unhide HR] at HS5
                    clear S5 HU HGA hS HNX HXL HX HLN
                    go_wp2
                    go_roundw
                    case rel => exact ⟨i + 1, vo5, ln, vc5, F5, by omega, by go_num, rfl, HS5⟩
                    case measure => simp [intOf]; omega
                  · obtain rfl : n = i := by omega
                    have hd2 : decide ((n : Int) < (n : Int)) = false := decide_eq_false (by omega)
                    have HA5 : Hid (Sf w wr #[.int .i64 p, .int .i64 wd, .int .i64 ht, .int .i64 rs, .slice fo n fc] (.slice vo vn vc) (.slice (some ⟨ga, 0, none⟩) n ac) ((((([] ++ [(⟨allC n, 0, 0, 0, 1⟩ : Scn)]) ++ eachC n (fun i => [(⟨[i], 1, 5, 0, 2⟩ : Scn), (⟨[i], 6, 63, 0, 2⟩ : Scn)])) ++ eachC n (fun i => [(⟨[i], 1, 63, 2, 1⟩ : Scn)])) ++ [(⟨allC n, 0, 0, 1, 0⟩ : Scn)]) ++ eachC n (fun i => [(⟨[i], 1, 63, 1, 0⟩ : Scn)])) (allC n) F) := by
                      have h9 := unhide hS
                      rw [List.take_of_length_le (by rw [unhide HLA]; exact Nat.le_refl _)] at h9
                      exact h9
                    clear hS
                    have HF : Hid (OwSs wr (.slice vo vn vc) L F ∧ F.Nodup ∧ (∀ g ∈ F, w.heap.size ≤ g) ∧ w.grownBy wr none) := by
                      have eL : ((((([] ++ [(⟨allC n, 0, 0, 0, 1⟩ : Scn)]) ++ eachC n (fun i => [(⟨[i], 1, 5, 0, 2⟩ : Scn), (⟨[i], 6, 63, 0, 2⟩ : Scn)])) ++ eachC n (fun i => [(⟨[i], 1, 63, 2, 1⟩ : Scn)])) ++ [(⟨allC n, 0, 0, 1, 0⟩ : Scn)]) ++ eachC n (fun i => [(⟨[i], 1, 63, 1, 0⟩ : Scn)])) = L := by rw [← unhide HL]; rfl
                      rw [← eL]
                      exact ⟨(unhide HA5).own, (unhide HA5).nd, fun g hg => by have := (unhide HA5).lo g hg; omega, (unhide HA5).grown⟩
                    clear HA5
                    go_wp2
                    go_ret
                    exact ⟨_, F, rfl, unhide HF⟩

theorem specScriptFor (p wd ht rs : Int) (fo : Option Addr) (n fc : Nat) (C : Nat → Nat → Int) (w : World) (hr : RdC w fo n C) (kind : Int) (fb : Bool) (HFB : Hid (frameB p wd ht rs n C = fb)) (L : List Scn) (HL : Hid (scriptG fb n kind = L)) :
    Calls Try.prog 10 #[.agg #[.int .i64 p, .int .i64 wd, .int .i64 ht, .int .i64 rs, .slice fo n fc], .int .i64 kind] w fun e w' => ∃ u F, e = .returned u ∧ OwSs w' u L F ∧ F.Nodup ∧ (∀ g ∈ F, w.heap.size ≤ g) ∧ w.grownBy w' none := by
  by_cases h : kind = 2
  · subst h
    exact specScript2 p wd ht rs fo n fc C w hr fb HFB L HL
  · exact specScript01 p wd ht rs fo n fc C w hr kind fb HFB L HL h

end Go.Proofs.Ytfgglainjaplgaa

namespace Go.Proofs.Ytfgglainjaplgaa
open Go.RowKit

/-- How many of a slanting line come ahead of step k. -/
def ahead (s k : Nat) : Nat := lineAt s + (min k 8 - (s - 7))
theorem ahead_zero (s : Nat) : ahead s 0 = lineAt s := by simp [ahead]
theorem ahead_end (s : Nat) : ahead s (s + 1) = lineAt (s + 1) := by simp only [ahead, lineAt]; omega
theorem ahead_le : ∀ s, s < 15 → ∀ k, k < s + 1 → k < 8 → s - k < 8 → ahead s k < 64 := by decide
theorem ahead_in (s k : Nat) (h1 : k < 8) (h2 : s - k < 8) (hk : k ≤ s) : ahead s (k + 1) = ahead s k + 1 := by simp only [ahead]; omega
theorem ahead_out (s k : Nat) (hk : k ≤ s) (h : ¬ (k < 8 ∧ s - k < 8)) : ahead s (k + 1) = ahead s k := by simp only [ahead]; omega
theorem ahead_up : ∀ s, s < 15 → ∀ k, k < s + 1 → k < 8 → s - k < 8 → s % 2 = 0 → zzN.getD (ahead s k) 0 = 8 * (s - k) + s - (s - k) := by decide
theorem ahead_down : ∀ s, s < 15 → ∀ k, k < s + 1 → k < 8 → s - k < 8 → s % 2 = 1 → zzN.getD (ahead s k) 0 = 8 * k + s - k := by decide
theorem zz_take (k : Nat) (h : k < 64) (z : Int) (hz : z = zzF k) : zzL.take k ++ [z] = zzL.take (k + 1) := by
  subst hz
  rw [List.take_add_one]
  have : zzL[k]? = some (zzF k) := by
    rw [List.getElem?_eq_getElem (by rw [zz_len]; exact h)]
    simp [zzF, List.getD_eq_getElem?_getD, List.getElem?_eq_getElem (show k < zzL.length by rw [zz_len]; exact h)]
  rw [this]
  rfl

set_option maxRecDepth 20000 in
set_option maxHeartbeats 1600000 in
theorem specZigZag (w : World) :
    Calls Try.prog 45 #[] w fun e w' => ∃ so sc, e = .returned (.slice so zzL.length sc) ∧ w'.ownsRow w.heap.size 3 1 (.slice so zzL.length sc) zzL.length (zzL.map (Value.int .i64)) ∧ w.grownBy w' none := by
  have hown0 : (w.alloc (.cells #[] 3)).ownsRow w.heap.size 3 1 (.slice (some ⟨w.heap.size, 0, none⟩) 0 0) 0 [] := World.ownsRow_lit w #[] 0 (Nat.le_refl _) (by unfold maxLen; omega) rfl
  have HO := hide hown0
  clear hown0
  go_enter Try.func45, Try.ntmps45
  go_wp2
  go_loopw [1, 2] (fun o i wr => ∃ s : Nat, s ≤ 15 ∧ i = .int .i64 s ∧ Hid (wr.ownsRow w.heap.size 3 1 o (lineAt s) ((zzL.take (lineAt s)).map (Value.int .i64))) ∧ Hid (w.grownBy wr none)) (fun _ i _ => 15 - (intOf i).toNat)
  case atStart => exact ⟨0, Nat.zero_le _, rfl, unhide HO, World.grownBy_alloc _ _ _⟩
  case round =>
    obtain ⟨s, hs, rfl, hM, hgk⟩ := hrel
    obtain ⟨so, sc, rfl⟩ := own_form (unhide hM)
    by_cases hlt : s < 15
    · have HM := hide (unhide hM)
      clear hM
      have hd : decide ((s : Int) < 15) = true := by simp; omega
      go_wp2
      go_loopw [1, 3] (fun o i wr => ∃ k : Nat, k ≤ s + 1 ∧ i = .int .i64 k ∧ Hid (wr.ownsRow w.heap.size 3 1 o (ahead s k) ((zzL.take (ahead s k)).map (Value.int .i64))) ∧ Hid (w.grownBy wr none)) (fun _ i _ => 64 - (intOf i).toNat)
      case atStart => exact ⟨0, Nat.zero_le _, rfl, by unfold Hid; rw [ahead_zero]; exact unhide HM, hgk⟩
      case round =>
        obtain ⟨k, hk, rfl, hMk, hgk2⟩ := hrel
        obtain ⟨so2, sc2, rfl⟩ := own_form (unhide hMk)
        by_cases hltk : k < s + 1
        · have HMK := hide (unhide hMk)
          clear hMk
          by_cases hin : k < 8 ∧ s - k < 8
          · obtain ⟨h1, h2⟩ := hin
            have hin : ahead s (k + 1) = ahead s k + 1 := ahead_in s k h1 h2 (by omega)
            have HIN := hide hin
            clear hin
            have HLT := hide (ahead_le s hlt k hltk h1 h2)
            by_cases hev : s % 2 = 0
            · have HZ := hide ((zzF_eq (ahead s k)).trans (congrArg Int.ofNat (ahead_up s hlt k hltk h1 h2 hev)))
              go_wp2_with (at_builtin; refine append_int rfl _ _ rfl w _ (ahead s k) (zzL.take (ahead s k)) rfl (unhide HMK) _ rfl (by have := unhide HLT; omega) (unhide hgk2) ?_; intro v' w' ho hg)
              go_roundw
              case rel =>
                refine ⟨k + 1, by omega, by go_num, ?_, hg⟩
                rw [zz_take _ (unhide HLT) _ (by rw [unhide HZ]; show _ = ((_ : Nat) : Int); omega)] at ho
                unfold Hid; rw [unhide HIN]; exact ho
              case measure => simp [intOf]; omega
            · have HZ := hide ((zzF_eq (ahead s k)).trans (congrArg Int.ofNat (ahead_down s hlt k hltk h1 h2 (by omega))))
              go_wp2_with (at_builtin; refine append_int rfl _ _ rfl w _ (ahead s k) (zzL.take (ahead s k)) rfl (unhide HMK) _ rfl (by have := unhide HLT; omega) (unhide hgk2) ?_; intro v' w' ho hg)
              go_roundw
              case rel =>
                refine ⟨k + 1, by omega, by go_num, ?_, hg⟩
                rw [zz_take _ (unhide HLT) _ (by rw [unhide HZ]; show _ = ((_ : Nat) : Int); omega)] at ho
                unfold Hid; rw [unhide HIN]; exact ho
              case measure => simp [intOf]; omega
          · have HOUT := hide (ahead_out s k (by omega) hin)
            by_cases hev : s % 2 = 0
            · by_cases h1 : s - k < 8
              · have h2 : ¬ k < 8 := fun e => hin ⟨e, h1⟩
                go_wp2
                go_roundw
                case rel => exact ⟨k + 1, by omega, by go_num, by unfold Hid; rw [unhide HOUT]; exact unhide HMK, hgk2⟩
                case measure => simp [intOf]; omega
              · go_wp2
                go_roundw
                case rel => exact ⟨k + 1, by omega, by go_num, by unfold Hid; rw [unhide HOUT]; exact unhide HMK, hgk2⟩
                case measure => simp [intOf]; omega
            · by_cases h1 : k < 8
              · have h2 : ¬ s - k < 8 := fun e => hin ⟨h1, e⟩
                go_wp2
                go_roundw
                case rel => exact ⟨k + 1, by omega, by go_num, by unfold Hid; rw [unhide HOUT]; exact unhide HMK, hgk2⟩
                case measure => simp [intOf]; omega
              · go_wp2
                go_roundw
                case rel => exact ⟨k + 1, by omega, by go_num, by unfold Hid; rw [unhide HOUT]; exact unhide HMK, hgk2⟩
                case measure => simp [intOf]; omega
        · obtain rfl : k = s + 1 := by omega
          have HE := hide (ahead_end s)
          go_wp2
          go_roundw
          case rel => exact ⟨s + 1, by omega, by go_num, by unfold Hid; rw [← unhide HE]; exact unhide hMk, hgk2⟩
          case measure => simp [intOf]; omega
    · obtain rfl : s = 15 := by omega
      have hM := unhide hM
      rw [line_end, List.take_of_length_le (by rw [zz_len]; omega)] at hM
      have HM := hide hM
      clear hM
      go_wp2
      go_ret
      exact ⟨_, _, rfl, unhide HM, unhide hgk⟩

end Go.Proofs.Ytfgglainjaplgaa

namespace Go.Proofs.Ytfgglainjaplgaa
open Go.RowKit

theorem nums_all {lo hi : Int} {zs : List Int} (hz : zs.length = 64) (h : ∀ j, j < 64 → lo ≤ zs.getD j 0 ∧ zs.getD j 0 ≤ hi) : numsB lo hi zs = true := by
  simp only [numsB, hz, decide_true, Bool.true_and, List.all_eq_true, decide_eq_true_eq]
  intro n hn
  obtain ⟨i, hi', rfl⟩ := List.getElem_of_mem hn
  have h2 : zs.getD i 0 = zs[i] := by simp [hi']
  rw [← h2]
  exact h i (by omega)
theorem nums_at {lo hi : Int} {zs : List Int} (h : numsB lo hi zs = true) : zs.length = 64 ∧ ∀ j, j < 64 → lo ≤ zs.getD j 0 ∧ zs.getD j 0 ≤ hi := by
  simp only [numsB, Bool.and_eq_true, decide_eq_true_eq, List.all_eq_true] at h
  refine ⟨h.1, fun j hj => ?_⟩
  have hj' : j < zs.length := by omega
  have h2 : zs.getD j 0 = zs[j] := by simp [hj']
  rw [h2]
  exact h.2 _ (List.getElem_mem hj')

set_option maxHeartbeats 800000 in
theorem specNums (ao : Option Addr) (n cap : Nat) (zs : List Int) (lo hi : Int) (w : World) (hr : Rd .i64 w ao n zs) (b : Bool) (hb : Hid (numsB lo hi zs = b)) :
    Calls Try.prog 54 #[.slice ao n cap, .int .i64 lo, .int .i64 hi] w fun e w' => e = .returned (.bool b) ∧ w.grownBy w' none := by
  by_cases h : n = 64
  · subst h
    have HR := hide hr
    have HZ := hide hr.1
    clear hr
    go_enter Try.func54, Try.ntmps54
    go_wp2
    go_loopw [7] (fun i wr => ∃ k : Nat, k ≤ 64 ∧ i = .int .i64 k ∧ (Hid (∀ j, j < k → lo ≤ zs.getD j 0 ∧ zs.getD j 0 ≤ hi)) ∧ w.grownBy wr none) (fun i _ => 64 - (intOf i).toNat)
    case atStart => exact ⟨0, Nat.zero_le _, rfl, fun j hj => absurd hj (by omega), World.grownBy.refl _ _⟩
    case round =>
      obtain ⟨k, hk, rfl, HK, hgk⟩ := hrel
      by_cases hlt : k < 64
      · obtain ⟨bb, off, rfl, hc⟩ := (unhide HR).2 k hlt
        have hcell := hgk.cell hc (by simp)
        obtain ⟨t, HT⟩ : ∃ t, Hid (decide (lo ≤ zs.getD k 0 ∧ zs.getD k 0 ≤ hi) = t) := ⟨_, rfl⟩
        clear hc
        obtain ⟨z, HX⟩ : ∃ z, Hid (zs.getD k 0 = z) := ⟨_, rfl⟩
        rw [unhide HX] at hcell HT
        go_wp2_with fail
        refine (between z lo hi t HT wr).mono ?_
        rintro e w2 ⟨rfl, rfl⟩
        cases t with
        | true =>
          go_wp2
          go_roundw
          case rel =>
            refine ⟨k + 1, by omega, by go_num, fun j hj => ?_, hgk⟩
            by_cases e : j = k
            · subst e; rw [unhide HX]; have := unhide HT; simpa using this
            · exact unhide HK j (by omega)
          case measure => simp [intOf]; omega
        | false =>
          have hf : b = false := by
            cases hbb : b with
            | false => rfl
            | true =>
              have h1 := (nums_at ((unhide hb).trans hbb)).2 k hlt
              rw [unhide HX] at h1
              have := unhide HT
              simp at this
              omega
          subst hf
          go_wp2
          go_ret
          exact ⟨rfl, hgk⟩
      · obtain rfl : k = 64 := by omega
        have ht : b = true := by rw [← unhide hb]; exact nums_all (unhide HZ) (unhide HK)
        subst ht
        go_wp2
        go_ret
        exact ⟨rfl, hgk⟩
  · have hb' : b = false := by rw [← unhide hb]; simp [numsB, hr.1, h]
    subst hb'
    have hne : ((n : Int) != 64) = true := by simp; omega
    clear hr hb
    go_enter Try.func54, Try.ntmps54
    go_wp2
    go_ret
    exact ⟨rfl, World.grownBy.refl _ _⟩

set_option maxHeartbeats 400000 in
theorem specBlockOk (ao : Option Addr) (n cap : Nat) (zs : List Int) (w : World) (hr : Rd .i64 w ao n zs) (b : Bool) (hb : Hid (numsB (-32767) 32767 zs = b)) :
    Calls Try.prog 44 #[.slice ao n cap] w fun e w' => e = .returned (.bool b) ∧ w.grownBy w' none := by
  have HR := hide hr
  clear hr
  go_enter Try.func44, Try.ntmps44
  go_wp2_with fail
  refine (specNums ao n cap zs _ _ _ (unhide HR) b hb).mono ?_
  rintro e w1 ⟨rfl, g⟩
  go_wp2
  go_ret
  exact ⟨rfl, g⟩

end Go.Proofs.Ytfgglainjaplgaa

namespace Go.Proofs.Ytfgglainjaplgaa
open Go.RowKit

theorem unz_setL (zs : List Int) (k : Nat) (h : k < 64) : ((unzTo zs k).map (Value.int .i64)).set (zz k) (.int .i64 (zs.getD k 0)) = (unzTo zs (k + 1)).map (Value.int .i64) := by
  have e := congrArg Array.toList (unz_set zs k h)
  simpa [sq] using e

set_option maxRecDepth 20000 in
set_option maxHeartbeats 1600000 in
theorem specToZig (ao : Option Addr) (n cap : Nat) (zs : List Int) (w : World) (hr : Rd .i64 w ao n zs) (b : Bool) (hb : Hid (numsB (-32767) 32767 zs = b)) (L : List Int) (HL : Hid ((if b then zigged zs else []) = L)) :
    Calls Try.prog 20 #[.slice ao n cap] w fun e w' => ∃ so sc, e = .returned (.slice so L.length sc) ∧ w'.ownsRow w.heap.size 3 1 (.slice so L.length sc) L.length (L.map (Value.int .i64)) ∧ w.grownBy w' none := by
  have HO : Hid ((w.alloc (.cells #[] 3)).ownsRow w.heap.size 3 1 (.slice (some ⟨w.heap.size, 0, none⟩) 0 0) 0 []) := World.ownsRow_lit w #[] 0 (Nat.le_refl _) (by unfold maxLen; omega) rfl
  have HR := hide (hr.grown (World.grownBy_alloc w (.cells #[] 3) none))
  have HN := hide hr.1
  have HLW := hide hr.lt
  clear hr
  go_enter Try.func20, Try.ntmps20
  go_wp2_with fail
  refine (specBlockOk ao n cap zs _ (unhide HR) b hb).mono ?_
  rintro e w1 ⟨rfl, g1⟩
  have HG1 : Hid (w.grownBy w1 none) := grown_trans (World.grownBy_alloc _ _ _) g1
  have HO1 := hide (own_grown (unhide HO) g1)
  have HR1 := hide ((unhide HR).grown g1)
  clear g1 HO HR
  cases b with
  | false =>
    have e : L = [] := (unhide HL).symm
    subst e
    go_wp2
    go_ret
    exact ⟨_, _, rfl, unhide HO1, unhide HG1⟩
  | true =>
    have hz := (nums_at (unhide hb)).1
    have hn : n = 64 := by rw [← unhide HN]; exact hz
    subst hn
    have e : L = zigged zs := (unhide HL).symm
    subst e
    clear HL hb
    have HZ := hide hz
    clear hz
    go_wp2_with fail
    refine (specZigZag w1).mono ?_
    rintro e w2 ⟨zo, zc, rfl, oz, g2⟩
    have hs1 : w.heap.size < w1.heap.size := by have := (unhide HO1).lt w.heap.size rfl; omega
    have HZL : Hid (∀ b off, zo = some ⟨b, off, none⟩ → b ≠ w.heap.size) := by
      intro b off e
      subst e
      have h := (oz.lt b (by simp [Value.ownBlock])).1
      omega
    have HRL : Hid (∀ b off, ao = some ⟨b, off, none⟩ → b ≠ w.heap.size) := by
      intro b off e
      exact Nat.ne_of_lt (unhide HLW (by omega) b off e)
    have HZZ := hide (own_rd oz)
    have HO2 : Hid (OutI w w2 w.heap.size w2 (.slice (some ⟨w.heap.size, 0, none⟩) 0 0) 0 []) := ⟨own_grown (unhide HO1) g2, grown_trans (unhide HG1) g2, World.grownBy.refl _ _, fun g e => by simp [Value.ownBlock] at e; left; exact e.symm⟩
    have HR2 := hide ((unhide HR1).grown g2)
    clear oz g2 HO1 HR1 HG1 hs1
    go_wp2
    go_loopw [3, 5] (fun o i wr => ∃ k : Nat, k ≤ 64 ∧ i = .int .i64 k ∧ Hid (OutI w w2 w.heap.size wr o k ((zigged zs).take k))) (fun _ i _ => 64 - (intOf i).toNat)
    case atStart => exact ⟨0, Nat.zero_le _, rfl, HO2⟩
    case round =>
      obtain ⟨k, hk, rfl, hM⟩ := hrel
      obtain ⟨so2, sc2, rfl⟩ := own_form (unhide hM).own
      by_cases hlt : k < 64
      · obtain ⟨p, hp⟩ : ∃ p, zz k = p := ⟨_, rfl⟩
        have hp64 : p < 64 := by rw [← hp]; exact zz_lt k hlt
        obtain ⟨zb, zoff, rfl, hzc⟩ := (unhide HZZ).2 k (by rw [zz_len]; exact hlt)
        have ez : zzL.getD k 0 = (p : Int) := by rw [← hp]; exact zzF_eq k
        rw [ez] at hzc
        have hzc2 := (unhide hM).kept.cell hzc (fun e => unhide HZL zb zoff rfl (by simpa using e))
        obtain ⟨ab, aoff, rfl, hac⟩ := (unhide HR2).2 p hp64
        have hac2 := (unhide hM).kept.cell hac (fun e => unhide HRL ab aoff rfl (by simpa using e))
        have HV : Hid (zs.getD p 0 = (fun k => zs.getD (zz k) 0) k) := by unfold Hid; rw [← hp]
        have hzl : (zzL.length : Int) = 64 := by rw [zz_len]; rfl
        generalize zs.getD p 0 = z at hac2 HV
        clear hac hzc ez hp
        go_wp2_with (at_builtin; refine append_out rfl _ _ rfl w w2 w.heap.size _ k ((zigged zs).take k) rfl (unhide hM) _ rfl (by omega) ?_; intro v' w' ho)
        go_roundw
        case rel =>
          refine ⟨k + 1, by omega, by go_num, ?_⟩
          unfold zigged at ho
          rw [made_take _ k hlt _ (unhide HV)] at ho
          exact ho
        case measure => simp [intOf]; omega
      · obtain rfl : k = 64 := by omega
        have hM := unhide hM
        have e64 : (zigged zs).length = 64 := made_len _
        unfold zigged at hM
        rw [made_take_all] at hM
        have HM : Hid (OutI w w2 w.heap.size wr (.slice so2 64 sc2) 64 (zigged zs)) := hM
        have HE := hide e64
        clear hM e64
        go_wp2
        go_ret
        exact ⟨so2, sc2, by rw [unhide HE]; rfl, by rw [unhide HE]; exact (unhide HM).own, (unhide HM).base⟩

set_option maxRecDepth 20000 in
set_option maxHeartbeats 1600000 in
theorem specFromZig (ao : Option Addr) (n cap : Nat) (zs : List Int) (w : World) (hr : Rd .i64 w ao n zs) (b : Bool) (hb : Hid (numsB (-32767) 32767 zs = b)) (L : List Int) (HL : Hid ((if b then unzigged zs else []) = L)) :
    Calls Try.prog 47 #[.slice ao n cap] w fun e w' => ∃ so sc, e = .returned (.slice so L.length sc) ∧ w'.ownsRow w.heap.size 3 1 (.slice so L.length sc) L.length (L.map (Value.int .i64)) ∧ w.grownBy w' none := by
  obtain ⟨i0, hi, hz0, hz1, hz2⟩ := info_parts Try.info3
  have HR := hide hr
  have HN := hide hr.1
  have HLW := hide hr.lt
  clear hr
  go_enter Try.func47, Try.ntmps47
  go_wp2_with fail
  refine (specBlockOk ao n cap zs _ (unhide HR) b hb).mono ?_
  rintro e w1 ⟨rfl, g1⟩
  have HG1 := hide g1
  have HR1 := hide ((unhide HR).grown g1)
  clear g1 HR
  cases b with
  | false =>
    have e : L = [] := (unhide HL).symm
    subst e
    go_wp2
    go_ret
    exact ⟨_, _, rfl, own_base (World.ownsRow_lit w1 #[] 0 (Nat.le_refl _) (by unfold maxLen; omega) rfl) (unhide HG1).size, grown_alloc (unhide HG1) _⟩
  | true =>
    have hz := (nums_at (unhide hb)).1
    have hn : n = 64 := by rw [← unhide HN]; exact hz
    subst hn
    have e : L = unzigged zs := (unhide HL).symm
    subst e
    clear HL hb
    have HZ := hide hz
    clear hz
    go_wp2_with (at_make; refine wpList_make_full _ rfl _ _ 24 rfl w1.heap.size 3 i0 (.int .i64 0) 1 Try.underlying24 hi hz0 hz1 .i64 .i64 _ _ 64 rfl rfl rfl rfl (by rw [hz2]; omega) (by unfold maxLen; omega) (Nat.le_refl _) ?_)
    intro w2 hown hgrow
    have hown0 : w2.ownsRow w1.heap.size 3 1 (.slice (some ⟨w1.heap.size, 0, none⟩) 64 64) 64 ((unzTo zs 0).map (Value.int .i64)) := by
      rw [unz_zero]
      have e : (madeCells #[Value.int .i64 0] 64).toList = zs64.map (Value.int .i64) := by rw [toList_madeCells_one]; simp [zs64]
      rw [← e]; exact hown
    have HO2 := hide hown0
    have HG2 := hide (grown_trans (unhide HG1) hgrow)
    have HR2 := hide ((unhide HR1).grown hgrow)
    clear hown hown0 hgrow HR1 hi hz0 hz1 hz2
    go_wp2_with fail
    refine (specZigZag w2).mono ?_
    rintro e w3 ⟨zo, zc, rfl, oz, g3⟩
    have HZZ := hide (own_rd oz)
    have HZL : Hid (∀ b off, zo = some ⟨b, off, none⟩ → b ≠ w1.heap.size) := by
      intro b off e
      subst e
      have h := (oz.lt b (by simp [Value.ownBlock])).1
      have h2 := ((unhide HO2).lt w1.heap.size rfl).2
      omega
    have HRL : Hid (∀ b off, ao = some ⟨b, off, none⟩ → b ≠ w1.heap.size) := by
      intro b off e
      have h := unhide HLW (by omega) b off e
      have := (unhide HG1).size
      omega
    have HO3 := hide (own_grown (unhide HO2) g3)
    have HR3 := hide ((unhide HR2).grown g3)
    have HG3 := hide (grown_trans (unhide HG2) g3)
    clear oz g3 HO2 HR2 HG2
    go_wp2
    go_loopw [5] (fun i wr => ∃ k : Nat, k ≤ 64 ∧ i = .int .i64 k ∧ Hid (wr.ownsRow w1.heap.size 3 1 (.slice (some ⟨w1.heap.size, 0, none⟩) 64 64) 64 ((unzTo zs k).map (Value.int .i64))) ∧ Hid (w3.grownBy wr (some w1.heap.size))) (fun i _ => 64 - (intOf i).toNat)
    case atStart => exact ⟨0, Nat.zero_le _, rfl, HO3, World.grownBy.refl _ _⟩
    case round =>
      obtain ⟨k, hk, rfl, hM, hgk⟩ := hrel
      by_cases hlt : k < 64
      · obtain ⟨p, hp⟩ : ∃ p, zz k = p := ⟨_, rfl⟩
        have hp64 : p < 64 := by rw [← hp]; exact zz_lt k hlt
        obtain ⟨zb, zoff, rfl, hzc⟩ := (unhide HZZ).2 k (by rw [zz_len]; exact hlt)
        have ez : zzL.getD k 0 = (p : Int) := by rw [← hp]; exact zzF_eq k
        rw [ez] at hzc
        have hzc2 := (unhide hgk).cell hzc (fun e => unhide HZL zb zoff rfl (by simpa using e))
        obtain ⟨ab, aoff, rfl, hac⟩ := (unhide HR3).2 k hlt
        have hac2 := (unhide hgk).cell hac (fun e => unhide HRL ab aoff rfl (by simpa using e))
        have hzl : (zzL.length : Int) = 64 := by rw [zz_len]; rfl
        have hold : ∃ u, wr.cell? ⟨w1.heap.size, p, none⟩ = some u := by rw [(unhide hM).cellAt p (by omega)]; exact ⟨_, List.getElem?_eq_getElem (by rw [(unhide hM).1]; omega)⟩
        obtain ⟨u, hu⟩ := hold
        have hfr := (unhide hM).frozenAt p
        have HST : Hid ((wr.setCell ⟨w1.heap.size, p, none⟩ (.int .i64 (zs.getD k 0))).drew.ownsRow w1.heap.size 3 1 (.slice (some ⟨w1.heap.size, 0, none⟩) 64 64) 64 ((unzTo zs (k + 1)).map (Value.int .i64)) ∧ w3.grownBy (wr.setCell ⟨w1.heap.size, p, none⟩ (.int .i64 (zs.getD k 0))).drew (some w1.heap.size)) := by
          have st := (unhide hM).stored p (.int .i64 (zs.getD k 0))
          rw [← hp, unz_setL zs k hlt] at st
          rw [← hp]
          exact ⟨st.1, grown_drew (grown_trans (unhide hgk) st.2)⟩
        generalize zs.getD k 0 = z at hac2 HST
        clear ez hp hac hzc
        have hpI : (p : Int) < 64 := by omega
        have HZN : Hid (zb ≠ w1.heap.size) := unhide HZL zb zoff rfl
        have HAN : Hid (ab ≠ w1.heap.size) := unhide HRL ab aoff rfl
        go_wp2
        refine wp_region_noPanic ?_
        refine wp_region_tail (fun w' => w'.cell? ⟨zb, zoff + k, none⟩ = some (.int .i64 (p : Int)) ∧ w'.cell? ⟨ab, aoff + k, none⟩ = some (.int .i64 z)) [true, true, true, true, true, true, true, true, true, false, false] (by kernel_rfl) (fun _ _ _ _ _ h => h) rfl (by kernel_rfl) ⟨hzc2, hac2⟩ ?_
        iterate 9
          refine heldF_take (v := ?_) (Or.inl ⟨by rfl, ?_⟩) ?_
          rotate_left 1
          · intro w' hSw
            try dsimp only at hSw
            go_simp
            try with_reducible rfl
          simp only [Act.put, List.setIfInBounds_toArray, List.set_cons_zero, List.set_cons_succ]
        refine heldF_skip (heldF_skip (heldF_nil ?_))
        iterate 9 refine tailF_skip ?_
        refine tailF_step (fun K hK => ?_)
        go_simp
        refine hK.out _ _ ⟨hzc2, hac2⟩ ?_
        clear hK K
        refine tailF_step (fun K hK => ?_)
        go_simp
        refine hK.out _ _ ⟨(World.cell?_setCell_far _ _ _ _ (fun e => unhide HZN e.symm)).trans hzc2, (World.cell?_setCell_far _ _ _ _ (fun e => unhide HAN e.symm)).trans hac2⟩ ?_
        clear hK K
        refine tailF_nil (NoPanic.normal ?_)
        go_wp2
        go_roundw
        case rel => exact ⟨k + 1, by omega, by go_num, (unhide HST).1, (unhide HST).2⟩
        case measure => simp [intOf]; omega
      · obtain rfl : k = 64 := by omega
        have hM := unhide hM
        rw [unz_all] at hM
        have HM := hide hM
        have HE : Hid ((unzigged zs).length = 64) := made_len _
        clear hM
        go_wp2
        go_ret
        exact ⟨_, _, by rw [unhide HE]; rfl, by rw [unhide HE]; exact own_base (unhide HM) (unhide HG1).size, grown_new (unhide HG3) (unhide hgk) (fun g e => by simp at e; have := (unhide HG1).size; omega)⟩

end Go.Proofs.Ytfgglainjaplgaa

namespace Go.Proofs.Ytfgglainjaplgaa
open Go.RowKit

set_option maxHeartbeats 800000 in
theorem specCut (n : Int) (lo : Nat) (hn : -32767 ≤ n ∧ n ≤ 32767) (hlo : lo ≤ 62) (w : World) :
    Calls Try.prog 40 #[.int .i64 n, .int .i64 lo] w fun e w' => e = .returned (.int .i64 (cutI n lo)) ∧ w = w' := by
  have hp := pow2_pos lo
  have key : ∀ a : Int, 0 ≤ a → 0 ≤ a / 2 ^ lo ∧ a / 2 ^ lo ≤ a := fun a ha => ⟨Int.ediv_nonneg ha (Int.le_of_lt hp), Int.ediv_le_self _ ha⟩
  have l0 : (0 : Int) ≤ (lo : Int) := by omega
  have l1 : ¬ ((lo : Int) < 0) := by omega
  have l2 : (lo : Int).toNat = lo := rfl
  by_cases h : n < 0
  · have hd : decide (n < 0) = true := decide_eq_true h
    have k := key (-n) (by omega)
    have e1 := i64_in (-n) (by omega)
    have e2 := i64_in (-(-n / 2 ^ lo)) (by omega)
    have e3 := i64_in (-n / 2 ^ lo) (by omega)
    have ec : cutI n lo = -(-n / 2 ^ lo) := by unfold cutI; rw [if_pos h]
    rw [ec]
    clear ec k key
    go_enter Try.func40, Try.ntmps40
    go_wp2
    go_ret
    exact ⟨rfl, rfl⟩
  · have hd : decide (n < 0) = false := decide_eq_false h
    have k := key n (by omega)
    have e3 := i64_in (n / 2 ^ lo) (by omega)
    have ec : cutI n lo = n / 2 ^ lo := by unfold cutI; rw [if_neg h]
    rw [ec]
    clear ec k key
    go_enter Try.func40, Try.ntmps40
    go_wp2
    go_ret
    exact ⟨rfl, rfl⟩

theorem specLevel13 (ao : Option Addr) (n cap : Nat) (zs : List Int) (w : World) (hr : Rd .i64 w ao n zs) (b : Bool) (hb : Hid (levB (-16383) 16383 zs = b)) :
    Calls Try.prog 38 #[.slice ao n cap] w fun e w' => e = .returned (.bool b) ∧ w.grownBy w' none := by
  have HR := hide hr
  clear hr
  go_enter Try.func38, Try.ntmps38
  go_wp2_with fail
  refine (specLev ao n cap zs (-16383) 16383 w (unhide HR) b hb).mono ?_
  rintro e w1 ⟨rfl, g1⟩
  go_wp2
  go_ret
  exact ⟨rfl, g1⟩

theorem step_append_intS {w : World} {ops : Array Oper} {o : Oper} {a : Act} {K : Act → World → Prop} {Q : Exit → Act → World → Prop} {E : Prop} (hgd : o.guard = none) (s x : Operand)
    (ho : o.op = .call { callee := .builtin .append, args := #[s, x], argTypes := #[24, 24] })
    (base : Nat) (v : Value) (L : List Int) (hs : a.eval s = v) (hown : w.ownsRow base 3 1 v L.length (L.map (Value.int .i64))) (t : Int) (hx : a.eval x = .slice (some ⟨w.heap.size, 0, none⟩) 1 1) (hb : L.length ≤ 900000) (hbase : base ≤ w.heap.size) (R : List Int) (hR : L ++ [t] = R)
    (h : ∀ v' w', w'.ownsRow base 3 1 v' R.length (R.map (Value.int .i64)) → w.grownBy w' v.ownBlock → (v'.ownBlock = v.ownBlock ∨ ∀ g, v'.ownBlock = some g → w.heap.size ≤ g) → K (a.put o.dst v') w') :
    if Region.wanted o (yielded ops a.tmps) = true then Oper.wp Try.prog o a (w.alloc (.cells #[.int .i64 t] 3)) K Q else E := by
  subst hR
  obtain ⟨i0, hi, hz0, hz1, hz2⟩ := info_parts info_iS
  refine step_append_lies _ hgd s x 24 ho base 3 i0 (.int .i64 0) 1 8 Try.underlying24 hi hz0 hz1 hz2 rfl (by decide) v L.length _ hs (hown.alloc _) ⟨w.heap.size, 0, none⟩ 1 1 [.int .i64 t] hx rfl (World.news_of_block (cs := #[.int .i64 t]) (t := 3) (fr := (0, 0)) (heap_alloc_new w _)) (by intro u hu; simp at hu; subst hu; rfl) (by omega) (by unfold maxLen; omega) (by omega) (by simp; omega) _ rfl ?_
  intro g cap w' h1 h2 h4 _
  refine h _ w' (by rw [List.map_append, List.length_append]; exact h1) ⟨h2.os, h2.tape, h2.output, by have h := h2.size; simp at h; omega, fun k hk hr => (h2.block k (by simp; omega) hr).trans (Below.heap_alloc _ _ _ hk)⟩ ?_
  rcases h4 with h4 | h4
  · exact .inl h4.symm
  · refine .inr fun q e => ?_
    have e2 : g = q := Option.some.inj e
    simp at h4
    omega

end Go.Proofs.Ytfgglainjaplgaa

namespace Go.Proofs.Ytfgglainjaplgaa
open Go.RowKit

/-- A list while it is made, beside the scan in its box and the block's numbers in the order of waves. -/
structure Fo (w wr : World) (sx : Array Value) (v : Value) (A : List Int) (zb zc : Nat) (Z : List Int) : Prop where
  sc : wr.heap[w.heap.size]? = some (.cells sx 26 (0, 0))
  own : wr.ownsRow (w.heap.size + 1) 3 1 v A.length (A.map (Value.int .i64))
  zs : wr.ownsRow (w.heap.size + 1) 3 1 (.slice (some ⟨zb, 0, none⟩) 64 zc) 64 (Z.map (Value.int .i64))
  ne : ∀ g, v.ownBlock = some g → g ≠ zb
  grown : w.grownBy wr none
theorem Fo.size {w wr : World} {sx : Array Value} {v : Value} {A : List Int} {zb zc : Nat} {Z : List Int} (h : Fo w wr sx v A zb zc Z) : w.heap.size + 1 ≤ wr.heap.size := (Array.getElem?_eq_some_iff.1 h.sc).1
theorem Fo.new {w wr w' : World} {sx : Array Value} {v : Value} {A : List Int} {zb zc : Nat} {Z : List Int} (h : Fo w wr sx v A zb zc Z) (g : wr.grownBy w' none) : Fo w w' sx v A zb zc Z :=
  ⟨at_rowS g h.sc (by simp), own_grown h.own g, own_grown h.zs g, h.ne, grown_trans h.grown g⟩
theorem Fo.more {w wr w' : World} {sx : Array Value} {v v' : Value} {A B : List Int} {zb zc : Nat} {Z : List Int} (h : Fo w wr sx v A zb zc Z) (o : w'.ownsRow (w.heap.size + 1) 3 1 v' B.length (B.map (Value.int .i64))) (g : wr.grownBy w' v.ownBlock) (hat : v'.ownBlock = v.ownBlock ∨ ∀ g, v'.ownBlock = some g → wr.heap.size ≤ g) : Fo w w' sx v' B zb zc Z := by
  refine ⟨at_rowS g h.sc (fun e => by have := (h.own.lt _ e).1; omega), o, own_beneath h.zs g (fun p q h1 h2 e => ?_), fun q e => ?_, grown_new h.grown g (fun q e => by have := (h.own.lt _ e).1; omega)⟩
  · have e1 : zb = p := Option.some.inj h1
    exact h.ne q h2 (by omega)
  · rcases hat with h1 | h1
    · exact h.ne q (by rw [← h1]; exact e)
    · have h2 := h1 q e
      have h3 := (h.zs.lt zb rfl).2
      omega
theorem Fo.at {w wr : World} {sx : Array Value} {v : Value} {A : List Int} {zb zc : Nat} {Z : List Int} (h : Fo w wr sx v A zb zc Z) (hZ : Z.length = 64) (k : Nat) (hk : k < 64) : wr.cell? ⟨zb, k, none⟩ = some (.int .i64 (Z.getD k 0)) := by
  rw [h.zs.cellAt k (by omega)]
  simp [hZ, hk]
theorem zigged_len (zs : List Int) : (zigged zs).length = 64 := made_len _
theorem lev_nums {zs : List Int} (h : levB (-16383) 16383 zs = true) : numsB (-32767) 32767 zs = true := by
  obtain ⟨h1, h2⟩ := lev_at h
  exact nums_all h1 (fun j hj => by have := h2 j hj; omega)

set_option maxRecDepth 20000 in
set_option maxHeartbeats 1600000 in
theorem specFirstOf (ao : Option Addr) (n cap : Nat) (zs : List Int) (w : World) (hr : Rd .i64 w ao n zs) (vo : Option Addr) (vn vc : Nat) (a : Scn) (L : List Int) (HL : Hid (firstG zs a = L)) :
    Calls Try.prog 14 #[.slice ao n cap, .agg #[.slice vo vn vc, .int .i64 a.fr, .int .i64 a.to, .int .i64 a.hi, .int .i64 a.lo]] w fun e w' => ∃ so sc, e = .returned (.slice so L.length sc) ∧ w'.ownsRow w.heap.size 3 1 (.slice so L.length sc) L.length (L.map (Value.int .i64)) ∧ w.grownBy w' none := by
  obtain ⟨b1, HB1⟩ : ∃ b, Hid (levB (-16383) 16383 zs = b) := ⟨_, rfl⟩
  obtain ⟨b2, HB2⟩ : ∃ b, Hid (passB a = b) := ⟨_, rfl⟩
  have HBITS := hide (fun W => specBits W vo vn vc a b2 HB2)
  have hp := unhide HL
  unfold firstG at hp
  rw [unhide HB1, unhide HB2] at hp
  have hpin : b2 = true → 0 ≤ a.fr ∧ a.fr ≤ a.to ∧ a.to ≤ 63 ∧ 0 ≤ a.lo ∧ a.lo ≤ 13 := fun e => by
    have h := unhide HB2
    rw [e] at h
    unfold passB at h
    simp only [Bool.and_eq_true, decide_eq_true_eq] at h
    omega
  have epl : placesOf a = (a.to - a.fr + 1).toNat := rfl
  rw [epl] at hp
  obtain ⟨cs, fr, to, hi, lo⟩ := a
  dsimp only at HBITS hp hpin ⊢
  obtain ⟨W2, HW2⟩ : ∃ W2, Hid ((w.alloc (.cells #[.slice vo vn vc, .int .i64 fr, .int .i64 to, .int .i64 hi, .int .i64 lo] 26)).alloc (.cells #[] 3) = W2) := ⟨_, rfl⟩
  have G0 : w.grownBy W2 none := by rw [← unhide HW2]; exact grown_alloc (grown_alloc (World.grownBy.refl _ _) _) _
  have HB0 : Hid (W2.heap[w.heap.size]? = some (.cells #[.slice vo vn vc, .int .i64 fr, .int .i64 to, .int .i64 hi, .int .i64 lo] 26 (0, 0))) := by
    rw [← unhide HW2]
    exact at_rowS (World.grownBy_alloc _ _ none) (heap_alloc_new w _) (by simp)
  have HO0 : Hid (W2.ownsRow (w.heap.size + 1) 3 1 (.slice (some ⟨w.heap.size + 1, 0, none⟩) 0 0) 0 []) := by
    rw [← unhide HW2]
    have := World.ownsRow_lit (w.alloc (.cells #[.slice vo vn vc, .int .i64 fr, .int .i64 to, .int .i64 hi, .int .i64 lo] 26)) (e := 3) (size := 1) (base := w.heap.size + 1) #[] 0 (by simp) (by unfold maxLen; omega) rfl
    unfold Hid
    simpa using this
  have HLV := hide (specLevel13 ao n cap zs W2 (hr.grown G0) b1 HB1)
  have HR := hide hr
  have HG0 := hide G0
  have HP := hide hp
  have HPIN := hide hpin
  clear hr G0 hp hpin epl HL
  go_enter Try.func14, Try.ntmps14
  go_wp2_with fail
  rw [unhide HW2]
  clear HW2
  refine (unhide HLV).mono ?_
  rintro e w3 ⟨rfl, g3⟩
  have HG3 := hide (grown_trans (unhide HG0) g3)
  have HB3 := hide (at_rowS g3 (unhide HB0) (by simp))
  have HO3 := hide (own_grown (unhide HO0) g3)
  clear g3 HG0 HB0 HO0 HLV
  have HNIL : Hid (∀ W, w3.grownBy W none → L = [] → ∃ so sc, Ending.returned (.slice (some ⟨w.heap.size + 1, 0, none⟩) 0 0) = .returned (.slice so L.length sc) ∧ W.ownsRow w.heap.size 3 1 (.slice so L.length sc) L.length (L.map (Value.int .i64)) ∧ w.grownBy W none) := fun W g e => by
    subst e
    exact ⟨_, _, rfl, own_base (own_grown (unhide HO3) g) (by omega), grown_trans (unhide HG3) g⟩
  cases b1 with
  | false =>
    have HN := hide (unhide HNIL w3 (World.grownBy.refl _ _) (unhide HP).symm)
    go_wp2
    go_ret
    exact unhide HN
  | true =>
    obtain ⟨c0, c1, c2, c3, c4⟩ := scanCells (unhide HB3)
    go_wp2_with fail
    clear c0 c1 c2 c3 c4
    refine (unhide HBITS w3).mono ?_
    rintro e w4 ⟨rfl, g4⟩
    have HB4 := hide (at_rowS g4 (unhide HB3) (by simp))
    have HG4 := hide g4
    clear g4 HBITS
    obtain ⟨c0, c1, c2, c3, c4⟩ := scanCells (unhide HB4)
    cases b2 with
    | false =>
      have HN := hide (unhide HNIL w4 (unhide HG4) (unhide HP).symm)
      go_wp2
      go_ret
      exact unhide HN
    | true =>
      by_cases h0 : hi = 0
      · have n0 : (hi == 0) = true := by simp [h0]
        have HP2 : Hid (firstL (zigged zs) fr.toNat (to - fr + 1).toNat lo.toNat = L) := by
          have h := unhide HP
          rw [decide_eq_true h0] at h
          exact h
        obtain ⟨p1, p2, p3, p4, p5⟩ := unhide HPIN rfl
        obtain ⟨k0, rfl⟩ := Int.eq_ofNat_of_zero_le p1
        obtain ⟨k1, rfl⟩ := Int.eq_ofNat_of_zero_le (show 0 ≤ to by omega)
        obtain ⟨l0, rfl⟩ := Int.eq_ofNat_of_zero_le p4
        have em : ((k1 : Int) - (k0 : Int) + 1).toNat = k1 + 1 - k0 := by omega
        rw [em, Int.toNat_natCast, Int.toNat_natCast] at HP2
        have HTZ := hide (specToZig ao n cap zs w4 ((unhide HR).grown (grown_trans (unhide HG3) (unhide HG4))) true (lev_nums (unhide HB1)) (zigged zs) rfl)
        clear h0 em HNIL HP HPIN
        go_wp2_with fail
        clear c0 c1 c2 c3 c4 n0
        refine (unhide HTZ).mono ?_
        rintro e w5 ⟨zo, zc, rfl, o5, g5⟩
        rw [zigged_len] at o5 ⊢
        obtain ⟨zb, rfl, hzb, _⟩ := own_at o5 (by omega)
        obtain ⟨Z, HZ⟩ : ∃ Z, Hid (zigged zs = Z) := ⟨_, rfl⟩
        have HZL : Hid (Z.length = 64) := by rw [← unhide HZ]; exact zigged_len zs
        have HLZ : Hid (∀ j, j < 64 → -16383 ≤ Z.getD j 0 ∧ Z.getD j 0 ≤ 16383) := fun j hj => by
          rw [← unhide HZ]
          unfold zigged
          rw [made_at _ j hj]
          exact (lev_at (unhide HB1)).2 _ (zz_lt j hj)
        rw [unhide HZ] at o5 HP2
        have hs3 : w.heap.size + 1 < w3.heap.size := ((unhide HO3).lt _ rfl).2
        have hs4 := (unhide HG4).size
        have HF5 : Hid (Fo w w5 #[.slice vo vn vc, .int .i64 k0, .int .i64 k1, .int .i64 hi, .int .i64 l0] (.slice (some ⟨w.heap.size + 1, 0, none⟩) 0 0) [] zb zc Z) :=
          ⟨at_rowS g5 (unhide HB4) (by simp), own_grown (own_grown (unhide HO3) (unhide HG4)) g5, own_base o5 (by omega), fun g e => by have e1 : w.heap.size + 1 = g := Option.some.inj e; omega, grown_trans (grown_trans (unhide HG3) (unhide HG4)) g5⟩
        clear o5 g5 HTZ HG3 HO3 HB3 HG4 HB4 hzb hs3 hs4 HZ
        obtain ⟨c0, c1, c2, c3, c4⟩ := scanCells (unhide HF5).sc
        go_wp2
        clear c0 c1 c2 c3 c4
        go_loopw [5, 7] (fun ov kv wr => ∃ (m : Nat) (so : Option Addr) (sc : Nat), m ≤ k1 + 1 - k0 ∧ kv = .int .i64 (k0 + m : Nat) ∧ ov = .slice so m sc ∧ Hid (Fo w wr #[.slice vo vn vc, .int .i64 k0, .int .i64 k1, .int .i64 hi, .int .i64 l0] (.slice so m sc) (firstL Z k0 m l0) zb zc Z)) (fun _ kv _ => k1 + 1 - (intOf kv).toNat)
        case atStart => exact ⟨0, _, _, Nat.zero_le _, rfl, rfl, HF5⟩
        case round =>
          clear HF5
          obtain ⟨m, so, sc, hm, rfl, rfl, hF⟩ := hrel
          obtain ⟨d0, d1, d2, d3, d4⟩ := scanCells (unhide hF).sc
          by_cases hlt : m < k1 + 1 - k0
          · obtain ⟨kk, HKK⟩ : ∃ kk, Hid (k0 + m = kk) := ⟨_, rfl⟩
            have hkk : kk ≤ k1 := by have := unhide HKK; omega
            have hd : decide ((kk : Int) ≤ (k1 : Int)) = true := decide_eq_true (by omega)
            have i0 : (0 : Int) ≤ (kk : Int) := by omega
            have i1 : (kk : Int) < 64 := by omega
            rw [unhide HKK]
            have zc1 := (unhide hF).at (unhide HZL) kk (by omega)
            have hlev := unhide HLZ kk (by omega)
            obtain ⟨A, HA⟩ : ∃ A, Hid (firstL Z k0 m l0 = A) := ⟨_, rfl⟩
            obtain ⟨R, HRR⟩ : ∃ R, Hid (firstL Z k0 (m + 1) l0 = R) := ⟨_, rfl⟩
            have HAL : Hid (A.length = m) := by unfold Hid; rw [← unhide HA]; simp [firstL]
            have HRL : Hid (R.length = m + 1) := by unfold Hid; rw [← unhide HRR]; simp [firstL]
            have HNX : Hid (A ++ [cutI (Z.getD kk 0) l0] = R) := by
              unfold Hid
              rw [← unhide HA, ← unhide HRR, ← unhide HKK]
              unfold firstL
              rw [List.range_succ, List.map_append]
              rfl
            generalize Z.getD kk 0 = zv at zc1 hlev HNX
            have HCUT := hide (fun W => specCut zv l0 (by omega) (by omega) W)
            obtain ⟨cv, HCV⟩ : ∃ cv, Hid (cutI zv l0 = cv) := ⟨_, rfl⟩
            rw [unhide HCV] at HCUT HNX
            rw [unhide HA] at hF
            have hsz := (unhide hF).size
            have HFD := hide ((unhide hF).new (grown_drew (World.grownBy.refl wr none)))
            have HZB : Hid (∀ g, Value.ownBlock (.slice so m sc) = some g → g ≠ zb) := (unhide hF).ne
            clear HA hlev HCV
            go_wp2
            refine wp_region_noPanic ?_
            refine wp_region_tail (fun W => W.cell? ⟨zb, kk, none⟩ = some (.int .i64 zv) ∧ W.cell? ⟨w.heap.size, 4, none⟩ = some (.int .i64 l0)) [true, true, true, true, true, true, true, false, false, false, false] (by kernel_rfl) (fun _ _ _ _ _ h => h) rfl (by kernel_rfl) ⟨zc1, d4⟩ ?_
            iterate 7
              refine heldF_take (v := ?_) (Or.inl ⟨by rfl, ?_⟩) ?_
              rotate_left 1
              · intro w' hSw
                try dsimp only at hSw
                obtain ⟨y1, y2⟩ := hSw
                go_simp
                try with_reducible rfl
              simp only [Act.put, List.setIfInBounds_toArray, List.set_cons_zero, List.set_cons_succ]
            refine heldF_skip (heldF_skip (heldF_skip (heldF_skip (heldF_nil ?_))))
            iterate 7 refine tailF_skip ?_
            refine tailF_step (fun K hK => ?_)
            go_simp
            refine (unhide HCUT _).mono ?_
            rintro e w3 ⟨rfl, rfl⟩
            refine hK.out _ _ ⟨zc1, d4⟩ ?_
            clear hK K
            refine tailF_step (fun K hK => ?_)
            go_simp
            have gA := World.grownBy_alloc wr.drew (.cells #[.int .i64 cv] 3) none
            refine hK.out _ _ ⟨gA.cell zc1 (by simp), gA.cell d4 (by simp)⟩ ?_
            clear hK K gA
            refine tailF_step (fun K hK => ?_)
            refine step_append_intS (w := wr.drew) (by rfl) _ _ (by rfl) (w.heap.size + 1) (.slice so m sc) A (by rfl) (unhide HFD).own cv (by rfl) (by rw [unhide HAL]; omega) hsz R (unhide HNX) ?_
            intro v4 w4 o4 g4 hat4
            have HF4 := hide ((unhide HFD).more o4 g4 hat4)
            have hk1 : w4.cell? ⟨zb, kk, none⟩ = some (.int .i64 zv) := g4.cell zc1 (fun e => unhide HZB zb e.symm rfl)
            have hk2 : w4.cell? ⟨w.heap.size, 4, none⟩ = some (.int .i64 l0) := (scanCells (unhide HF4).sc).2.2.2.2
            refine hK.out _ _ ⟨hk1, hk2⟩ ?_
            clear hK K
            rw [unhide HRL] at o4
            obtain ⟨so4, sc4, rfl⟩ := own_form o4
            try simp only [Act.put, List.setIfInBounds_toArray, List.set_cons_zero, List.set_cons_succ]
            refine tailF_step (fun K hK => ?_)
            go_simp
            refine hK.out _ _ ⟨hk1, hk2⟩ ?_
            clear hK K
            refine tailF_nil (NoPanic.normal ?_)
            rw [← unhide HRR] at HF4
            clear o4 g4 hat4 hk1 hk2 d0 d1 d2 d3 d4 zc1 HFD hF HNX HAL HRL HRR HCUT
            go_wp2
            go_roundw
            case rel => exact ⟨m + 1, so4, sc4, by omega, by rw [show k0 + (m + 1) = kk + 1 by have := unhide HKK; omega]; go_num, rfl, HF4⟩
            case measure => have := unhide HKK; simp [intOf]; omega
          · obtain rfl : m = k1 + 1 - k0 := by omega
            have hd : decide (((k0 + (k1 + 1 - k0) : Nat) : Int) ≤ (k1 : Int)) = false := decide_eq_false (by omega)
            rw [unhide HP2] at hF
            have hLl : L.length = k1 + 1 - k0 := by rw [← unhide HP2]; simp [firstL]
            have HRES : Hid (∃ so' sc', Ending.returned (.slice so (k1 + 1 - k0) sc) = .returned (.slice so' L.length sc') ∧ wr.ownsRow w.heap.size 3 1 (.slice so' L.length sc') L.length (L.map (Value.int .i64)) ∧ w.grownBy wr none) := by
              refine ⟨so, sc, by rw [hLl], ?_, (unhide hF).grown⟩
              have h := (unhide hF).own
              rw [← hLl] at h
              exact own_base h (by omega)
            clear hLl hF
            go_wp2
            go_ret
            exact unhide HRES
      · have n0 : (hi == 0) = false := by simp [h0]
        have e : L = [] := by
          have h := unhide HP
          rw [decide_eq_false h0] at h
          exact h.symm
        have HN := hide (unhide HNIL w4 (unhide HG4) e)
        go_wp2
        go_ret
        exact unhide HN

end Go.Proofs.Ytfgglainjaplgaa

namespace Go.Proofs.Ytfgglainjaplgaa

/-- How often a number can be halved until it is 0. -/
def cls (a : Nat) : Nat := if a = 0 then 0 else Nat.log2 a + 1
theorem cls_zero : cls 0 = 0 := rfl
theorem cls_half {a : Nat} (h : a ≠ 0) : cls a = cls (a / 2) + 1 := by
  unfold cls
  rw [if_neg h]
  by_cases h2 : a / 2 = 0
  · obtain rfl : a = 1 := by omega
    rfl
  · rw [if_neg h2, Nat.log2_def, if_pos (by omega)]
theorem cls_lt (a : Nat) : a < 2 ^ cls a := by
  unfold cls
  by_cases h : a = 0
  · subst h; decide
  · rw [if_neg h]; exact Nat.lt_log2_self
theorem cls_ge {a : Nat} (h : a ≠ 0) : 2 ^ (cls a - 1) ≤ a := by
  unfold cls
  rw [if_neg h, Nat.add_sub_cancel]
  exact Nat.log2_self_le h
theorem cls_pos {a : Nat} : 0 < cls a ↔ a ≠ 0 := by
  unfold cls
  by_cases h : a = 0
  · simp [h]
  · simp [h]
theorem cls_le {a : Nat} (h : a ≤ 32767) : cls a ≤ 15 := by
  unfold cls
  by_cases h0 : a = 0
  · simp [h0]
  · rw [if_neg h0]
    have := (Nat.log2_lt h0 (k := 15)).2 (by omega)
    omega

/-- A number of at most 32767, whatever its sign. -/
def coefB (n : Int) : Bool := decide (-32767 ≤ n ∧ n ≤ 32767)
def classI (n : Int) : Int := if coefB n then (cls n.natAbs : Int) else -1
def bitsI (n : Int) : Int := if coefB n then (if n < 0 then n + 2 ^ cls n.natAbs - 1 else n) else -1
def numI (s b : Int) : Int :=
  if (0 ≤ s ∧ s ≤ 15) ∧ (0 ≤ b ∧ b ≤ 2 ^ s.toNat - 1) then (if 0 < s ∧ b < 2 ^ (s.toNat - 1) then b - 2 ^ s.toNat + 1 else b) else 0

theorem pow_step {k : Nat} (h : 0 < k) : (2 : Int) ^ k = 2 * 2 ^ (k - 1) := by
  obtain ⟨j, rfl⟩ : ∃ j, k = j + 1 := ⟨k - 1, by omega⟩
  rw [Nat.add_sub_cancel, Int.pow_succ, Int.mul_comm]
theorem pow_cast (k : Nat) : ((2 ^ k : Nat) : Int) = (2 : Int) ^ k := by simp
theorem class_bounds {n : Int} (h : coefB n = true) : 0 ≤ classI n ∧ classI n ≤ 15 ∧ (classI n).toNat = cls n.natAbs := by
  have hc := h
  simp only [coefB, decide_eq_true_eq] at h
  have := cls_le (a := n.natAbs) (by omega)
  unfold classI
  rw [if_pos hc]
  omega
theorem bits_bounds {n : Int} (h : coefB n = true) : 0 ≤ bitsI n ∧ bitsI n < 2 ^ cls n.natAbs := by
  have h1 := cls_lt n.natAbs
  have h2 := pow_cast (cls n.natAbs)
  unfold bitsI
  rw [if_pos h]
  split
  · omega
  · omega
theorem class_zero {n : Int} (h : coefB n = true) : classI n = 0 ↔ n = 0 := by
  have hp := cls_pos (a := n.natAbs)
  unfold classI
  rw [if_pos h]
  omega
/-- A number is got back from its class and bits. -/
theorem num_back {n : Int} (h : coefB n = true) : numI (classI n) (bitsI n) = n := by
  obtain ⟨c0, c1, c2⟩ := class_bounds h
  obtain ⟨b0, b1⟩ := bits_bounds h
  have h1 := cls_lt n.natAbs
  have p0 := pow_cast (cls n.natAbs)
  unfold numI
  rw [c2, if_pos ⟨⟨c0, c1⟩, b0, by omega⟩]
  by_cases hn : n = 0
  · subst hn
    have e : classI 0 = 0 := (class_zero h).2 rfl
    have e2 : bitsI 0 = 0 := rfl
    rw [e, e2, if_neg (by omega)]
  · have hne : n.natAbs ≠ 0 := by omega
    have h2 := cls_ge hne
    have hk : 0 < cls n.natAbs := cls_pos.2 hne
    have p1 := pow_cast (cls n.natAbs - 1)
    have p2 := pow_step hk
    have hcp : 0 < classI n := by omega
    unfold bitsI
    rw [if_pos h]
    by_cases hs : n < 0
    · rw [if_pos hs, if_pos ⟨hcp, by omega⟩]; omega
    · rw [if_neg hs, if_neg (by omega)]

/-- An item: a run, a size, bits. -/
abbrev It := Int × Int × Int
/-- The items of a list, of which so many noughts have gone before. -/
def runsGo : Nat → List Int → List It
  | run, [] => if 0 < run then [(0, 0, 0)] else []
  | run, x :: xs => if x = 0 then runsGo (run + 1) xs else List.replicate (run / 16) (15, 0, 0) ++ (((run % 16 : Nat) : Int), classI x, bitsI x) :: runsGo 0 xs
def coefsB (xs : List Int) : Bool := decide (xs.length ≤ 64) && xs.all coefB
def runsG (xs : List Int) : List It := if coefsB xs then runsGo 0 xs else []

theorem runsGo_len : ∀ (run : Nat) (xs : List Int), (runsGo run xs).length ≤ run + xs.length
  | run, [] => by
    unfold runsGo
    split
    · simp; omega
    · simp
  | run, x :: xs => by
    unfold runsGo
    split
    · have := runsGo_len (run + 1) xs
      simp; omega
    · have := runsGo_len 0 xs
      simp; omega

/-- One item put behind what has been got. -/
def putIt (n : Nat) (out : List Int) (x : It) : List Int :=
  if x.2.1 = 0 ∧ x.1 = 0 then out ++ List.replicate (n - out.length) 0
  else
    let o := out ++ List.replicate (min x.1.toNat (n + 1 - out.length)) 0
    if o.length ≤ n then o ++ [numI x.2.1 x.2.2] else o
def putIts (n : Nat) (out : List Int) (xs : List It) : List Int := xs.foldl (putIt n) out
theorem putIts_app (n : Nat) (out : List Int) (xs ys : List It) : putIts n out (xs ++ ys) = putIts n (putIts n out xs) ys := List.foldl_append ..

theorem num_zero : numI 0 0 = 0 := rfl
theorem put_sixteen {n : Nat} {out : List Int} (h : out.length + 16 ≤ n) : putIt n out (15, 0, 0) = out ++ List.replicate 16 0 := by
  unfold putIt
  rw [if_neg (by decide)]
  have e : min (15 : Int).toNat (n + 1 - out.length) = 15 := by
    show min 15 _ = 15
    omega
  simp only [e]
  rw [if_pos (by simp; omega), num_zero, List.append_assoc]
  rfl
theorem puts_sixteen {n : Nat} : ∀ (k : Nat) (out : List Int), out.length + 16 * k ≤ n → putIts n out (List.replicate k (15, 0, 0)) = out ++ List.replicate (16 * k) 0
  | 0, out, _ => by simp [putIts]
  | k + 1, out, h => by
    rw [List.replicate_succ]
    show putIts n (putIt n out (15, 0, 0)) _ = _
    rw [put_sixteen (by omega), puts_sixteen k _ (by simp; omega), List.append_assoc, List.replicate_append_replicate]
    congr 2
    omega
/-- A list is got back from its items. -/
theorem puts_back {n : Nat} : ∀ (xs : List Int) (run : Nat) (out : List Int), xs.all coefB = true → out.length + run + xs.length = n → putIts n out (runsGo run xs) = out ++ List.replicate run 0 ++ xs
  | [], run, out, _, h => by
    unfold runsGo
    split
    · show putIt n out (0, 0, 0) = _
      unfold putIt
      rw [if_pos ⟨rfl, rfl⟩, List.append_nil]
      congr 2
      simp at h; omega
    · obtain rfl : run = 0 := by omega
      simp [putIts]
  | x :: xs, run, out, hc, h => by
    rw [List.all_cons, Bool.and_eq_true] at hc
    rw [List.length_cons] at h
    unfold runsGo
    split
    · rename_i hx
      subst hx
      rw [puts_back xs (run + 1) out hc.2 (by omega), List.replicate_succ', List.append_assoc, List.append_assoc, List.append_assoc]
      rfl
    · rename_i hx
      rw [putIts_app, puts_sixteen (run / 16) out (by omega)]
      show putIts n (putIt n _ _) _ = _
      have hk : ¬ (classI x = 0 ∧ ((run % 16 : Nat) : Int) = 0) := fun h2 => hx ((class_zero hc.1).1 h2.1)
      have e1 : putIt n (out ++ List.replicate (16 * (run / 16)) 0) (((run % 16 : Nat) : Int), classI x, bitsI x) = out ++ List.replicate run 0 ++ [x] := by
        unfold putIt
        rw [if_neg hk]
        have e : min (((run % 16 : Nat) : Int)).toNat (n + 1 - (out ++ List.replicate (16 * (run / 16)) (0 : Int)).length) = run % 16 := by
          rw [Int.toNat_natCast]; simp; omega
        simp only [e]
        rw [if_pos (by simp; omega), num_back hc.1, List.append_assoc out, List.replicate_append_replicate]
        congr 3
        omega
      rw [e1, puts_back xs 0 _ hc.2 (by simp; omega)]
      simp

/-- The list that items are those of, if there is one of n numbers. -/
def fromG (items : List It) (n : Int) : List Int × Bool :=
  if (0 ≤ n ∧ n ≤ 64) ∧ items.length ≤ 64 ∧ (putIts n.toNat [] items).length = n.toNat ∧ runsG (putIts n.toNat [] items) = items then (putIts n.toNat [] items, true) else ([], false)
theorem from_runs {xs : List Int} (h : coefsB xs = true) : fromG (runsG xs) xs.length = (xs, true) := by
  have hc := h
  simp only [coefsB, Bool.and_eq_true, decide_eq_true_eq] at h
  have e : runsG xs = runsGo 0 xs := by unfold runsG; rw [if_pos hc]
  have hl := runsGo_len 0 xs
  have hb : putIts xs.length [] (runsGo 0 xs) = xs := by
    have := puts_back xs 0 [] h.2 (n := xs.length) (by simp)
    simpa using this
  unfold fromG
  rw [Int.toNat_natCast, e, hb, e, if_pos ⟨by omega, by omega, rfl, rfl⟩]
/-- What is got from items has them: whoever finds such a list finds this one. -/
theorem from_only {items : List It} {n : Nat} {xs : List Int} (hx : coefsB xs = true) (hl : xs.length = n) (hr : runsGo 0 xs = items) : fromG items n = (xs, true) := by
  have e : runsG xs = items := by unfold runsG; rw [if_pos hx]; exact hr
  rw [← e, ← hl]
  exact from_runs hx
theorem from_none {items : List It} {n : Int} (h : ∀ xs : List Int, (xs.length : Int) = n → runsG xs = items → False) : fromG items n = ([], false) := by
  unfold fromG
  split
  · rename_i hh
    exact (h _ (by omega) hh.2.2.2).elim
  · rfl

end Go.Proofs.Ytfgglainjaplgaa

namespace Go.Proofs.Ytfgglainjaplgaa
open Go.RowKit

theorem specAbs (n : Int) (hn : -32767 ≤ n ∧ n ≤ 32767) (w : World) :
    Calls Try.prog 42 #[.int .i64 n] w fun e w' => e = .returned (.int .i64 (n.natAbs : Int)) ∧ w' = w := by
  by_cases h : n < 0
  · have e1 := i64_in (-n) (by omega)
    go_enter Try.func42, Try.ntmps42
    go_wp2
    go_ret
    exact ⟨ret_int (by omega), rfl⟩
  · go_enter Try.func42, Try.ntmps42
    go_wp2
    go_ret
    exact ⟨ret_int (by omega), rfl⟩

theorem pow_fit {k : Nat} (h : k ≤ 15) : 1 ≤ (2 : Int) ^ k ∧ (2 : Int) ^ k ≤ 32768 := by
  have h1 : (2 : Nat) ^ k ≤ 2 ^ 15 := Nat.pow_le_pow_right (by omega) h
  have h2 : 0 < (2 : Nat) ^ k := Nat.pow_pos (by omega)
  have h3 := pow_cast k
  omega

end Go.Proofs.Ytfgglainjaplgaa

namespace Go.Proofs.Ytfgglainjaplgaa
open Go.RowKit

theorem and1_shr13 (a i : Nat) (ha : a ≤ 32767) : bits BinOp.and IntKind.i64 ((a : Int) / 2 ^ i) 1 = ((a / 2 ^ i % 2 : Nat) : Int) := by
  have e : (a : Int) / 2 ^ i = ((a / 2 ^ i : Nat) : Int) := by simp
  have hle : a / 2 ^ i ≤ a := Nat.div_le_self _ _
  rw [e]
  generalize a / 2 ^ i = q at hle
  rw [and1_i64 _ (by omega) (by omega)]
  omega

set_option maxRecDepth 20000 in
set_option maxHeartbeats 1600000 in
theorem specRefineOf (ao : Option Addr) (n cap : Nat) (zs : List Int) (w : World) (hr : Rd .i64 w ao n zs) (vo : Option Addr) (vn vc : Nat) (a : Scn) (L : List Int) (HL : Hid (refineG zs a = L)) :
    Calls Try.prog 17 #[.slice ao n cap, .agg #[.slice vo vn vc, .int .i64 a.fr, .int .i64 a.to, .int .i64 a.hi, .int .i64 a.lo]] w fun e w' => ∃ so sc, e = .returned (.slice so L.length sc) ∧ w'.ownsRow w.heap.size 3 1 (.slice so L.length sc) L.length (L.map (Value.int .i64)) ∧ w.grownBy w' none := by
  obtain ⟨b1, HB1⟩ : ∃ b, Hid (levB (-16383) 16383 zs = b) := ⟨_, rfl⟩
  obtain ⟨b2, HB2⟩ : ∃ b, Hid (passB a = b) := ⟨_, rfl⟩
  have HBITS := hide (fun W => specBits W vo vn vc a b2 HB2)
  have hp := unhide HL
  unfold refineG at hp
  rw [unhide HB1, unhide HB2] at hp
  have hpin : b2 = true → 0 ≤ a.fr ∧ a.fr ≤ a.to ∧ a.to ≤ 63 ∧ 0 ≤ a.lo ∧ a.lo ≤ 13 ∧ (a.hi = 0 ∨ a.hi = a.lo + 1) := fun e => by
    have h := unhide HB2
    rw [e] at h
    unfold passB at h
    simp only [Bool.and_eq_true, Bool.or_eq_true, decide_eq_true_eq] at h
    omega
  have epl : placesOf a = (a.to - a.fr + 1).toNat := rfl
  rw [epl] at hp
  obtain ⟨cs, fr, to, hi, lo⟩ := a
  dsimp only at HBITS hp hpin ⊢
  obtain ⟨W2, HW2⟩ : ∃ W2, Hid ((w.alloc (.cells #[.slice vo vn vc, .int .i64 fr, .int .i64 to, .int .i64 hi, .int .i64 lo] 26)).alloc (.cells #[] 3) = W2) := ⟨_, rfl⟩
  have G0 : w.grownBy W2 none := by rw [← unhide HW2]; exact grown_alloc (grown_alloc (World.grownBy.refl _ _) _) _
  have HB0 : Hid (W2.heap[w.heap.size]? = some (.cells #[.slice vo vn vc, .int .i64 fr, .int .i64 to, .int .i64 hi, .int .i64 lo] 26 (0, 0))) := by
    rw [← unhide HW2]
    exact at_rowS (World.grownBy_alloc _ _ none) (heap_alloc_new w _) (by simp)
  have HO0 : Hid (W2.ownsRow (w.heap.size + 1) 3 1 (.slice (some ⟨w.heap.size + 1, 0, none⟩) 0 0) 0 []) := by
    rw [← unhide HW2]
    have := World.ownsRow_lit (w.alloc (.cells #[.slice vo vn vc, .int .i64 fr, .int .i64 to, .int .i64 hi, .int .i64 lo] 26)) (e := 3) (size := 1) (base := w.heap.size + 1) #[] 0 (by simp) (by unfold maxLen; omega) rfl
    unfold Hid
    simpa using this
  have HLV := hide (specLevel13 ao n cap zs W2 (hr.grown G0) b1 HB1)
  have HR := hide hr
  have HG0 := hide G0
  have HP := hide hp
  have HPIN := hide hpin
  clear hr G0 hp hpin epl HL
  go_enter Try.func17, Try.ntmps17
  go_wp2_with fail
  rw [unhide HW2]
  clear HW2
  refine (unhide HLV).mono ?_
  rintro e w3 ⟨rfl, g3⟩
  have HG3 := hide (grown_trans (unhide HG0) g3)
  have HB3 := hide (at_rowS g3 (unhide HB0) (by simp))
  have HO3 := hide (own_grown (unhide HO0) g3)
  clear g3 HG0 HB0 HO0 HLV
  have HNIL : Hid (∀ W, w3.grownBy W none → L = [] → ∃ so sc, Ending.returned (.slice (some ⟨w.heap.size + 1, 0, none⟩) 0 0) = .returned (.slice so L.length sc) ∧ W.ownsRow w.heap.size 3 1 (.slice so L.length sc) L.length (L.map (Value.int .i64)) ∧ w.grownBy W none) := fun W g e => by
    subst e
    exact ⟨_, _, rfl, own_base (own_grown (unhide HO3) g) (by omega), grown_trans (unhide HG3) g⟩
  cases b1 with
  | false =>
    have HN := hide (unhide HNIL w3 (World.grownBy.refl _ _) (unhide HP).symm)
    go_wp2
    go_ret
    exact unhide HN
  | true =>
    obtain ⟨c0, c1, c2, c3, c4⟩ := scanCells (unhide HB3)
    go_wp2_with fail
    clear c0 c1 c2 c3 c4
    refine (unhide HBITS w3).mono ?_
    rintro e w4 ⟨rfl, g4⟩
    have HB4 := hide (at_rowS g4 (unhide HB3) (by simp))
    have HG4 := hide g4
    clear g4 HBITS
    obtain ⟨c0, c1, c2, c3, c4⟩ := scanCells (unhide HB4)
    cases b2 with
    | false =>
      have HN := hide (unhide HNIL w4 (unhide HG4) (unhide HP).symm)
      go_wp2
      go_ret
      exact unhide HN
    | true =>
      by_cases h0 : hi = 0
      · have n0 : (hi == 0) = true := by simp [h0]
        have e : L = [] := by
          have h := unhide HP
          rw [decide_eq_true h0] at h
          exact h.symm
        have HN := hide (unhide HNIL w4 (unhide HG4) e)
        go_wp2
        go_ret
        exact unhide HN
      · have n0 : (hi == 0) = false := by simp [h0]
        have HP2 : Hid (refineL (zigged zs) fr.toNat (to - fr + 1).toNat hi.toNat lo.toNat = L) := by
          have h := unhide HP
          rw [decide_eq_false h0] at h
          exact h
        obtain ⟨p1, p2, p3, p4, p5, p6⟩ := unhide HPIN rfl
        obtain ⟨k0, rfl⟩ := Int.eq_ofNat_of_zero_le p1
        obtain ⟨k1, rfl⟩ := Int.eq_ofNat_of_zero_le (show 0 ≤ to by omega)
        obtain ⟨l0, rfl⟩ := Int.eq_ofNat_of_zero_le p4
        obtain ⟨h9, rfl, HH9⟩ : ∃ h9 : Nat, hi = (h9 : Int) ∧ Hid (h9 = l0 + 1) := ⟨l0 + 1, by rcases p6 with h | h <;> omega, rfl⟩
        have em : ((k1 : Int) - (k0 : Int) + 1).toNat = k1 + 1 - k0 := by omega
        rw [em, Int.toNat_natCast, Int.toNat_natCast, Int.toNat_natCast] at HP2
        have HTZ := hide (specToZig ao n cap zs w4 ((unhide HR).grown (grown_trans (unhide HG3) (unhide HG4))) true (lev_nums (unhide HB1)) (zigged zs) rfl)
        clear h0 em HNIL HP HPIN
        go_wp2_with fail
        clear c0 c1 c2 c3 c4 n0
        refine (unhide HTZ).mono ?_
        rintro e w5 ⟨zo, zc, rfl, o5, g5⟩
        rw [zigged_len] at o5 ⊢
        obtain ⟨zb, rfl, hzb, _⟩ := own_at o5 (by omega)
        obtain ⟨Z, HZ⟩ : ∃ Z, Hid (zigged zs = Z) := ⟨_, rfl⟩
        have HZL : Hid (Z.length = 64) := by rw [← unhide HZ]; exact zigged_len zs
        have HLZ : Hid (∀ j, j < 64 → -16383 ≤ Z.getD j 0 ∧ Z.getD j 0 ≤ 16383) := fun j hj => by
          rw [← unhide HZ]
          unfold zigged
          rw [made_at _ j hj]
          exact (lev_at (unhide HB1)).2 _ (zz_lt j hj)
        rw [unhide HZ] at o5 HP2
        have hs3 : w.heap.size + 1 < w3.heap.size := ((unhide HO3).lt _ rfl).2
        have hs4 := (unhide HG4).size
        have HF5 : Hid (Fo w w5 #[.slice vo vn vc, .int .i64 k0, .int .i64 k1, .int .i64 h9, .int .i64 l0] (.slice (some ⟨w.heap.size + 1, 0, none⟩) 0 0) [] zb zc Z) :=
          ⟨at_rowS g5 (unhide HB4) (by simp), own_grown (own_grown (unhide HO3) (unhide HG4)) g5, own_base o5 (by omega), fun g e => by have e1 : w.heap.size + 1 = g := Option.some.inj e; omega, grown_trans (grown_trans (unhide HG3) (unhide HG4)) g5⟩
        clear o5 g5 HTZ HG3 HO3 HB3 HG4 HB4 hzb hs3 hs4 HZ
        obtain ⟨c0, c1, c2, c3, c4⟩ := scanCells (unhide HF5).sc
        go_wp2
        clear c0 c1 c2 c3 c4
        go_loopw [5, 7] (fun ov kv wr => ∃ (m : Nat) (so : Option Addr) (sc : Nat), m ≤ k1 + 1 - k0 ∧ kv = .int .i64 (k0 + m : Nat) ∧ ov = .slice so m sc ∧ Hid (Fo w wr #[.slice vo vn vc, .int .i64 k0, .int .i64 k1, .int .i64 h9, .int .i64 l0] (.slice so m sc) (refineL Z k0 m h9 l0) zb zc Z)) (fun _ kv _ => k1 + 1 - (intOf kv).toNat)
        case atStart => exact ⟨0, _, _, Nat.zero_le _, rfl, rfl, HF5⟩
        case round =>
          clear HF5
          obtain ⟨m, so, sc, hm, rfl, rfl, hF⟩ := hrel
          obtain ⟨d0, d1, d2, d3, d4⟩ := scanCells (unhide hF).sc
          by_cases hlt : m < k1 + 1 - k0
          · obtain ⟨kk, HKK⟩ : ∃ kk, Hid (k0 + m = kk) := ⟨_, rfl⟩
            have hkk : kk ≤ k1 := by have := unhide HKK; omega
            have hd : decide ((kk : Int) ≤ (k1 : Int)) = true := decide_eq_true (by omega)
            have i0 : (0 : Int) ≤ (kk : Int) := by omega
            have i1 : (kk : Int) < 64 := by omega
            rw [unhide HKK]
            have zc1 := (unhide hF).at (unhide HZL) kk (by omega)
            have hlev := unhide HLZ kk (by omega)
            obtain ⟨A, HA⟩ : ∃ A, Hid (refineL Z k0 m h9 l0 = A) := ⟨_, rfl⟩
            obtain ⟨R, HRR⟩ : ∃ R, Hid (refineL Z k0 (m + 1) h9 l0 = R) := ⟨_, rfl⟩
            have HAL : Hid (A.length = m) := by unfold Hid; rw [← unhide HA]; simp [refineL]
            have HRL : Hid (R.length = m + 1) := by unfold Hid; rw [← unhide HRR]; simp [refineL]
            have HNX : Hid (A ++ [bitI (Z.getD kk 0) h9 l0] = R) := by
              unfold Hid
              rw [← unhide HA, ← unhide HRR, ← unhide HKK]
              unfold refineL
              rw [List.range_succ, List.map_append]
              rfl
            generalize Z.getD kk 0 = zv at zc1 hlev HNX
            have hl13 : l0 ≤ 13 := by omega
            have hh14 : h9 ≤ 14 := by have := unhide HH9; omega
            have HABS := hide (fun W => specAbs zv (by omega) W)
            have HCUT := hide (fun W => specCut zv h9 (by omega) (by omega) W)
            have HAI : Hid (absI zv = (zv.natAbs : Int)) := by unfold Hid absI; split <;> omega
            have hna : zv.natAbs ≤ 32767 := by omega
            obtain ⟨na, HNA⟩ : ∃ na, Hid (zv.natAbs = na) := ⟨_, rfl⟩
            rw [unhide HNA] at HABS HAI hna
            have hand := and1_shr13 na l0 hna
            obtain ⟨bt, HBT⟩ : ∃ bt, Hid (na / 2 ^ l0 % 2 = bt) := ⟨_, rfl⟩
            rw [unhide HBT] at hand
            have hbt : bt ≤ 1 := by rw [← unhide HBT]; omega
            have HBI : Hid (bitI zv h9 l0 = if zv < 0 ∧ cutI zv h9 = 0 then -(bt : Int) else bt) := by
              have e : absI zv / 2 ^ l0 % 2 = (bt : Int) := by
                rw [unhide HAI, ← unhide HBT]
                simp
              unfold Hid bitI
              rw [e]
            have hq : 0 ≤ (na : Int) / 2 ^ l0 ∧ (na : Int) / 2 ^ l0 ≤ (na : Int) := ⟨Int.ediv_nonneg (by omega) (Int.le_of_lt (pow2_pos l0)), Int.ediv_le_self _ (by omega)⟩
            have eq1 := i64_in ((na : Int) / 2 ^ l0) (by omega)
            have eq2 := i64_in (bt : Int) (by omega)
            have eq3 := i64_in (-(bt : Int)) (by omega)
            have q1 : ¬ ((l0 : Int) < 0) := by omega
            have q2 : (l0 : Int).toNat = l0 := rfl
            rw [unhide HA] at hF
            have hsz := (unhide hF).size
            clear HA HAI HNA HBT hq
            go_wp2
            refine wp_region_noPanic ?_
            have HFD := hide ((unhide hF).new (grown_drew (World.grownBy.refl wr none)))
            refine wp_region_tail (fun W => W.cell? ⟨zb, kk, none⟩ = some (.int .i64 zv) ∧ W.cell? ⟨w.heap.size, 4, none⟩ = some (.int .i64 l0)) [true, true, true, true, false, true, true, false, false, false] (by kernel_rfl) (fun _ _ _ _ _ h => h) rfl (by kernel_rfl) ⟨zc1, d4⟩ ?_
            iterate 4
              refine heldF_take (v := ?_) (Or.inl ⟨by rfl, ?_⟩) ?_
              rotate_left 1
              · intro w' hSw
                try dsimp only at hSw
                obtain ⟨y1, y2⟩ := hSw
                go_simp
                try with_reducible rfl
              simp only [Act.put, List.setIfInBounds_toArray, List.set_cons_zero, List.set_cons_succ]
            refine heldF_skip ?_
            iterate 2
              refine heldF_take (v := ?_) (Or.inl ⟨by rfl, ?_⟩) ?_
              rotate_left 1
              · intro w' hSw
                try dsimp only at hSw
                obtain ⟨y1, y2⟩ := hSw
                go_simp
                try with_reducible rfl
              simp only [Act.put, List.setIfInBounds_toArray, List.set_cons_zero, List.set_cons_succ]
            refine heldF_skip (heldF_skip (heldF_skip (heldF_nil ?_)))
            iterate 4 refine tailF_skip ?_
            refine tailF_step (fun K hK => ?_)
            go_simp
            refine (unhide HABS _).mono ?_
            rintro e w3 ⟨rfl, rfl⟩
            refine hK.out _ _ ⟨zc1, d4⟩ ?_
            clear hK K
            iterate 2 refine tailF_skip ?_
            iterate 3
              refine tailF_step (fun K hK => ?_)
              go_simp
              refine hK.out _ _ ⟨zc1, d4⟩ ?_
              clear hK K
            refine tailF_nil (NoPanic.normal ?_)
            clear HABS hand eq1
            have HZV3 : wr.drew.cell? ⟨zb, kk, none⟩ = some (.int .i64 zv) := zc1
            generalize wr.drew = w3 at *
            have zc3 : w3.cell? ⟨zb, kk, none⟩ = some (.int .i64 zv) := HZV3
            obtain ⟨x0, x1, x2, x3, x4⟩ := scanCells (unhide HFD).sc
            clear zc1 d0 d1 d2 d3 d4 hF
            by_cases hneg : zv < 0
            · have hd2 : decide (zv < 0) = true := decide_eq_true hneg
              obtain ⟨cv, HCV⟩ : ∃ cv, Hid (cutI zv h9 = cv) := ⟨_, rfl⟩
              rw [unhide HCV] at HCUT HBI
              obtain ⟨bv, HBV⟩ : ∃ bv, Hid (bitI zv h9 l0 = bv) := ⟨_, rfl⟩
              rw [unhide HBV] at HBI HNX
              go_wp2
              refine wp_region_noPanic ?_
              have HFE := hide ((unhide HFD).new (grown_drew (World.grownBy.refl w3 none)))
              refine wp_region_tail (fun W => W.cell? ⟨zb, kk, none⟩ = some (.int .i64 zv) ∧ W.cell? ⟨w.heap.size, 3, none⟩ = some (.int .i64 h9)) [true, true, true, true, true, true, true, true, true, true, true, true, false, false, false] (by kernel_rfl) (fun _ _ _ _ _ h => h) rfl (by kernel_rfl) ⟨zc3, x3⟩ ?_
              iterate 12
                refine heldF_take (v := ?_) (Or.inl ⟨by rfl, ?_⟩) ?_
                rotate_left 1
                · intro w' hSw
                  try dsimp only at hSw
                  obtain ⟨y1, y2⟩ := hSw
                  go_simp
                  try with_reducible rfl
                simp only [Act.put, List.setIfInBounds_toArray, List.set_cons_zero, List.set_cons_succ]
              refine heldF_skip (heldF_skip (heldF_skip (heldF_nil ?_)))
              iterate 12 refine tailF_skip ?_
              refine tailF_step (fun K hK => ?_)
              go_simp
              refine (unhide HCUT _).mono ?_
              rintro e w4 ⟨rfl, rfl⟩
              refine hK.out _ _ ⟨zc3, x3⟩ ?_
              clear hK K
              by_cases hc0 : cv = 0
              · have hce : (cv == 0) = true := by simp [hc0]
                have ebv : bv = -(bt : Int) := by have h := unhide HBI; rw [if_pos ⟨hneg, hc0⟩] at h; exact h
                iterate 2
                  refine tailF_step (fun K hK => ?_)
                  go_simp
                  refine hK.out _ _ ⟨zc3, x3⟩ ?_
                  clear hK K
                refine tailF_nil (NoPanic.normal ?_)
                rw [ebv] at HNX
                generalize w3.drew = w4 at *
                clear hc0 hce ebv HBI HBV HCV HCUT
                clear x0 x1 x2 x3 x4 zc3 HZV3 HFD
                have hsz4 := (unhide HFE).size
                go_wp2_with (at_builtin; refine append_intS rfl _ _ rfl (w.heap.size + 1) (.slice so m sc) A rfl (unhide HFE).own (-(bt : Int)) rfl (by rw [unhide HAL]; omega) hsz4 R (unhide HNX) ?_)
                intro v7 w7 o7 g7 hat7
                have HF7 := hide ((unhide HFE).more o7 g7 hat7)
                rw [unhide HRL] at o7
                obtain ⟨so7, sc7, rfl⟩ := own_form o7
                rw [← unhide HRR] at HF7
                clear o7 g7 hat7 HFE HNX HAL HRL HRR
                go_wp2
                go_roundw
                case rel => exact ⟨m + 1, so7, sc7, by omega, by rw [show k0 + (m + 1) = kk + 1 by have := unhide HKK; omega]; go_num, rfl, HF7⟩
                case measure => have := unhide HKK; simp [intOf]; omega
              · have hce : (cv == 0) = false := by simp [hc0]
                have ebv : bv = (bt : Int) := by have h := unhide HBI; rw [if_neg (fun h => hc0 h.2)] at h; exact h
                iterate 2
                  refine tailF_step (fun K hK => ?_)
                  go_simp
                  refine hK.out _ _ ⟨zc3, x3⟩ ?_
                  clear hK K
                refine tailF_nil (NoPanic.normal ?_)
                rw [ebv] at HNX
                generalize w3.drew = w4 at *
                clear hc0 hce ebv HBI HBV HCV HCUT
                clear x0 x1 x2 x3 x4 zc3 HZV3 HFD
                have hsz4 := (unhide HFE).size
                go_wp2_with (at_builtin; refine append_intS rfl _ _ rfl (w.heap.size + 1) (.slice so m sc) A rfl (unhide HFE).own ((bt : Int)) rfl (by rw [unhide HAL]; omega) hsz4 R (unhide HNX) ?_)
                intro v7 w7 o7 g7 hat7
                have HF7 := hide ((unhide HFE).more o7 g7 hat7)
                rw [unhide HRL] at o7
                obtain ⟨so7, sc7, rfl⟩ := own_form o7
                rw [← unhide HRR] at HF7
                clear o7 g7 hat7 HFE HNX HAL HRL HRR
                go_wp2
                go_roundw
                case rel => exact ⟨m + 1, so7, sc7, by omega, by rw [show k0 + (m + 1) = kk + 1 by have := unhide HKK; omega]; go_num, rfl, HF7⟩
                case measure => have := unhide HKK; simp [intOf]; omega
            · have hd2 : decide (zv < 0) = false := decide_eq_false hneg
              have ebv : bitI zv h9 l0 = (bt : Int) := by have h := unhide HBI; rw [if_neg (fun h => hneg h.1)] at h; exact h
              rw [ebv] at HNX
              clear ebv HBI HCUT
              go_wp2
              go_quiet (fail)
              have HFE := hide ((unhide HFD).new (grown_drewN (World.grownBy.refl w3 none) nq))
              generalize w3.drewN nq = w4 at *
              clear x0 x1 x2 x3 x4 zc3 HZV3 HFD
              have hsz4 := (unhide HFE).size
              go_wp2_with (at_builtin; refine append_intS rfl _ _ rfl (w.heap.size + 1) (.slice so m sc) A rfl (unhide HFE).own ((bt : Int)) rfl (by rw [unhide HAL]; omega) hsz4 R (unhide HNX) ?_)
              intro v7 w7 o7 g7 hat7
              have HF7 := hide ((unhide HFE).more o7 g7 hat7)
              rw [unhide HRL] at o7
              obtain ⟨so7, sc7, rfl⟩ := own_form o7
              rw [← unhide HRR] at HF7
              clear o7 g7 hat7 HFE HNX HAL HRL HRR
              go_wp2
              go_roundw
              case rel => exact ⟨m + 1, so7, sc7, by omega, by rw [show k0 + (m + 1) = kk + 1 by have := unhide HKK; omega]; go_num, rfl, HF7⟩
              case measure => have := unhide HKK; simp [intOf]; omega
          · obtain rfl : m = k1 + 1 - k0 := by omega
            have hd : decide (((k0 + (k1 + 1 - k0) : Nat) : Int) ≤ (k1 : Int)) = false := decide_eq_false (by omega)
            rw [unhide HP2] at hF
            have hLl : L.length = k1 + 1 - k0 := by rw [← unhide HP2]; simp [refineL]
            have HRES : Hid (∃ so' sc', Ending.returned (.slice so (k1 + 1 - k0) sc) = .returned (.slice so' L.length sc') ∧ wr.ownsRow w.heap.size 3 1 (.slice so' L.length sc') L.length (L.map (Value.int .i64)) ∧ w.grownBy wr none) := by
              refine ⟨so, sc, by rw [hLl], ?_, (unhide hF).grown⟩
              have h := (unhide hF).own
              rw [← hLl] at h
              exact own_base h (by omega)
            clear hLl hF
            go_wp2
            go_ret
            exact unhide HRES

end Go.Proofs.Ytfgglainjaplgaa

namespace Go.Proofs.Ytfgglainjaplgaa
open Go.RowKit

set_option maxHeartbeats 400000 in
theorem sameIntsQ (ao bo : Option Addr) (n cap cap' : Nat) (zs : List Int) (w : World) (hx : Rd .i64 w ao n zs) (hy : Rd .i64 w bo n zs) (hn : n ≤ 4194304) :
    Calls Try.prog 13 #[.slice ao n cap, .slice bo n cap'] w fun e w' => e = .returned (.bool true) ∧ ∃ q, w' = w.drewN q := by
  obtain ⟨hl, hc⟩ := hx
  obtain ⟨_, hd⟩ := hy
  have hne : ((n : Int) != n) = false := by simp
  go_enter Try.func13, Try.ntmps13
  go_wp2
  go_loopw [5] (fun i wr => ∃ k q : Nat, k ≤ n ∧ i = .int .i64 k ∧ wr = w.drewN q) (fun i _ => n - (intOf i).toNat)
  case atStart => exact ⟨0, 0, Nat.zero_le _, rfl, rfl⟩
  case round =>
    obtain ⟨k, q, hk, rfl, rfl⟩ := hrel
    by_cases hlt : k < n
    · obtain ⟨b, off, rfl, hcb⟩ := hc k hlt
      obtain ⟨b', off', rfl, hcd⟩ := hd k hlt
      generalize zs.getD k 0 = x at hcb hcd
      have hik : (k : Int) < (n : Int) := by omega
      clear hc hd
      go_wp2
      go_quiet (fail)
      go_wp2
      go_roundw
      case rel => exact ⟨k + 1, _, by omega, by go_num, rfl⟩
      case measure => simp [intOf]; omega
    · go_wp2
      go_ret
      exact ⟨rfl, _, rfl⟩
theorem sameInts (ao bo : Option Addr) (n cap cap' : Nat) (zs : List Int) (w : World) (hx : Rd .i64 w ao n zs) (hy : Rd .i64 w bo n zs) (hn : n ≤ 4194304) :
    Calls Try.prog 13 #[.slice ao n cap, .slice bo n cap'] w fun e w' => e = .returned (.bool true) ∧ w.grownBy w' none := by
  refine (sameIntsQ ao bo n cap cap' zs w hx hy hn).mono ?_
  rintro e w' ⟨rfl, q, rfl⟩
  exact ⟨rfl, grown_drewN (World.grownBy.refl _ _) _⟩

end Go.Proofs.Ytfgglainjaplgaa
