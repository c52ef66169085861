/-
  ScriptFor, in the specification: kind 2, and all kinds together.
-/
import Derived.Test.YtnjcmlmgjoaeeaaScriptFor
namespace Go.Proofs.Ytnjcmlmgjoaeeaa
open Go.RowKit

/-- Scans are appended to a script that is being made. -/
theorem Sf.app {w wr wn : World} {fx : Array Value} {v av : Value} {X : List Scn} {A : List Int} {F : List Nat} (h : Sf w wr fx v av X A F) (gn : wr.grownBy wn none) {ops : Array Oper} {rest : List Oper} {o : Oper} {a : Act} {Q : Exit → Act → World → Prop} (hgd : o.guard = none) (s x : Operand)
    (ho : o.op = .call { callee := .builtin .append, args := #[s, x], argTypes := #[27, 27] }) (hs : a.eval s = v) (cs : Array Value) (m : Nat) (V : Nat → Nat → Value) (hcs : cs.toList = rowsK m 5 V) (M : List Scn) (hM : M.length = m) (Gs : List (List Nat)) (hGs : Gs.length = m) (hu : ∀ i (h : i < M.length), OwScE wn (V i) M[i] (Gs.getD i [])) (hG : Gs.flatten.Nodup) (hlo : ∀ x ∈ Gs.flatten, wr.heap.size ≤ x) (h1c : ∀ u ∈ cs.toList, u.oneCell' = true)
    (H : Nat) (hH : wn.heap.size = H) (hx : a.eval x = .slice (some ⟨H, 0, none⟩) m m) (hb : X.length + m ≤ 1000) (R : List Scn) (hR : X ++ M = R)
    (hK : ∀ v' w' F', Sf w w' fx v' av R A F' → wpList Try.prog ops Q rest (a.put o.dst v') w') :
    wpList Try.prog ops Q (o :: rest) a (wn.alloc (.cells cs 38)) := by
  have hn := h.new gn
  refine append_rowsG (w := wn) OwScE.ok Try.underlying27 info_scan rfl (by decide) (by decide) hgd s x ho v X F hs hn.own hn.nd cs m V hcs M hM Gs hGs hu hG (fun y hy hF => ?_) h1c H hH hx (by omega) R hR ?_
  · have h1 := hlo y hy
    have h2 := OwSs.ok.lt _ _ _ _ h.own y hF
    omega
  · intro v' w' F' o' n' m' g'
    exact hK v' w' F' (h.push (G := Gs.flatten) gn o' n' m' hlo g')

/-- A list of numbers appended to a new one. -/
theorem append_copyS {w : World} {ops : Array Oper} {rest : List Oper} {o : Oper} {a : Act} {Q : Exit → Act → World → Prop} (hgd : o.guard = none) (s x : Operand)
    (ho : o.op = .call { callee := .builtin .append, args := #[s, x], argTypes := #[36, 36] })
    (hs : a.eval s = .slice (some ⟨w.heap.size, 0, none⟩) 0 0) (ad : Addr) (n ac : Nat) (A : List Int) (hn : A.length = n) (hx : a.eval x = .slice (some ad) n ac) (hnews : ∀ j u, (A.map (Value.int .i64))[j]? = some u → (w.alloc (.cells #[] 3)).cell? (ad.add j) = some u) (hb : n ≤ 1000)
    (hK : ∀ v' w', w'.ownsRow w.heap.size 3 1 v' n (A.map (Value.int .i64)) → w.grownBy w' none → (∀ g, v'.ownBlock = some g → w.heap.size ≤ g) → wpList Try.prog ops Q rest (a.put o.dst v') w') :
    wpList Try.prog ops Q (o :: rest) a (w.alloc (.cells #[] 3)) := by
  obtain ⟨i0, hi, hz0, hz1, hz2⟩ := info_parts info_iS
  refine wpList_append_own_at _ hgd s x 36 ho w.heap.size 3 i0 _ 1 8 Try.underlying36 hi hz0 hz1 hz2 rfl (by decide) _ 0 [] hs (World.ownsRow_lit w #[] 0 (Nat.le_refl _) (by unfold maxLen; omega) rfl) ad n ac (A.map (Value.int .i64)) hx (by simp [hn]) hnews (by intro u hu; obtain ⟨y, _, rfl⟩ := List.mem_map.1 hu; rfl) (by unfold maxLen; omega) (by omega) (by simp) ?_
  intro v' w' h1 h2 _ h4
  rw [Nat.zero_add, List.nil_append] at h1
  have hga : w.grownBy w' none := by
    refine grown_new (World.grownBy_alloc w (.cells #[] 3) none) h2 (fun g e => ?_)
    have e9 : w.heap.size = g := Option.some.inj e
    omega
  exact hK v' w' h1 hga (fun g e => (h1.lt g e).1)
theorem copy_news {w : World} {g n ac base : Nat} {A : List Int} (hA : A.length = n) (h : w.ownsRow base 3 1 (.slice (some ⟨g, 0, none⟩) n ac) A.length (A.map (Value.int .i64))) : ∀ j u, (A.map (Value.int .i64))[j]? = some u → (w.alloc (.cells #[] 3)).cell? ((⟨g, 0, none⟩ : Addr).add j) = some u := by
  rw [hA] at h
  intro j u hj
  have hl : j < n := by
    have := (List.getElem?_eq_some_iff.1 hj).1
    simpa [hA] using this
  rw [Addr.add_lit, Nat.zero_add]
  refine (World.grownBy_alloc w (.cells #[] 3) none).cell ?_ (by simp)
  rw [h.cellAt j (by omega)]
  exact hj

theorem flat_len (f : Int → List Scn) (m : Nat) (hf : ∀ i, (f i).length = m) : ∀ l : List Int, (l.flatMap f).length = l.length * m
  | [] => by simp
  | a :: l => by rw [List.flatMap_cons, List.length_append, flat_len f m hf l, hf a, List.length_cons, Nat.add_mul, Nat.one_mul, Nat.add_comm]
theorem scripts_short (n : Nat) (hn : n ≤ 4) (i : Nat) (P : List Scn) (f : Int → List Scn) (hP : P.length ≤ 60) (hf : ∀ i, (f i).length ≤ 2) : (P ++ ((allC n).take i).flatMap f).length ≤ 100 := by
  have hg : ∀ l : List Int, (l.flatMap f).length ≤ l.length * 2 := fun l => by
    induction l with
    | nil => simp
    | cons a l ih =>
      have := hf a
      rw [List.flatMap_cons, List.length_append, List.length_cons]
      omega
  have h1 := hg ((allC n).take i)
  have h2 : ((allC n).take i).length ≤ 4 := by rw [List.length_take]; simp [allC]; omega
  rw [List.length_append]
  omega
theorem each_short (n : Nat) (hn : n ≤ 4) (f : Int → List Scn) (hf : ∀ i, (f i).length ≤ 2) : (eachC n f).length ≤ 8 := by
  have hg : ∀ l : List Int, (l.flatMap f).length ≤ l.length * 2 := fun l => by
    induction l with
    | nil => simp
    | cons a l ih =>
      have := hf a
      rw [List.flatMap_cons, List.length_append, List.length_cons]
      omega
  have h1 := hg (allC n)
  have h2 : (allC n).length = n := by simp [allC]
  unfold eachC
  omega
theorem scr_len1 (n : Nat) : ([] ++ [(⟨allC n, 0, 0, 0, 1⟩ : Scn)]).length ≤ 60 := by simp
theorem scr_len2 (n : Nat) (hn : n ≤ 4) : (([] ++ [(⟨allC n, 0, 0, 0, 1⟩ : Scn)]) ++ eachC n (fun i => [(⟨[i], 1, 5, 0, 2⟩ : Scn), (⟨[i], 6, 63, 0, 2⟩ : Scn)])).length ≤ 60 := by
  have := each_short n hn (fun i => [(⟨[i], 1, 5, 0, 2⟩ : Scn), (⟨[i], 6, 63, 0, 2⟩ : Scn)]) (fun _ => by simp)
  rw [List.length_append]
  have := scr_len1 n
  simp only [List.nil_append, List.length_singleton]
  omega
theorem scr_len3 (n : Nat) (hn : n ≤ 4) : ((([] ++ [(⟨allC n, 0, 0, 0, 1⟩ : Scn)]) ++ eachC n (fun i => [(⟨[i], 1, 5, 0, 2⟩ : Scn), (⟨[i], 6, 63, 0, 2⟩ : Scn)])) ++ eachC n (fun i => [(⟨[i], 1, 63, 2, 1⟩ : Scn)])).length ≤ 100 := by
  have h1 := each_short n hn (fun i => [(⟨[i], 1, 5, 0, 2⟩ : Scn), (⟨[i], 6, 63, 0, 2⟩ : Scn)]) (fun _ => by simp)
  have h2 := each_short n hn (fun i => [(⟨[i], 1, 63, 2, 1⟩ : Scn)]) (fun _ => by simp)
  rw [List.length_append, List.length_append]
  simp only [List.nil_append, List.length_singleton]
  omega
theorem scr_len4 (n : Nat) (hn : n ≤ 4) : (((([] ++ [(⟨allC n, 0, 0, 0, 1⟩ : Scn)]) ++ eachC n (fun i => [(⟨[i], 1, 5, 0, 2⟩ : Scn), (⟨[i], 6, 63, 0, 2⟩ : Scn)])) ++ eachC n (fun i => [(⟨[i], 1, 63, 2, 1⟩ : Scn)])) ++ [(⟨allC n, 0, 0, 1, 0⟩ : Scn)]).length ≤ 60 := by
  have h1 := each_short n hn (fun i => [(⟨[i], 1, 5, 0, 2⟩ : Scn), (⟨[i], 6, 63, 0, 2⟩ : Scn)]) (fun _ => by simp)
  have h2 := each_short n hn (fun i => [(⟨[i], 1, 63, 2, 1⟩ : Scn)]) (fun _ => by simp)
  rw [List.length_append, List.length_append, List.length_append]
  simp only [List.nil_append, List.length_singleton]
  omega

set_option maxRecDepth 20000 in
set_option maxHeartbeats 6400000 in
theorem specScript2 (p wd ht rs : Int) (fo : Option Addr) (n fc : Nat) (C : Nat → Nat → Int) (w : World) (hr : RdC w fo n C) (fb : Bool) (HFB : Hid (frameB p wd ht rs n C = fb)) (L : List Scn) (HL : Hid (scriptG fb n 2 = L)) :
    Calls Try.prog 12 #[.agg #[.int .i64 p, .int .i64 wd, .int .i64 ht, .int .i64 rs, .slice fo n fc], .int .i64 2] w fun e w' => ∃ u F, e = .returned u ∧ OwSs w' u L F ∧ F.Nodup ∧ (∀ g ∈ F, w.heap.size ≤ g) ∧ w.grownBy w' none := by
  have hn4 : fb = true → n ≤ 4 := fun e => by have := unhide HFB; rw [e] at this; exact (geo_of this).n4
  obtain ⟨W2, HW2⟩ : ∃ W2, Hid ((w.alloc (.cells #[.int .i64 p, .int .i64 wd, .int .i64 ht, .int .i64 rs, .slice fo n fc] 26)).alloc (.cells #[] 38) = W2) := ⟨_, rfl⟩
  have G0 : w.grownBy W2 none := by rw [← unhide HW2]; exact grown_alloc (grown_alloc (World.grownBy.refl _ _) _) _
  have B0 : W2.heap[w.heap.size]? = some (.cells #[.int .i64 p, .int .i64 wd, .int .i64 ht, .int .i64 rs, .slice fo n fc] 26 (0, 0)) := by
    rw [← unhide HW2]
    exact at_rowS (World.grownBy_alloc _ _ none) (heap_alloc_new w _) (by simp)
  have O0 : W2.ownsRow (w.heap.size + 1) 38 5 (.slice (some ⟨w.heap.size + 1, 0, none⟩) 0 0) 0 [] := by
    rw [← unhide HW2]
    have := World.ownsRow_lit (w.alloc (.cells #[.int .i64 p, .int .i64 wd, .int .i64 ht, .int .i64 rs, .slice fo n fc] 26)) (e := 38) (size := 5) (base := w.heap.size + 1) #[] 0 (by simp) (by unfold maxLen; omega) rfl
    simpa using this
  have OS : OwSs W2 (.slice (some ⟨w.heap.size + 1, 0, none⟩) 0 0) [] [w.heap.size + 1] := ⟨fun _ _ => .slice none 0 0, [], rfl, own_base O0 (Nat.zero_le _), fun i hi => absurd hi (by simp), rfl⟩
  have HFR := hide (specFrameOk p wd ht rs fo n fc C W2 (hr.grown G0) fb HFB)
  have HB0 := hide B0
  have HG0 := hide G0
  have HOS := hide OS
  rw [← unhide HW2] at B0
  obtain ⟨f0, f1, f2, f3, f4⟩ := frameCells' B0
  have HN4 := hide hn4
  clear hr G0 B0 O0 OS hn4
  go_enter Try.func12, Try.ntmps12
  go_wp2_with fail
  rw [unhide HW2]
  clear HW2 f0 f1 f2 f3 f4
  refine (unhide HFR).mono ?_
  rintro e w3 ⟨rfl, g3⟩
  have HG3 := hide (grown_trans (unhide HG0) g3)
  have HO3 := hide (OwSs.ok.keep (unhide HOS) g3)
  have HB3 := hide (at_rowS g3 (unhide HB0) (by simp))
  have HNIL : Hid (∀ W, w3.grownBy W none → L = [] → OwSs W (.slice (some ⟨w.heap.size + 1, 0, none⟩) 0 0) L [w.heap.size + 1] ∧ w.grownBy W none) := fun W g e => by subst e; exact ⟨OwSs.ok.keep (unhide HO3) g, grown_trans (unhide HG3) g⟩
  clear g3 HFR HG0 HOS HB0
  cases fb with
  | false =>
    have e : L = [] := by rw [← unhide HL]; rfl
    have HF := hide (unhide HNIL w3 (World.grownBy.refl _ _) e)
    go_wp2
    go_ret
    exact ⟨_, _, rfl, (unhide HF).1, by simp, fun g hg => by simp at hg; omega, (unhide HF).2⟩
  | true =>
    have hn := unhide HN4 rfl
    have hn1 := (geo_of (unhide HFB)).n1
    have HB : Hid (decide ((0 : Int) ≤ 2 ∧ (2 : Int) ≤ 2) = true) := rfl
    go_wp2_with fail
    refine (between 2 0 2 true HB w3).mono ?_
    rintro e w3 ⟨rfl, rfl⟩
    have HS0 : Hid (Sf w (w3.alloc (.cells #[] 3)) #[.int .i64 p, .int .i64 wd, .int .i64 ht, .int .i64 rs, .slice fo n fc] (.slice (some ⟨w.heap.size + 1, 0, none⟩) 0 0) (.slice (some ⟨w3.heap.size, 0, none⟩) 0 0) [] ((allC n).take 0) [w.heap.size + 1]) := by
      have gA : w3.grownBy (w3.alloc (.cells #[] 3)) none := World.grownBy_alloc _ _ _
      have hlt := OwSs.ok.lt _ _ _ _ (unhide HO3) (w.heap.size + 1) (by simp)
      refine ⟨OwSs.ok.keep (unhide HO3) gA, by simp, fun g hg => by simp at hg; omega, ?_, fun g e hx => ?_, at_rowS gA (unhide HB3) (by simp), grown_trans (unhide HG3) gA⟩
      · exact World.ownsRow_lit w3 #[] 0 (by omega) (by unfold maxLen; omega) rfl
      · have e9 : w3.heap.size = g := Option.some.inj e
        simp at hx; omega
    clear HNIL HG3 HO3 HB3 HFB HN4
    have c4 : (w3.alloc (.cells #[] 3)).cell? ⟨w.heap.size, 4, none⟩ = some (.slice fo n fc) := (frameCells' (unhide HS0).fr).2.2.2.2
    go_wp2
    clear c4
    go_loopw [6, 7] (fun av iv wr => ∃ (i : Nat) (ao : Option Addr) (ac : Nat) (F : List Nat), i ≤ n ∧ iv = .int .i64 i ∧ av = .slice ao i ac ∧ Hid (Sf w wr #[.int .i64 p, .int .i64 wd, .int .i64 ht, .int .i64 rs, .slice fo n fc] (.slice (some ⟨w.heap.size + 1, 0, none⟩) 0 0) (.slice ao i ac) [] ((allC n).take i) F)) (fun _ iv _ => n - (intOf iv).toNat)
    case atStart => exact ⟨0, _, _, _, Nat.zero_le _, rfl, rfl, HS0⟩
    case round =>
      clear HS0
      obtain ⟨i, ao, ac, F, hin, rfl, rfl, hS⟩ := hrel
      have c4 : wr.cell? ⟨w.heap.size, 4, none⟩ = some (.slice fo n fc) := (frameCells' (unhide hS).fr).2.2.2.2
      have hli : ((allC n).take i).length = i := by simp [allC]; omega
      by_cases hlt : i < n
      · have hd : decide ((i : Int) < (n : Int)) = true := decide_eq_true (by omega)
        obtain ⟨T, HTT⟩ : ∃ T, Hid ((allC n).take i = T) := ⟨_, rfl⟩
        obtain ⟨R, HRR⟩ : ∃ R, Hid ((allC n).take (i + 1) = R) := ⟨_, rfl⟩
        rw [unhide HTT] at hS hli
        have HLI := hide hli
        have HNX : Hid (T ++ [(i : Int)] = R) := by unfold Hid; rw [← unhide HTT, ← unhide HRR]; exact allC_next n i hlt
        have HLR : Hid (R.length = i + 1) := by unfold Hid; rw [← unhide HRR]; simp [allC]; omega
        clear hli
        go_wp2_with (at_builtin; refine append_intS rfl _ _ rfl (w.heap.size + 1) (.slice ao i ac) T rfl (unhide hS).al (i : Int) rfl (by rw [unhide HLI]; omega) (unhide hS).size R (unhide HNX) ?_)
        intro v5 w5 o5 g5 hat5
        have HS5 := hide ((unhide hS).more o5 g5 hat5)
        rw [unhide HLR] at o5
        obtain ⟨ao5, ac5, rfl⟩ := own_form o5
        rw [← unhide HRR] at HS5
        clear o5 g5 hat5 hS HLI c4 HNX HLR HTT
        go_wp2
        go_roundw
        case rel => exact ⟨i + 1, ao5, ac5, F, by omega, by go_num, rfl, HS5⟩
        case measure => simp [intOf]; omega
      · obtain rfl : n = i := by omega
        have hd : decide ((n : Int) < (n : Int)) = false := decide_eq_false (by omega)
        have hta : (allC n).take n = allC n := List.take_of_length_le (by simp [allC])
        rw [hta] at hS
        have HLA : Hid ((allC n).length = n) := by unfold Hid; simp [allC]
        clear hta hli c4
        obtain ⟨ga, eao, _, _⟩ := own_at (n := n) (by have h9 := (unhide hS).al; rw [unhide HLA] at h9; exact h9) hn1
        subst eao
        have c4 : wr.cell? ⟨w.heap.size, 4, none⟩ = some (.slice fo n fc) := (frameCells' (unhide hS).fr).2.2.2.2
        obtain ⟨X, HX⟩ : ∃ X, Hid (([] : List Scn) = X) := ⟨_, hide rfl⟩
        have HXL : Hid (X.length ≤ 100) := by unfold Hid; rw [← unhide HX]; first | exact Nat.zero_le _ | exact scr_len3 n hn
        rw [unhide HX] at hS
        go_wp2_with (first | (at_builtin; refine append_copyS (w := wr) rfl _ _ rfl rfl ⟨ga, 0, none⟩ n ac (allC n) (unhide HLA) rfl (copy_news (unhide HLA) (unhide hS).al) (by omega) ?_; intro v4 w4 o4 g4 l4; obtain ⟨co, cc, rfl⟩ := own_form o4; have G4 := hide g4; have O4 := hide o4; have L4 := hide l4; have HU : Hid (∀ j (h : j < [(⟨allC n, 0, 0, 0, 1⟩ : Scn)].length), OwScE w4 ((fun _ => five (.slice co n cc) (.int .i64 0) (.int .i64 0) (.int .i64 0) (.int .i64 1)) j) [(⟨allC n, 0, 0, 0, 1⟩ : Scn)][j] ([blk (.slice co n cc)].getD j [])) := (fun j h => by obtain rfl : j = 0 := (by simpa using h); exact ⟨⟨rfl, rfl, rfl, rfl⟩, (by show w4.ownsRow 0 _ _ _ (allC n).length _; rw [unhide HLA]; exact own_base (unhide O4) (Nat.zero_le _)), rfl⟩); clear o4 g4 l4) | (at_builtin; refine Sf.app (wn := w4) (unhide hS) (unhide G4) rfl _ _ rfl rfl #[.slice co n cc, .int .i64 0, .int .i64 0, .int .i64 0, .int .i64 1] 1 (fun _ => five (.slice co n cc) (.int .i64 0) (.int .i64 0) (.int .i64 0) (.int .i64 1)) rfl [(⟨allC n, 0, 0, 0, 1⟩ : Scn)] rfl [blk (.slice co n cc)] rfl (unhide HU) (by simp [blk_nodup]) (fun x hx => unhide L4 x (mem_blk.1 (by simpa using hx))) (by intro u hu; simp at hu; first | (rcases hu with rfl | rfl | rfl | rfl <;> rfl) | (rcases hu with rfl | rfl | rfl <;> rfl)) w4.heap.size rfl rfl (by have := unhide HXL; omega) _ rfl ?_))
        intro v5 w5 F5 S5
        obtain ⟨vo5, vc5, rfl⟩ := OwG.form S5.own
        obtain ⟨ln, HLN⟩ : ∃ ln, Hid ((X ++ [(⟨allC n, 0, 0, 0, 1⟩ : Scn)]).length = ln) := ⟨_, hide rfl⟩
        rw [unhide HLN] at S5 ⊢
        rw [← unhide HX] at S5
        have HA1 := hide S5
        clear S5 HU G4 O4 L4 HLN hS HX HXL
        clear c4
        go_wp2
        go_loopw [5, 9] (fun ov iv wr => ∃ (i : Nat) (vo : Option Addr) (vn vc : Nat) (F : List Nat), i ≤ n ∧ iv = .int .i64 i ∧ ov = .slice vo vn vc ∧ Hid (Sf w wr #[.int .i64 p, .int .i64 wd, .int .i64 ht, .int .i64 rs, .slice fo n fc] (.slice vo vn vc) (.slice (some ⟨ga, 0, none⟩) n ac) (([] ++ [(⟨allC n, 0, 0, 0, 1⟩ : Scn)]) ++ ((allC n).take i).flatMap (fun i => [(⟨[i], 1, 5, 0, 2⟩ : Scn), (⟨[i], 6, 63, 0, 2⟩ : Scn)])) (allC n) F)) (fun _ iv _ => n - (intOf iv).toNat)
        case atStart => exact ⟨0, _, _, _, _, Nat.zero_le _, rfl, rfl, by unfold Hid; rw [List.take_zero, List.flatMap_nil, List.append_nil]; exact unhide HA1⟩
        case round =>
          clear HA1
          obtain ⟨i, vo, vn, vc, F, hin, rfl, rfl, hS⟩ := hrel
          by_cases hlt : i < n
          · have hd2 : decide ((i : Int) < (n : Int)) = true := decide_eq_true (by omega)
            obtain ⟨X, HX⟩ : ∃ X, Hid (([] ++ [(⟨allC n, 0, 0, 0, 1⟩ : Scn)]) ++ ((allC n).take i).flatMap (fun i => [(⟨[i], 1, 5, 0, 2⟩ : Scn), (⟨[i], 6, 63, 0, 2⟩ : Scn)]) = X) := ⟨_, hide rfl⟩
            obtain ⟨R, HR⟩ : ∃ R, Hid (([] ++ [(⟨allC n, 0, 0, 0, 1⟩ : Scn)]) ++ ((allC n).take (i + 1)).flatMap (fun i => [(⟨[i], 1, 5, 0, 2⟩ : Scn), (⟨[i], 6, 63, 0, 2⟩ : Scn)]) = R) := ⟨_, hide rfl⟩
            have HNX : Hid (X ++ [(⟨[(i : Int)], 1, 5, 0, 2⟩ : Scn), (⟨[(i : Int)], 6, 63, 0, 2⟩ : Scn)] = R) := by
              unfold Hid
              rw [← unhide HX, ← unhide HR, List.append_assoc]
              exact congrArg _ (eachC_next n i hlt (fun i => [(⟨[i], 1, 5, 0, 2⟩ : Scn), (⟨[i], 6, 63, 0, 2⟩ : Scn)]))
            have HXL : Hid (X.length ≤ 100) := by
              unfold Hid
              rw [← unhide HX]
              exact scripts_short n hn i _ _ (by first | exact scr_len1 n | exact scr_len2 n hn | exact scr_len3 n hn | exact scr_len4 n hn) (fun _ => by simp)
            rw [unhide HX] at hS
            have HGA : Hid (wr.grownBy ((wr.alloc (.cells #[.int .i64 (i : Int)] 3)).alloc (.cells #[.int .i64 (i : Int)] 3)) none) := grown_alloc (World.grownBy_alloc _ _ _) _
            have HU : Hid (∀ j (h : j < [(⟨[(i : Int)], 1, 5, 0, 2⟩ : Scn), (⟨[(i : Int)], 6, 63, 0, 2⟩ : Scn)].length), OwScE ((wr.alloc (.cells #[.int .i64 (i : Int)] 3)).alloc (.cells #[.int .i64 (i : Int)] 3)) ((fun q => if q = 0 then five (.slice (some ⟨wr.heap.size, 0, none⟩) 1 1) (.int .i64 1) (.int .i64 5) (.int .i64 0) (.int .i64 2) else five (.slice (some ⟨wr.heap.size + 1, 0, none⟩) 1 1) (.int .i64 6) (.int .i64 63) (.int .i64 0) (.int .i64 2)) j) [(⟨[(i : Int)], 1, 5, 0, 2⟩ : Scn), (⟨[(i : Int)], 6, 63, 0, 2⟩ : Scn)][j] ([[wr.heap.size], [wr.heap.size + 1]].getD j [])) := fun j h => by
              have hj : j = 0 ∨ j = 1 := by simp at h; omega
              rcases hj with rfl | rfl
              · refine ⟨⟨rfl, rfl, rfl, rfl⟩, ?_, rfl⟩
                exact own_grown (World.ownsRow_lit wr #[.int .i64 (i : Int)] 1 (Nat.zero_le _) (by unfold maxLen; omega) rfl) (World.grownBy_alloc _ _ _)
              · refine ⟨⟨rfl, rfl, rfl, rfl⟩, ?_, rfl⟩
                have h9 := World.ownsRow_lit (e := 3) (size := 1) (base := 0) (wr.alloc (.cells #[.int .i64 (i : Int)] 3)) #[.int .i64 (i : Int)] 1 (Nat.zero_le _) (by unfold maxLen; omega) rfl
                have e9 : (wr.alloc (.cells #[.int .i64 (i : Int)] 3)).heap.size = wr.heap.size + 1 := by simp
                rw [e9] at h9
                exact h9
            go_wp2_with (at_builtin; refine Sf.app (wn := (wr.alloc (.cells #[.int .i64 (i : Int)] 3)).alloc (.cells #[.int .i64 (i : Int)] 3)) (unhide hS) (unhide HGA) rfl _ _ rfl rfl #[.slice (some ⟨wr.heap.size, 0, none⟩) 1 1, .int .i64 1, .int .i64 5, .int .i64 0, .int .i64 2, .slice (some ⟨wr.heap.size + 1, 0, none⟩) 1 1, .int .i64 6, .int .i64 63, .int .i64 0, .int .i64 2] 2 (fun q => if q = 0 then five (.slice (some ⟨wr.heap.size, 0, none⟩) 1 1) (.int .i64 1) (.int .i64 5) (.int .i64 0) (.int .i64 2) else five (.slice (some ⟨wr.heap.size + 1, 0, none⟩) 1 1) (.int .i64 6) (.int .i64 63) (.int .i64 0) (.int .i64 2)) rfl [(⟨[(i : Int)], 1, 5, 0, 2⟩ : Scn), (⟨[(i : Int)], 6, 63, 0, 2⟩ : Scn)] rfl [[wr.heap.size], [wr.heap.size + 1]] rfl (unhide HU) (by simp) (fun x hx => by simp at hx; omega) (fun u hu => List.all_eq_true.1 (show (#[.slice (some ⟨wr.heap.size, 0, none⟩) 1 1, .int .i64 1, .int .i64 5, .int .i64 0, .int .i64 2, .slice (some ⟨wr.heap.size + 1, 0, none⟩) 1 1, .int .i64 6, .int .i64 63, .int .i64 0, .int .i64 2] : Array Value).toList.all (fun u => u.oneCell') = true from rfl) u hu) (wr.heap.size + 2) (by simp) rfl (by have := unhide HXL; omega) R (unhide HNX) ?_)
            intro v5 w5 F5 S5
            obtain ⟨vo5, vc5, rfl⟩ := OwG.form S5.own
            have HS5 := hide S5
            obtain ⟨ln, HLN⟩ : ∃ ln, Hid (R.length = ln) := ⟨_, hide rfl⟩
            rw [unhide HLN] at HS5 ⊢
            rw [← unhide HR] at HS5
            clear S5 HU HGA hS HNX HXL HX HLN
            go_wp2
            go_roundw
            case rel => exact ⟨i + 1, vo5, ln, vc5, F5, by omega, by go_num, rfl, HS5⟩
            case measure => simp [intOf]; omega
          · obtain rfl : n = i := by omega
            have hd2 : decide ((n : Int) < (n : Int)) = false := decide_eq_false (by omega)
            have HA2 : Hid (Sf w wr #[.int .i64 p, .int .i64 wd, .int .i64 ht, .int .i64 rs, .slice fo n fc] (.slice vo vn vc) (.slice (some ⟨ga, 0, none⟩) n ac) (([] ++ [(⟨allC n, 0, 0, 0, 1⟩ : Scn)]) ++ eachC n (fun i => [(⟨[i], 1, 5, 0, 2⟩ : Scn), (⟨[i], 6, 63, 0, 2⟩ : Scn)])) (allC n) F) := by
              have h9 := unhide hS
              rw [List.take_of_length_le (by rw [unhide HLA]; exact Nat.le_refl _)] at h9
              exact h9
            clear hS
            go_wp2
            go_loopw [5, 10] (fun ov iv wr => ∃ (i : Nat) (vo : Option Addr) (vn vc : Nat) (F : List Nat), i ≤ n ∧ iv = .int .i64 i ∧ ov = .slice vo vn vc ∧ Hid (Sf w wr #[.int .i64 p, .int .i64 wd, .int .i64 ht, .int .i64 rs, .slice fo n fc] (.slice vo vn vc) (.slice (some ⟨ga, 0, none⟩) n ac) ((([] ++ [(⟨allC n, 0, 0, 0, 1⟩ : Scn)]) ++ eachC n (fun i => [(⟨[i], 1, 5, 0, 2⟩ : Scn), (⟨[i], 6, 63, 0, 2⟩ : Scn)])) ++ ((allC n).take i).flatMap (fun i => [(⟨[i], 1, 63, 2, 1⟩ : Scn)])) (allC n) F)) (fun _ iv _ => n - (intOf iv).toNat)
            case atStart => exact ⟨0, _, _, _, _, Nat.zero_le _, rfl, rfl, by unfold Hid; rw [List.take_zero, List.flatMap_nil, List.append_nil]; exact unhide HA2⟩
            case round =>
              clear HA2
              obtain ⟨i, vo, vn, vc, F, hin, rfl, rfl, hS⟩ := hrel
              by_cases hlt : i < n
              · have hd2 : decide ((i : Int) < (n : Int)) = true := decide_eq_true (by omega)
                obtain ⟨X, HX⟩ : ∃ X, Hid ((([] ++ [(⟨allC n, 0, 0, 0, 1⟩ : Scn)]) ++ eachC n (fun i => [(⟨[i], 1, 5, 0, 2⟩ : Scn), (⟨[i], 6, 63, 0, 2⟩ : Scn)])) ++ ((allC n).take i).flatMap (fun i => [(⟨[i], 1, 63, 2, 1⟩ : Scn)]) = X) := ⟨_, hide rfl⟩
                obtain ⟨R, HR⟩ : ∃ R, Hid ((([] ++ [(⟨allC n, 0, 0, 0, 1⟩ : Scn)]) ++ eachC n (fun i => [(⟨[i], 1, 5, 0, 2⟩ : Scn), (⟨[i], 6, 63, 0, 2⟩ : Scn)])) ++ ((allC n).take (i + 1)).flatMap (fun i => [(⟨[i], 1, 63, 2, 1⟩ : Scn)]) = R) := ⟨_, hide rfl⟩
                have HNX : Hid (X ++ [(⟨[(i : Int)], 1, 63, 2, 1⟩ : Scn)] = R) := by
                  unfold Hid
                  rw [← unhide HX, ← unhide HR, List.append_assoc]
                  exact congrArg _ (eachC_next n i hlt (fun i => [(⟨[i], 1, 63, 2, 1⟩ : Scn)]))
                have HXL : Hid (X.length ≤ 100) := by
                  unfold Hid
                  rw [← unhide HX]
                  exact scripts_short n hn i _ _ (by first | exact scr_len1 n | exact scr_len2 n hn | exact scr_len3 n hn | exact scr_len4 n hn) (fun _ => by simp)
                rw [unhide HX] at hS
                have HGA : Hid (wr.grownBy (wr.alloc (.cells #[.int .i64 (i : Int)] 3)) none) := World.grownBy_alloc _ _ _
                have HU : Hid (∀ j (h : j < [(⟨[(i : Int)], 1, 63, 2, 1⟩ : Scn)].length), OwScE (wr.alloc (.cells #[.int .i64 (i : Int)] 3)) ((fun _ => five (.slice (some ⟨wr.heap.size, 0, none⟩) 1 1) (.int .i64 1) (.int .i64 63) (.int .i64 2) (.int .i64 1)) j) [(⟨[(i : Int)], 1, 63, 2, 1⟩ : Scn)][j] ([[wr.heap.size]].getD j [])) := fun j h => by
                  obtain rfl : j = 0 := by simpa using h
                  exact ⟨⟨rfl, rfl, rfl, rfl⟩, World.ownsRow_lit wr #[.int .i64 (i : Int)] 1 (Nat.zero_le _) (by unfold maxLen; omega) rfl, rfl⟩
                go_wp2_with (at_builtin; refine Sf.app (wn := wr.alloc (.cells #[.int .i64 (i : Int)] 3)) (unhide hS) (unhide HGA) rfl _ _ rfl rfl #[.slice (some ⟨wr.heap.size, 0, none⟩) 1 1, .int .i64 1, .int .i64 63, .int .i64 2, .int .i64 1] 1 (fun _ => five (.slice (some ⟨wr.heap.size, 0, none⟩) 1 1) (.int .i64 1) (.int .i64 63) (.int .i64 2) (.int .i64 1)) rfl [(⟨[(i : Int)], 1, 63, 2, 1⟩ : Scn)] rfl [[wr.heap.size]] rfl (unhide HU) (by simp) (fun x hx => by simp at hx; omega) (fun u hu => List.all_eq_true.1 (show (#[.slice (some ⟨wr.heap.size, 0, none⟩) 1 1, .int .i64 1, .int .i64 63, .int .i64 2, .int .i64 1] : Array Value).toList.all (fun u => u.oneCell') = true from rfl) u hu) (wr.heap.size + 1) (by simp) rfl (by have := unhide HXL; omega) R (unhide HNX) ?_)
                intro v5 w5 F5 S5
                obtain ⟨vo5, vc5, rfl⟩ := OwG.form S5.own
                have HS5 := hide S5
                obtain ⟨ln, HLN⟩ : ∃ ln, Hid (R.length = ln) := ⟨_, hide rfl⟩
                rw [unhide HLN] at HS5 ⊢
                rw [← unhide HR] at HS5
                clear S5 HU HGA hS HNX HXL HX HLN
                go_wp2
                go_roundw
                case rel => exact ⟨i + 1, vo5, ln, vc5, F5, by omega, by go_num, rfl, HS5⟩
                case measure => simp [intOf]; omega
              · obtain rfl : n = i := by omega
                have hd2 : decide ((n : Int) < (n : Int)) = false := decide_eq_false (by omega)
                have HA3 : Hid (Sf w wr #[.int .i64 p, .int .i64 wd, .int .i64 ht, .int .i64 rs, .slice fo n fc] (.slice vo vn vc) (.slice (some ⟨ga, 0, none⟩) n ac) ((([] ++ [(⟨allC n, 0, 0, 0, 1⟩ : Scn)]) ++ eachC n (fun i => [(⟨[i], 1, 5, 0, 2⟩ : Scn), (⟨[i], 6, 63, 0, 2⟩ : Scn)])) ++ eachC n (fun i => [(⟨[i], 1, 63, 2, 1⟩ : Scn)])) (allC n) F) := by
                  have h9 := unhide hS
                  rw [List.take_of_length_le (by rw [unhide HLA]; exact Nat.le_refl _)] at h9
                  exact h9
                clear hS
                obtain ⟨X, HX⟩ : ∃ X, Hid (((([] ++ [(⟨allC n, 0, 0, 0, 1⟩ : Scn)]) ++ eachC n (fun i => [(⟨[i], 1, 5, 0, 2⟩ : Scn), (⟨[i], 6, 63, 0, 2⟩ : Scn)])) ++ eachC n (fun i => [(⟨[i], 1, 63, 2, 1⟩ : Scn)])) = X) := ⟨_, hide rfl⟩
                have HXL : Hid (X.length ≤ 100) := by unfold Hid; rw [← unhide HX]; first | exact Nat.zero_le _ | exact scr_len3 n hn
                rw [unhide HX] at HA3
                go_wp2_with (first | (at_builtin; refine append_copyS (w := wr) rfl _ _ rfl rfl ⟨ga, 0, none⟩ n ac (allC n) (unhide HLA) rfl (copy_news (unhide HLA) (unhide HA3).al) (by omega) ?_; intro v4 w4 o4 g4 l4; obtain ⟨co, cc, rfl⟩ := own_form o4; have G4 := hide g4; have O4 := hide o4; have L4 := hide l4; have HU : Hid (∀ j (h : j < [(⟨allC n, 0, 0, 1, 0⟩ : Scn)].length), OwScE w4 ((fun _ => five (.slice co n cc) (.int .i64 0) (.int .i64 0) (.int .i64 1) (.int .i64 0)) j) [(⟨allC n, 0, 0, 1, 0⟩ : Scn)][j] ([blk (.slice co n cc)].getD j [])) := (fun j h => by obtain rfl : j = 0 := (by simpa using h); exact ⟨⟨rfl, rfl, rfl, rfl⟩, (by show w4.ownsRow 0 _ _ _ (allC n).length _; rw [unhide HLA]; exact own_base (unhide O4) (Nat.zero_le _)), rfl⟩); clear o4 g4 l4) | (at_builtin; refine Sf.app (wn := w4) (unhide HA3) (unhide G4) rfl _ _ rfl rfl #[.slice co n cc, .int .i64 0, .int .i64 0, .int .i64 1, .int .i64 0] 1 (fun _ => five (.slice co n cc) (.int .i64 0) (.int .i64 0) (.int .i64 1) (.int .i64 0)) rfl [(⟨allC n, 0, 0, 1, 0⟩ : Scn)] rfl [blk (.slice co n cc)] rfl (unhide HU) (by simp [blk_nodup]) (fun x hx => unhide L4 x (mem_blk.1 (by simpa using hx))) (by intro u hu; simp at hu; first | (rcases hu with rfl | rfl | rfl | rfl <;> rfl) | (rcases hu with rfl | rfl | rfl <;> rfl)) w4.heap.size rfl rfl (by have := unhide HXL; omega) _ rfl ?_))
                intro v5 w5 F5 S5
                obtain ⟨vo5, vc5, rfl⟩ := OwG.form S5.own
                obtain ⟨ln, HLN⟩ : ∃ ln, Hid ((X ++ [(⟨allC n, 0, 0, 1, 0⟩ : Scn)]).length = ln) := ⟨_, hide rfl⟩
                rw [unhide HLN] at S5 ⊢
                rw [← unhide HX] at S5
                have HA4 := hide S5
                clear S5 HU G4 O4 L4 HLN HA3 HX HXL
                go_wp2
                go_loopw [5, 11] (fun ov iv wr => ∃ (i : Nat) (vo : Option Addr) (vn vc : Nat) (F : List Nat), i ≤ n ∧ iv = .int .i64 i ∧ ov = .slice vo vn vc ∧ Hid (Sf w wr #[.int .i64 p, .int .i64 wd, .int .i64 ht, .int .i64 rs, .slice fo n fc] (.slice vo vn vc) (.slice (some ⟨ga, 0, none⟩) n ac) ((((([] ++ [(⟨allC n, 0, 0, 0, 1⟩ : Scn)]) ++ eachC n (fun i => [(⟨[i], 1, 5, 0, 2⟩ : Scn), (⟨[i], 6, 63, 0, 2⟩ : Scn)])) ++ eachC n (fun i => [(⟨[i], 1, 63, 2, 1⟩ : Scn)])) ++ [(⟨allC n, 0, 0, 1, 0⟩ : Scn)]) ++ ((allC n).take i).flatMap (fun i => [(⟨[i], 1, 63, 1, 0⟩ : Scn)])) (allC n) F)) (fun _ iv _ => n - (intOf iv).toNat)
                case atStart => exact ⟨0, _, _, _, _, Nat.zero_le _, rfl, rfl, by unfold Hid; rw [List.take_zero, List.flatMap_nil, List.append_nil]; exact unhide HA4⟩
                case round =>
                  clear HA4
                  obtain ⟨i, vo, vn, vc, F, hin, rfl, rfl, hS⟩ := hrel
                  by_cases hlt : i < n
                  · have hd2 : decide ((i : Int) < (n : Int)) = true := decide_eq_true (by omega)
                    obtain ⟨X, HX⟩ : ∃ X, Hid ((((([] ++ [(⟨allC n, 0, 0, 0, 1⟩ : Scn)]) ++ eachC n (fun i => [(⟨[i], 1, 5, 0, 2⟩ : Scn), (⟨[i], 6, 63, 0, 2⟩ : Scn)])) ++ eachC n (fun i => [(⟨[i], 1, 63, 2, 1⟩ : Scn)])) ++ [(⟨allC n, 0, 0, 1, 0⟩ : Scn)]) ++ ((allC n).take i).flatMap (fun i => [(⟨[i], 1, 63, 1, 0⟩ : Scn)]) = X) := ⟨_, hide rfl⟩
                    obtain ⟨R, HR⟩ : ∃ R, Hid ((((([] ++ [(⟨allC n, 0, 0, 0, 1⟩ : Scn)]) ++ eachC n (fun i => [(⟨[i], 1, 5, 0, 2⟩ : Scn), (⟨[i], 6, 63, 0, 2⟩ : Scn)])) ++ eachC n (fun i => [(⟨[i], 1, 63, 2, 1⟩ : Scn)])) ++ [(⟨allC n, 0, 0, 1, 0⟩ : Scn)]) ++ ((allC n).take (i + 1)).flatMap (fun i => [(⟨[i], 1, 63, 1, 0⟩ : Scn)]) = R) := ⟨_, hide rfl⟩
                    have HNX : Hid (X ++ [(⟨[(i : Int)], 1, 63, 1, 0⟩ : Scn)] = R) := by
                      unfold Hid
                      rw [← unhide HX, ← unhide HR, List.append_assoc]
                      exact congrArg _ (eachC_next n i hlt (fun i => [(⟨[i], 1, 63, 1, 0⟩ : Scn)]))
                    have HXL : Hid (X.length ≤ 100) := by
                      unfold Hid
                      rw [← unhide HX]
                      exact scripts_short n hn i _ _ (by first | exact scr_len1 n | exact scr_len2 n hn | exact scr_len3 n hn | exact scr_len4 n hn) (fun _ => by simp)
                    rw [unhide HX] at hS
                    have HGA : Hid (wr.grownBy (wr.alloc (.cells #[.int .i64 (i : Int)] 3)) none) := World.grownBy_alloc _ _ _
                    have HU : Hid (∀ j (h : j < [(⟨[(i : Int)], 1, 63, 1, 0⟩ : Scn)].length), OwScE (wr.alloc (.cells #[.int .i64 (i : Int)] 3)) ((fun _ => five (.slice (some ⟨wr.heap.size, 0, none⟩) 1 1) (.int .i64 1) (.int .i64 63) (.int .i64 1) (.int .i64 0)) j) [(⟨[(i : Int)], 1, 63, 1, 0⟩ : Scn)][j] ([[wr.heap.size]].getD j [])) := fun j h => by
                      obtain rfl : j = 0 := by simpa using h
                      exact ⟨⟨rfl, rfl, rfl, rfl⟩, World.ownsRow_lit wr #[.int .i64 (i : Int)] 1 (Nat.zero_le _) (by unfold maxLen; omega) rfl, rfl⟩
                    go_wp2_with (at_builtin; refine Sf.app (wn := wr.alloc (.cells #[.int .i64 (i : Int)] 3)) (unhide hS) (unhide HGA) rfl _ _ rfl rfl #[.slice (some ⟨wr.heap.size, 0, none⟩) 1 1, .int .i64 1, .int .i64 63, .int .i64 1, .int .i64 0] 1 (fun _ => five (.slice (some ⟨wr.heap.size, 0, none⟩) 1 1) (.int .i64 1) (.int .i64 63) (.int .i64 1) (.int .i64 0)) rfl [(⟨[(i : Int)], 1, 63, 1, 0⟩ : Scn)] rfl [[wr.heap.size]] rfl (unhide HU) (by simp) (fun x hx => by simp at hx; omega) (fun u hu => List.all_eq_true.1 (show (#[.slice (some ⟨wr.heap.size, 0, none⟩) 1 1, .int .i64 1, .int .i64 63, .int .i64 1, .int .i64 0] : Array Value).toList.all (fun u => u.oneCell') = true from rfl) u hu) (wr.heap.size + 1) (by simp) rfl (by have := unhide HXL; omega) R (unhide HNX) ?_)
                    intro v5 w5 F5 S5
                    obtain ⟨vo5, vc5, rfl⟩ := OwG.form S5.own
                    have HS5 := hide S5
                    obtain ⟨ln, HLN⟩ : ∃ ln, Hid (R.length = ln) := ⟨_, hide rfl⟩
                    rw [unhide HLN] at HS5 ⊢
                    rw [← unhide HR] at HS5
                    clear S5 HU HGA hS HNX HXL HX HLN
                    go_wp2
                    go_roundw
                    case rel => exact ⟨i + 1, vo5, ln, vc5, F5, by omega, by go_num, rfl, HS5⟩
                    case measure => simp [intOf]; omega
                  · obtain rfl : n = i := by omega
                    have hd2 : decide ((n : Int) < (n : Int)) = false := decide_eq_false (by omega)
                    have HA5 : Hid (Sf w wr #[.int .i64 p, .int .i64 wd, .int .i64 ht, .int .i64 rs, .slice fo n fc] (.slice vo vn vc) (.slice (some ⟨ga, 0, none⟩) n ac) ((((([] ++ [(⟨allC n, 0, 0, 0, 1⟩ : Scn)]) ++ eachC n (fun i => [(⟨[i], 1, 5, 0, 2⟩ : Scn), (⟨[i], 6, 63, 0, 2⟩ : Scn)])) ++ eachC n (fun i => [(⟨[i], 1, 63, 2, 1⟩ : Scn)])) ++ [(⟨allC n, 0, 0, 1, 0⟩ : Scn)]) ++ eachC n (fun i => [(⟨[i], 1, 63, 1, 0⟩ : Scn)])) (allC n) F) := by
                      have h9 := unhide hS
                      rw [List.take_of_length_le (by rw [unhide HLA]; exact Nat.le_refl _)] at h9
                      exact h9
                    clear hS
                    have HF : Hid (OwSs wr (.slice vo vn vc) L F ∧ F.Nodup ∧ (∀ g ∈ F, w.heap.size ≤ g) ∧ w.grownBy wr none) := by
                      have eL : ((((([] ++ [(⟨allC n, 0, 0, 0, 1⟩ : Scn)]) ++ eachC n (fun i => [(⟨[i], 1, 5, 0, 2⟩ : Scn), (⟨[i], 6, 63, 0, 2⟩ : Scn)])) ++ eachC n (fun i => [(⟨[i], 1, 63, 2, 1⟩ : Scn)])) ++ [(⟨allC n, 0, 0, 1, 0⟩ : Scn)]) ++ eachC n (fun i => [(⟨[i], 1, 63, 1, 0⟩ : Scn)])) = L := by rw [← unhide HL]; rfl
                      rw [← eL]
                      exact ⟨(unhide HA5).own, (unhide HA5).nd, fun g hg => by have := (unhide HA5).lo g hg; omega, (unhide HA5).grown⟩
                    clear HA5
                    go_wp2
                    go_ret
                    exact ⟨_, F, rfl, unhide HF⟩

theorem specScriptFor (p wd ht rs : Int) (fo : Option Addr) (n fc : Nat) (C : Nat → Nat → Int) (w : World) (hr : RdC w fo n C) (kind : Int) (fb : Bool) (HFB : Hid (frameB p wd ht rs n C = fb)) (L : List Scn) (HL : Hid (scriptG fb n kind = L)) :
    Calls Try.prog 12 #[.agg #[.int .i64 p, .int .i64 wd, .int .i64 ht, .int .i64 rs, .slice fo n fc], .int .i64 kind] w fun e w' => ∃ u F, e = .returned u ∧ OwSs w' u L F ∧ F.Nodup ∧ (∀ g ∈ F, w.heap.size ≤ g) ∧ w.grownBy w' none := by
  by_cases h : kind = 2
  · subst h
    exact specScript2 p wd ht rs fo n fc C w hr fb HFB L HL
  · exact specScript01 p wd ht rs fo n fc C w hr kind fb HFB L HL h

end Go.Proofs.Ytnjcmlmgjoaeeaa
