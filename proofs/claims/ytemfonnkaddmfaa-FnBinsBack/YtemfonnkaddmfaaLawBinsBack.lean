/-
  The law that bits are read back from what the bit coder made of them, whatever EncodeBins and DecodeBins of the program do, if they answer as the specification.
-/
import Derived.Test.YtemfonnkaddmfaaBinDraw
import Derived.Test.YtemfonnkaddmfaaBinBack
import Derived.Test.YtemfonnkaddmfaaSame
import Derived.Test.YtemfonnkaddmfaaLawAid
import Derived.Test.YtemfonnkaddmfaaSameInts
import Derived.Test.YtemfonnkaddmfaaAppRd9
namespace Go.Proofs.Ytemfonnkaddmfaa
open Go.RowKit

theorem append_c {w : World} {ops : Array Oper} {rest : List Oper} {o : Oper} {a : Act} {Q : Exit → Act → World → Prop} (hgd : o.guard = none) (s x : Operand)
    (ho : o.op = .call { callee := .builtin .append, args := #[s, x], argTypes := #[28, 28] })
    (B : World) (v : Value) (X : List Int) (hs : a.eval s = v) (hown : w.ownsRow B.heap.size 3 1 v X.length (X.map (Value.int .i64))) (p : Int) (hx : a.eval x = .slice (some ⟨w.heap.size, 0, none⟩) 1 1)
    (hb : X.length ≤ 1000000) (hB : B.grownBy w none) (R : List Int) (hR : X ++ [p] = R)
    (h : ∀ v' w', w'.ownsRow B.heap.size 3 1 v' R.length (R.map (Value.int .i64)) → B.grownBy w' none → wpList Try.prog ops Q rest (a.put o.dst v') w') :
    wpList Try.prog ops Q (o :: rest) a (w.alloc (.cells #[.int .i64 p] 3)) := by
  subst hR
  obtain ⟨i0, hi, hz0, hz1, hz2⟩ := info_parts info_n9
  refine wpList_append_own_at _ hgd s x 28 ho B.heap.size 3 i0 _ 1 8 Try.underlying28 hi hz0 hz1 hz2 rfl (by decide) v X.length _ hs (hown.alloc _) ⟨w.heap.size, 0, none⟩ 1 1 [.int .i64 p] hx rfl (World.news_of_block (cs := #[.int .i64 p]) (t := 3) (fr := (0, 0)) (heap_alloc_new w _)) (by intro u hu; simp at hu; subst hu; rfl) (by unfold maxLen; omega) (by omega) (by have := hB.size; simp; omega) ?_
  intro v' w' h1 h2 _ _
  refine h v' w' ?_ (grown_new (grown_alloc hB _) h2 (fun g e => (hown.lt g e).1))
  rw [List.map_append, List.length_append]
  exact h1

set_option maxRecDepth 20000 in
set_option maxHeartbeats 3200000 in
theorem lawBinsBack_in (HI : ImplEnc) (HJ : ImplDec) (ao : Option Addr) (n cap : Nat) (zs : List Int) (w : World) (hr : Rd .u8 w ao n zs) (hb : ∀ i, 0 ≤ zs.getD i 0 ∧ zs.getD i 0 ≤ 255) (hn : n ≤ 1048576) :
    Calls Try.prog 3 #[.slice ao n cap] w fun e w' => e = .returned (.bool true) ∧ Below w.heap.size w w' := by
  have HR := hide hr
  have HB := hide hb
  have HII := hide HI
  have HJJ := hide HJ
  clear hr hb HI HJ
  go_enter Try.func3, Try.ntmps3
  go_wp2_with fail
  refine (lawBig ao n cap false w (by unfold Hid; simp; omega)).mono ?_
  rintro e w0 ⟨rfl, rfl⟩
  go_wp2_with fail
  refine (drawEncodeBins ao n cap zs w (unhide HR) (unhide HB) hn).mono ?_
  rintro e w1 ⟨so, m, sc, Y, rfl, hm, r1, g1⟩
  obtain ⟨E, HE⟩ : ∃ E, Hid (encG Y = E) := ⟨_, rfl⟩
  have HYL := hide r1.1
  have hEl : E.length ≤ 484 := by rw [← unhide HE]; have := enc_len Y; have := unhide HYL; omega
  have HEB : Hid (∀ i, 0 ≤ E.getD i 0 ∧ E.getD i 0 ≤ 255) := by rw [← unhide HE]; exact enc_byte Y
  have HY1 := hide r1
  have HR1 := hide ((unhide HR).grown g1)
  have G1 := hide g1
  clear r1 g1
  go_wp2_with fail
  refine (unhide HII so m sc Y w1 (unhide HY1) (by omega)).mono ?_
  rw [unhide HE]
  rintro e w2 ⟨bo, bc, rfl, o2, g2⟩
  have HNB := hide (own_nil9 o2)
  have HB2 : Hid (Rd .u8 w2 bo E.length E) := own_rd o2
  have HY2 := hide ((unhide HY1).grown g2)
  have HR2 := hide ((unhide HR1).grown g2)
  have G2 := hide (grown_trans (unhide G1) g2)
  clear o2 g2 HY1 G1 HR1
  go_wp2_with fail
  refine (specEncode so m sc Y w2 (unhide HY2)).mono ?_
  rw [unhide HE]
  rintro e w3 ⟨eo, ec, rfl, o3, g3⟩
  have HE3 : Hid (Rd .u8 w3 eo E.length E) := own_rd o3
  have HB3 := hide ((unhide HB2).grown g3)
  have HY3 := hide ((unhide HY2).grown g3)
  have HR3 := hide ((unhide HR2).grown g3)
  have G3 := hide (grown_trans (unhide G2) g3)
  clear o3 g3 HY2 G2 HB2 HR2
  go_wp2_with fail
  refine (sameBytes bo eo E.length bc ec E w3 (unhide HB3) (unhide HE3) (by omega)).mono ?_
  rintro e w4 ⟨rfl, g4⟩
  have HB4 := hide ((unhide HB3).grown g4)
  have HY4 := hide ((unhide HY3).grown g4)
  have HR4 := hide ((unhide HR3).grown g4)
  have G4 := hide (grown_trans (unhide G3) g4)
  have HO4 : Hid ((w4.alloc (.cells #[] 3)).ownsRow w4.heap.size 3 1 (.slice (some ⟨w4.heap.size, 0, none⟩) 0 0) 0 (([] : List Int).map (Value.int .i64)) ∧ w4.grownBy (w4.alloc (.cells #[] 3)) none) := ⟨World.ownsRow_lit w4 #[] 0 (Nat.le_refl _) (by unfold maxLen; omega) rfl, World.grownBy_alloc _ _ _⟩
  clear g4 HY3 G3 HB3 HE3 HR3
  go_wp2
  go_loopw [5, 6, 7] (fun cv o i wr => ∃ (c : Bool) (j : Nat) (co : Option Addr) (cc : Nat) (C : List Int), j ≤ m ∧ cv = .slice co C.length cc ∧ o = .bool c ∧ i = .int .i64 j ∧ Hid (C = (Y.take j).map Prod.fst) ∧ Hid (c = (Y.take j).all binB) ∧ Hid (wr.ownsRow w4.heap.size 3 1 (.slice co C.length cc) C.length (C.map (Value.int .i64))) ∧ Hid (w4.grownBy wr none)) (fun _ _ i _ => m - (intOf i).toNat)
  case atStart => exact ⟨true, 0, some ⟨w4.heap.size, 0, none⟩, 0, [], Nat.zero_le _, rfl, rfl, rfl, rfl, rfl, (unhide HO4).1, (unhide HO4).2⟩
  case round =>
    clear HO4
    obtain ⟨c, j, co, cc, C, hj, rfl, rfl, rfl, hC, hc, ho, hg⟩ := hrel
    have HCL : Hid (C.length = j) := by unfold Hid; rw [unhide hC, List.length_map, List.length_take, unhide HYL]; omega
    by_cases hjm : j < m
    · have hjI : (j : Int) < (m : Int) := by omega
      have e5 := i64_in ((j : Int) + 1) (by omega)
      have hjY : j < Y.length := by rw [unhide HYL]; exact hjm
      have hal := all_takeB (f := binB) (xs := Y) (k := j) hjY
      have htk : (Y.take (j + 1)).map Prod.fst = (Y.take j).map Prod.fst ++ [(Y.getD j (0, 0)).1] := by
        rw [List.take_succ_eq_append_getElem hjY, List.map_append]
        simp [List.getD_eq_getElem?_getD, hjY]
      obtain ⟨fb, fo, rfl, c0, c1⟩ := (unhide HY4).2 j hjm
      generalize Y.getD j (0, 0) = x at *
      obtain ⟨p, q⟩ := x
      dsimp only at c0 c1 htk
      obtain ⟨R, HRR⟩ : ∃ R, Hid (C ++ [p] = R) := ⟨_, rfl⟩
      have HRT : Hid (R = (Y.take (j + 1)).map Prod.fst) := by unfold Hid; rw [htk, ← unhide hC, unhide HRR]
      have KP : Hid (∀ W, w4.grownBy W none → W.cell? ⟨fb, fo + j * 2, none⟩ = some (.int .i64 p) ∧ W.cell? ⟨fb, fo + j * 2 + 1, none⟩ = some (.int .i64 q)) := fun W g => ⟨g.cell c0 (by simp), g.cell c1 (by simp)⟩
      have r0 := (unhide KP _ (unhide hg)).1
      have hlb : C.length ≤ 1000000 := by have := unhide HCL; omega
      have HBX : Hid ((Y.take (j + 1)).all binB = (c && (decide (0 ≤ p ∧ p ≤ 399) && decide (0 ≤ q ∧ q ≤ 1)))) := by unfold Hid; rw [hal, ← unhide hc]; rfl
      clear hal htk c0 c1 hc
      cases c with
      | false =>
        have HCX : Hid (false = (Y.take (j + 1)).all binB) := by unfold Hid; rw [unhide HBX]; rfl
        clear HBX
        go_wp2_with (at_builtin; refine append_c rfl _ _ rfl w4 (.slice co C.length cc) C rfl (unhide ho) p rfl hlb (unhide hg) R (unhide HRR) ?_)
        intro v7 w7 o7 g7
        obtain ⟨co7, cc7, rfl⟩ := own_form o7
        obtain ⟨k0, k1⟩ := unhide KP w7 g7
        have HO7 := hide o7
        have HG7 := hide g7
        clear o7 g7 ho hg KP r0 hlb
        go_wp2
        go_roundw
        case rel => exact ⟨false, j + 1, co7, cc7, R, by omega, rfl, rfl, by go_num, HRT, HCX, HO7, HG7⟩
        case measure => simp [intOf]; omega
      | true =>
        by_cases h0 : 0 ≤ p
        · have d0 : decide (0 ≤ p) = true := decide_eq_true h0
          by_cases h1 : p < 400
          · have d1 : decide (p < 400) = true := decide_eq_true h1
            by_cases h2 : 0 ≤ q
            · have d2 : decide (0 ≤ q) = true := decide_eq_true h2
              by_cases h3 : q < 2
              · have d3 : decide (q < 2) = true := decide_eq_true h3
                have HCX : Hid (true = (Y.take (j + 1)).all binB) := by unfold Hid; rw [unhide HBX, decide_eq_true (show 0 ≤ p ∧ p ≤ 399 from ⟨h0, by omega⟩), decide_eq_true (show 0 ≤ q ∧ q ≤ 1 from ⟨h2, by omega⟩)]; rfl
                clear HBX
                go_wp2_with (at_builtin; refine append_c rfl _ _ rfl w4 (.slice co C.length cc) C rfl (unhide ho) p rfl hlb (unhide hg) R (unhide HRR) ?_)
                intro v7 w7 o7 g7
                obtain ⟨co7, cc7, rfl⟩ := own_form o7
                obtain ⟨k0, k1⟩ := unhide KP w7 g7
                have HO7 := hide o7
                have HG7 := hide g7
                clear o7 g7 ho hg KP r0 hlb
                go_wp2
                go_roundw
                case rel => exact ⟨true, j + 1, co7, cc7, R, by omega, rfl, rfl, by go_num, HRT, HCX, HO7, HG7⟩
                case measure => simp [intOf]; omega
              · have d3 : decide (q < 2) = false := decide_eq_false h3
                have HCX : Hid (false = (Y.take (j + 1)).all binB) := by unfold Hid; rw [unhide HBX, decide_eq_true (show 0 ≤ p ∧ p ≤ 399 from ⟨h0, by omega⟩), decide_eq_false (show ¬ (0 ≤ q ∧ q ≤ 1) by omega)]; rfl
                clear HBX
                go_wp2_with (at_builtin; refine append_c rfl _ _ rfl w4 (.slice co C.length cc) C rfl (unhide ho) p rfl hlb (unhide hg) R (unhide HRR) ?_)
                intro v7 w7 o7 g7
                obtain ⟨co7, cc7, rfl⟩ := own_form o7
                obtain ⟨k0, k1⟩ := unhide KP w7 g7
                have HO7 := hide o7
                have HG7 := hide g7
                clear o7 g7 ho hg KP r0 hlb
                go_wp2
                go_roundw
                case rel => exact ⟨false, j + 1, co7, cc7, R, by omega, rfl, rfl, by go_num, HRT, HCX, HO7, HG7⟩
                case measure => simp [intOf]; omega
            · have d2 : decide (0 ≤ q) = false := decide_eq_false h2
              have HCX : Hid (false = (Y.take (j + 1)).all binB) := by unfold Hid; rw [unhide HBX, decide_eq_true (show 0 ≤ p ∧ p ≤ 399 from ⟨h0, by omega⟩), decide_eq_false (show ¬ (0 ≤ q ∧ q ≤ 1) by omega)]; rfl
              clear HBX
              go_wp2_with (at_builtin; refine append_c rfl _ _ rfl w4 (.slice co C.length cc) C rfl (unhide ho) p rfl hlb (unhide hg) R (unhide HRR) ?_)
              intro v7 w7 o7 g7
              obtain ⟨co7, cc7, rfl⟩ := own_form o7
              obtain ⟨k0, k1⟩ := unhide KP w7 g7
              have HO7 := hide o7
              have HG7 := hide g7
              clear o7 g7 ho hg KP r0 hlb
              go_wp2
              go_roundw
              case rel => exact ⟨false, j + 1, co7, cc7, R, by omega, rfl, rfl, by go_num, HRT, HCX, HO7, HG7⟩
              case measure => simp [intOf]; omega
          · have d1 : decide (p < 400) = false := decide_eq_false h1
            have HCX : Hid (false = (Y.take (j + 1)).all binB) := by unfold Hid; rw [unhide HBX, decide_eq_false (show ¬ (0 ≤ p ∧ p ≤ 399) by omega)]; rfl
            clear HBX
            go_wp2_with (at_builtin; refine append_c rfl _ _ rfl w4 (.slice co C.length cc) C rfl (unhide ho) p rfl hlb (unhide hg) R (unhide HRR) ?_)
            intro v7 w7 o7 g7
            obtain ⟨co7, cc7, rfl⟩ := own_form o7
            obtain ⟨k0, k1⟩ := unhide KP w7 g7
            have HO7 := hide o7
            have HG7 := hide g7
            clear o7 g7 ho hg KP r0 hlb
            go_wp2
            go_roundw
            case rel => exact ⟨false, j + 1, co7, cc7, R, by omega, rfl, rfl, by go_num, HRT, HCX, HO7, HG7⟩
            case measure => simp [intOf]; omega
        · have d0 : decide (0 ≤ p) = false := decide_eq_false h0
          have HCX : Hid (false = (Y.take (j + 1)).all binB) := by unfold Hid; rw [unhide HBX, decide_eq_false (show ¬ (0 ≤ p ∧ p ≤ 399) by omega)]; rfl
          clear HBX
          go_wp2_with (at_builtin; refine append_c rfl _ _ rfl w4 (.slice co C.length cc) C rfl (unhide ho) p rfl hlb (unhide hg) R (unhide HRR) ?_)
          intro v7 w7 o7 g7
          obtain ⟨co7, cc7, rfl⟩ := own_form o7
          obtain ⟨k0, k1⟩ := unhide KP w7 g7
          have HO7 := hide o7
          have HG7 := hide g7
          clear o7 g7 ho hg KP r0 hlb
          go_wp2
          go_roundw
          case rel => exact ⟨false, j + 1, co7, cc7, R, by omega, rfl, rfl, by go_num, HRT, HCX, HO7, HG7⟩
          case measure => simp [intOf]; omega
    · obtain rfl : j = m := by omega
      have hct : c = Y.all binB := by
        have h := unhide hc
        rw [← unhide HYL, List.take_length] at h
        exact h
      have hCY : C = Y.map Prod.fst := by
        have h := unhide hC
        rw [← unhide HYL, List.take_length] at h
        exact h
      have HF := hide (grown_trans (unhide G4) (unhide hg))
      cases c with
      | false =>
        have hE : E = [] := by
          rw [← unhide HE, encG]
          have : binsB Y = false := by unfold binsB; rw [← hct, Bool.and_false]
          rw [this]; rfl
        have hE0 : E.length = 0 := by rw [hE]; rfl
        have HFB := hide (grown_below (unhide HF))
        clear hct hc hE hC hCY ho hg HF
        go_wp2
        go_ret
        exact ⟨rfl, unhide HFB⟩
      | true =>
        have hBB : binsB Y = true := by
          unfold binsB
          rw [← hct, unhide HYL, decide_eq_true (by omega)]; rfl
        have HD1 : Hid (decG E C = Y.map Prod.snd) := by
          have h := enc_back hBB [] (fun x hx => by simp at hx)
          unfold Hid
          rw [List.map_nil, List.append_nil, unhide HE, ← hCY] at h
          exact h
        have HD2 : Hid (∀ x : Nat, x ≤ 255 → decG (E ++ [(x : Int), 1]) C = Y.map Prod.snd) := fun x hx => by
          have h := enc_back hBB [x, 1] (fun y hy => by simp at hy; omega)
          rw [unhide HE, ← hCY] at h
          exact h
        obtain ⟨S, HS⟩ : ∃ S, Hid (Y.map Prod.snd = S) := ⟨_, rfl⟩
        rw [unhide HS] at HD1 HD2
        have HSL : Hid (S.length = j) := by unfold Hid; rw [← unhide HS, List.length_map, unhide HYL]
        have HC5 : Hid (Rd .i64 wr co C.length C) := own_rd (unhide ho)
        have hCl : C.length ≤ 480 := by have := unhide HCL; omega
        have HB5 := hide ((unhide HB4).grown (unhide hg))
        have HY5 := hide ((unhide HY4).grown (unhide hg))
        have HR5 := hide ((unhide HR4).grown (unhide hg))
        clear hct hc hC hCY ho hg hBB HCL
        go_wp2_with fail
        refine (unhide HJJ bo E.length bc E co C.length cc C wr (unhide HB5) (unhide HEB) (unhide HC5) (by omega) (by omega)).mono ?_
        rw [unhide HD1]
        rintro e w6 ⟨xo, xc, rfl, o6, g6⟩
        have HX6 : Hid (Rd .i64 w6 xo S.length S) := own_rd o6
        have O7 : (w6.alloc (.cells #[] 5)).ownsRow w6.heap.size 5 1 (.slice (some ⟨w6.heap.size, 0, none⟩) 0 0) 0 (([] : List Int).map (Value.int .u8)) := World.ownsRow_lit w6 #[] 0 (Nat.le_refl _) (by unfold maxLen; omega) rfl
        have HO7 := hide O7
        have HB6 := hide ((unhide HB5).grown g6)
        have HY6 := hide ((unhide HY5).grown g6)
        have HR6 := hide ((unhide HR5).grown g6)
        have HC6 := hide ((unhide HC5).grown g6)
        have HF6 := hide (grown_trans (unhide HF) g6)
        have hga : w6.grownBy (w6.alloc (.cells #[] 5)) none := World.grownBy_alloc _ _ _
        have HGA := hide hga
        have HB7 := hide ((unhide HB6).grown hga)
        clear o6 g6 O7 HB5 HY5 HR5 HC5 HF hga
        go_wp2_with (at_builtin; refine append_rd9 rfl _ _ rfl w6.heap.size _ 0 _ rfl (unhide HO7) bo E.length bc E rfl (unhide HB7) (unhide HNB) (by omega) (unhide HGA).size ?_)
        intro v8 w8 o8 g8
        have o8' : w8.ownsRow w6.heap.size 5 1 v8 E.length (E.map (Value.int .u8)) := own_as9 o8 (by omega) (by simp)
        obtain ⟨yo, yc, rfl⟩ := own_form o8'
        have HO8 := hide o8'
        have HG8 : Hid (w6.grownBy w8 none) := grown_new (unhide HGA) g8 (fun k e => by have := Option.some.inj e; simp at this; omega)
        clear o8 g8 o8' HO7 HGA HB7
        go_wp2_with fail
        refine (lawPick ao n cap 0 256 zs w8 ((unhide HR6).grown (unhide HG8)) (unhide HB) hn (by omega) (by omega) (by omega)).mono ?_
        rintro e w9 ⟨⟨x, rfl, hx0, hx1⟩, rfl⟩
        obtain ⟨xn, rfl⟩ := Int.eq_ofNat_of_zero_le hx0
        have eu : IntKind.u8.wrap (xn : Int) = (xn : Int) := IntWalk.u8_in _ (by omega)
        have ga : w8.grownBy (w8.alloc (.cells #[.int .u8 (xn : Int), .int .u8 1] 5)) none := World.grownBy_alloc _ _ _
        have HL9 : Hid (Rd .u8 (w8.alloc (.cells #[.int .u8 (xn : Int), .int .u8 1] 5)) (some ⟨w8.heap.size, 0, none⟩) 2 [(xn : Int), 1]) := ⟨rfl, fun i hi => ⟨_, _, rfl, by
          rw [Nat.zero_add, cell_of_row _ _ i _ _ (0, 0) (heap_alloc_new w8 _)]
          rcases i with _ | _ | i <;> first | rfl | omega⟩⟩
        have HO9 := hide ((unhide HO8).alloc (.cells #[.int .u8 (xn : Int), .int .u8 1] 5))
        have HG9 := hide (grown_trans (unhide HG8) ga)
        clear ga
        go_wp2_with (at_builtin; refine append_rd9 rfl _ _ rfl w6.heap.size _ E.length _ rfl (unhide HO9) (some ⟨w8.heap.size, 0, none⟩) 2 2 [(xn : Int), 1] rfl (unhide HL9) (fun h => by simp at h) (by omega) (unhide HG9).size ?_)
        intro v10 w10 o10 g10
        have HG10 : Hid (w6.grownBy w10 none) := grown_new (unhide HG9) g10 (fun k e => ((unhide HO9).lt k e).1)
        have o10' : w10.ownsRow w6.heap.size 5 1 v10 (E.length + 2) ((E ++ [(xn : Int), 1]).map (Value.int .u8)) := own_as9 o10 rfl (by simp)
        obtain ⟨uo, uc, rfl⟩ := own_form o10'
        have HU10 : Hid (Rd .u8 w10 uo (E.length + 2) (E ++ [(xn : Int), 1])) := own_rd o10'
        have HUB : Hid (∀ i, 0 ≤ (E ++ [(xn : Int), 1]).getD i 0 ∧ (E ++ [(xn : Int), 1]).getD i 0 ≤ 255) := fun i => by
          by_cases hi : i < E.length
          · have h := unhide HEB i
            rw [List.getD_eq_getElem?_getD, List.getElem?_append_left hi, ← List.getD_eq_getElem?_getD]; exact h
          · rw [List.getD_eq_getElem?_getD, List.getElem?_append_right (by omega)]
            generalize i - E.length = k
            rcases k with _ | _ | k
            · simp; omega
            · simp
            · simp
        have HDX := hide (unhide HD2 xn (by omega))
        have HC10 := hide ((unhide HC6).grown (unhide HG10))
        have HX10 := hide ((unhide HX6).grown (unhide HG10))
        have HY10 := hide ((unhide HY6).grown (unhide HG10))
        have HF10 := hide (grown_trans (unhide HF6) (unhide HG10))
        obtain ⟨U, HU⟩ : ∃ U, Hid (E ++ [(xn : Int), 1] = U) := ⟨_, rfl⟩
        rw [unhide HU] at HU10 HUB HDX
        obtain ⟨ul, HUL⟩ : ∃ ul, Hid (E.length + 2 = ul) := ⟨_, rfl⟩
        rw [unhide HUL] at HU10 ⊢
        have hul : ul ≤ 1048576 := by have := unhide HUL; omega
        clear o10 g10 o10' HO8 HG8 HL9 HO9 HG9 HG10 HC6 HX6 HY6 HF6 HB6 HR6 eu HD1 HD2
        go_wp2_with fail
        refine (unhide HJJ uo ul uc U co C.length cc C w10 (unhide HU10) (unhide HUB) (unhide HC10) hul (by omega)).mono ?_
        rw [unhide HDX]
        rintro e w11 ⟨vo, vc, rfl, o11, g11⟩
        have HV11 : Hid (Rd .i64 w11 vo S.length S) := own_rd o11
        have HX11 := hide ((unhide HX10).grown g11)
        have HY11 := hide ((unhide HY10).grown g11)
        have HF11 := hide (grown_trans (unhide HF10) g11)
        have hSn : S.length ≤ 480 := by have := unhide HSL; omega
        have hne : ((S.length : Int) != (j : Int)) = false := by have := unhide HSL; simp; omega
        clear o11 g11 HX10 HY10 HF10 HC10 HU10
        go_wp2_with fail
        refine (sameInts xo vo S.length xc vc S w11 (unhide HX11) (unhide HV11) (by omega)).mono ?_
        rintro e w12 ⟨rfl, g12⟩
        have HX12 := hide ((unhide HX11).grown g12)
        have HY12 := hide ((unhide HY11).grown g12)
        have HF12 := hide (grown_trans (unhide HF11) g12)
        have HSY : Hid (∀ k, S.getD k 0 = (Y.getD k (0, 0)).2) := fun k => by
          rw [← unhide HS]
          by_cases hk : k < Y.length
          · simp [List.getD_eq_getElem?_getD, hk]
          · rw [List.getD_eq_getElem?_getD, List.getD_eq_getElem?_getD, List.getElem?_eq_none (by simp; omega), List.getElem?_eq_none (by omega)]; rfl
        clear g12 HX11 HY11 HF11 HV11 hne
        obtain ⟨wo, HWO⟩ : ∃ wo, Hid (wo = wr) := ⟨wr, rfl⟩
        go_wp2
        go_loopw [10] (fun i wz => ∃ k : Nat, k ≤ j ∧ i = .int .i64 k ∧ Hid (w12.grownBy wz none)) (fun i _ => j - (intOf i).toNat)
        case atStart => exact ⟨0, Nat.zero_le _, rfl, World.grownBy.refl _ _⟩
        case round =>
          obtain ⟨k, hk, rfl, hgz⟩ := hrel
          by_cases hkj : k < j
          · have hkI : (k : Int) < (j : Int) := by omega
            have hkS : (k : Int) < (S.length : Int) := by have := unhide HSL; omega
            have e6 := i64_in ((k : Int) + 1) (by omega)
            obtain ⟨xb, xf, rfl, x0⟩ := ((unhide HX12).grown (unhide hgz)).2 k (by have := unhide HSL; omega)
            obtain ⟨yb, yf, rfl, y0, y1⟩ := ((unhide HY12).grown (unhide hgz)).2 k hkj
            rw [unhide HSY k] at x0
            have HGN : Hid (∀ q, w12.grownBy (wr.drewN q) none) := fun q => grown_drewN (unhide hgz) q
            generalize (Y.getD k (0, 0)).2 = y at *
            generalize (Y.getD k (0, 0)).1 = y' at *
            clear hgz
            go_wp2
            go_quiet (fail)
            go_wp2
            go_roundw
            case rel => exact ⟨k + 1, by omega, by go_num, unhide HGN _⟩
            case measure => simp [intOf]; omega
          · have HFB := hide (grown_below (grown_trans (unhide HF12) (unhide hgz)))
            clear hgz
            have hkj' : decide ((k : Int) < (j : Int)) = false := decide_eq_false (by omega)
            go_wp2
            go_ret
            exact ⟨rfl, unhide HFB⟩

set_option maxRecDepth 20000 in
theorem lawBinsBack (HI : ImplEnc) (HJ : ImplDec) (ao : Option Addr) (n cap : Nat) (zs : List Int) (w : World) (hr : Rd .u8 w ao n zs) (hb : ∀ i, 0 ≤ zs.getD i 0 ∧ zs.getD i 0 ≤ 255) :
    Calls Try.prog 3 #[.slice ao n cap] w fun e w' => e = .returned (.bool true) ∧ Below w.heap.size w w' := by
  by_cases hn : n ≤ 1048576
  · exact lawBinsBack_in HI HJ ao n cap zs w hr hb hn
  · clear hr hb
    go_enter Try.func3, Try.ntmps3
    go_wp2_with fail
    refine (lawBig ao n cap true w (by unfold Hid; simp; omega)).mono ?_
    rintro e w0 ⟨rfl, rfl⟩
    go_wp2
    go_ret
    exact ⟨rfl, grown_below (World.grownBy.refl _ _)⟩

end Go.Proofs.Ytemfonnkaddmfaa
