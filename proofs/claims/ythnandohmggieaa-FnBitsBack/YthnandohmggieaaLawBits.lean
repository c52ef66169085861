/-
  The walk of the law that numbers of a few bits are read back from their bits.
-/
import Derived.Test.YthnandohmggieaaPackBits
import Derived.Test.YthnandohmggieaaBackPure
import Derived.Test.YthnandohmggieaaDrawFields
import Derived.Test.YthnandohmggieaaLawAid
namespace Go.Proofs.Ythnandohmggieaa
open Go.RowKit

theorem packB_byte (bs : List Bool) (i : Nat) : 0 ≤ (packB bs).getD i 0 ∧ (packB bs).getD i 0 ≤ 255 := by
  by_cases h : i < (packB bs).length
  · rw [packB_get bs i h]; exact byteAt_bound bs _
  · rw [List.getD_eq_getElem?_getD, List.getElem?_eq_none (by omega)]; simp

theorem vals_get (fs : List (Int × Int)) (x : Int) (i : Nat) (h : i < fs.length) : (fs.map (·.2) ++ [x]).getD i 0 = (fs.getD i (0, 0)).2 := by
  rw [List.getD_eq_getElem?_getD, List.getElem?_append_left (by simpa using h), List.getElem?_map, List.getD_eq_getElem?_getD, List.getElem?_eq_getElem h]
  rfl
theorem Rd.below {k : IntKind} {w w' : World} {ao : Option Addr} {n : Nat} {zs : List Int} (h : Rd k w ao n zs) (hb : Below w.heap.size w w') : Rd k w' ao n zs :=
  ⟨h.1, fun i hi => by obtain ⟨b, off, e, hc⟩ := h.2 i hi; exact ⟨b, off, e, (hb.cell (p := ⟨b, off + i, none⟩) (World.block_lt_of_cell? w _ hc)).trans hc⟩⟩
theorem RdF.below {w w' : World} {ao : Option Addr} {n : Nat} {fs : List (Int × Int)} (h : RdF w ao n fs) (hb : Below w.heap.size w w') : RdF w' ao n fs :=
  ⟨h.1, fun i hi => by
    obtain ⟨b, off, e, h1, h2⟩ := h.2 i hi
    exact ⟨b, off, e, (hb.cell (p := ⟨b, off + i * 2, none⟩) (World.block_lt_of_cell? w _ h1)).trans h1, (hb.cell (p := ⟨b, off + i * 2 + 1, none⟩) (World.block_lt_of_cell? w _ h2)).trans h2⟩⟩

set_option maxHeartbeats 1600000 in
theorem lawBits_in (ao : Option Addr) (n cap : Nat) (zs : List Int) (w : World) (hr : Rd .u8 w ao n zs) (hb : ∀ i, 0 ≤ zs.getD i 0 ∧ zs.getD i 0 ≤ 255) (hn : n ≤ 1048576) :
    Calls Try.prog 3 #[.slice ao n cap] w fun e w' => e = .returned (.bool true) ∧ Below w.heap.size w w' := by
  have HR := hide hr
  have HB := hide hb
  obtain ⟨i0, hi, hz0, hz1, hz2⟩ := info_parts Try.info3
  have hbg : Hid (decide ((1048576 : Int) < (n : Int)) = false) := by unfold Hid; simp; omega
  clear hr hb
  go_enter Try.func3, Try.ntmps3
  go_wp2_with fail
  refine (lawBig ao n cap false w hbg).mono ?_
  rintro e w0 ⟨rfl, rfl⟩
  go_wp2_with fail
  refine (drawPack ao n cap zs w (unhide HR) (unhide HB) hn).mono ?_
  rintro e w1 ⟨fs, bo, bc, rfl, hfl, o1, g1⟩
  go_wp2_with fail
  refine (implPackBits bo _ bc fs w1 (own_rdF o1) (by omega)).mono ?_
  rintro e w2 ⟨so, sc, rfl, o2, g2⟩
  have p1 := own_grown o1 g2
  have G2 := grown_trans g1 g2
  clear o1 g1 g2
  go_wp2_with fail
  refine (specPackBits bo _ bc fs w2 (own_rdF p1) (by omega)).mono ?_
  rintro e w3 ⟨to, tc, rfl, o3, g3⟩
  have q1 := own_grown p1 g3
  have q2 := own_grown o2 g3
  have G3 := grown_trans G2 g3
  have hpl : (packed fs).length ≤ 60001 := by
    unfold packed
    cases h : okF fs with
    | false => simp
    | true =>
      simp only [okF, Bool.and_eq_true, decide_eq_true_eq] at h
      have := allBits_lens fs h.1
      simp only [if_true, packB_len]
      omega
  clear p1 o2 g3 G2
  go_wp2_with fail
  refine (sameBytes so to _ sc tc (packed fs) w3 (own_rd q2) (own_rd o3) (by omega)).mono ?_
  rintro e w4 ⟨rfl, g4⟩
  have r1 := own_grown q1 g4
  have r2 := own_grown q2 g4
  have G4 := grown_trans G3 g4
  clear q1 q2 g4 G3 o3
  go_wp2_with fail
  refine (implFieldsOk bo _ bc fs w4 (own_rdF r1) (by omega)).mono ?_
  rintro e w5 ⟨rfl, g5⟩
  have s1 := own_grown r1 g5
  have s2 := own_grown r2 g5
  have G5 := grown_trans G4 g5
  clear r1 r2 g5 G4
  go_wp2_with fail
  refine (specFieldsOk bo _ bc fs w5 (own_rdF s1) (by omega)).mono ?_
  rintro e w6 ⟨rfl, g6⟩
  have t1 := own_grown s1 g6
  have t2 := own_grown s2 g6
  have G6 := grown_trans G5 g6
  clear s1 s2 g6 G5
  have hne : (okF fs != okF fs) = false := by simp
  go_wp2_with fail
  refine (specFieldsOk bo _ bc fs w6 (own_rdF t1) (by omega)).mono ?_
  rintro e w7 ⟨rfl, g7⟩
  have u1 := own_grown t1 g7
  have u2 := own_grown t2 g7
  have G7 := grown_trans G6 g7
  clear t1 t2 g7 G6 hne
  cases hok : okF fs with
  | false =>
    have HP : Hid ((packed fs).length = 0) := by unfold Hid packed; rw [hok]; rfl
    clear hok
    go_wp2
    go_ret
    refine ⟨ret_bool (by simp [unhide HP]), grown_below G7⟩
  | true =>
    have HP : Hid (packed fs = packB (allBits fs)) := by unfold Hid packed; rw [hok]; rfl
    have HOK := hide hok
    have hlens := hide (allBits_lens fs (by simp only [okF, Bool.and_eq_true] at hok; exact hok.1))
    clear hok
    have o8 : (w7.alloc (.cells #[] 3)).ownsRow w7.heap.size 3 1 (.slice (some ⟨w7.heap.size, 0, none⟩) 0 0) 0 [] := World.ownsRow_lit w7 #[] 0 (Nat.le_refl _) (by unfold maxLen; omega) rfl
    go_wp2
    go_loopw [5, 6, 7] (fun v a i wr => ∃ k : Nat, k ≤ fs.length ∧ i = .int .i64 k ∧ a = .int .i64 (allBits (fs.take k)).length ∧ wr.ownsRow w7.heap.size 3 1 v k (((fs.map (·.1)).take k).map (Value.int .i64)) ∧ Below w7.heap.size w7 wr) (fun _ _ i _ => fs.length - (intOf i).toNat)
    case atStart => exact ⟨0, Nat.zero_le _, rfl, rfl, o8, (Below.refl _ _).alloc (Nat.le_refl _) _⟩
    case round =>
      obtain ⟨k, hk, rfl, rfl, hok8, hbl⟩ := hrel
      clear o8
      by_cases hlt : k < fs.length
      · obtain ⟨_, hrd⟩ := own_rdF u1
        obtain ⟨b, off, hbo, hc1, _⟩ := hrd k hlt
        have hblk := World.block_lt_of_cell? w7 _ hc1
        have hca : wr.cell? ⟨b, off + k * 2, none⟩ = _ := (hbl.cell (p := ⟨b, off + k * 2, none⟩) hblk).trans hc1
        have hfl := okF_field (unhide HOK) k hlt
        have hrm := okF_room (unhide HOK) k hlt
        have HT := hide (congrArg List.length (allBits_take fs k hlt))
        have HM : Hid ((fs.map (·.1)).take (k + 1) = (fs.map (·.1)).take k ++ [(fs.getD k (0, 0)).1]) := by
          unfold Hid; rw [← List.map_take, ← List.map_take, take_next fs k hlt, List.map_append]; rfl
        clear hrd
        generalize fs.getD k (0, 0) = f at hc1 hca hfl hrm HT HM
        obtain ⟨x, y⟩ := f
        have hx1 : 0 ≤ x := hfl.1.1
        have hx2 : x ≤ 16 := hfl.1.2
        have hrm' : ((allBits (fs.take k)).length : Int) + x ≤ 480000 := hrm
        rw [List.length_append, bitsOf_len] at HT
        have hkk : k ≤ 30 := by omega
        clear hfl hrm
        generalize (allBits (fs.take k)).length = s0 at *
        generalize (fs.map (·.1)).take k = lk at *
        subst hbo
        go_wp2_with (at_builtin; refine wpList_append_own _ rfl _ _ 29 rfl w7.heap.size 3 i0 (.int .i64 0) 1 8 Try.underlying29 hi hz0 hz1 hz2 rfl (by decide) _ _ _ rfl (hok8.alloc _) ⟨wr.heap.size, 0, none⟩ 1 1 [.int .i64 x] rfl rfl (cell_one_new _ _ _) ?d2 ?d3 ?d4 ?d5 ?_)
        case d2 => first | rfl | (intro u hu; simp at hu; subst hu; rfl)
        case d3 => unfold maxLen; omega
        case d4 => omega
        case d5 => have := hbl.size; simp; omega
        intro v' w8 hown' hgrow _
        have hbl8 : Below w7.heap.size w7 w8 := (hbl.alloc hbl.size _).grown hgrow (by have := hbl.size; simp; omega) (fun g e => (hok8.lt g e).1)
        have hca8 : w8.cell? ⟨b, off + k * 2, none⟩ = _ := (hbl8.cell (p := ⟨b, off + k * 2, none⟩) hblk).trans hc1
        have hR : w8.ownsRow w7.heap.size 3 1 v' (k + 1) (((fs.map (·.1)).take (k + 1)).map (Value.int .i64)) := by
          rw [unhide HM, List.map_append]; exact hown'
        clear hown' hgrow hok8 hbl hca hc1
        go_wp2
        go_roundw
        case rel => exact ⟨k + 1, by omega, by go_num, by rw [unhide HT]; congr 1; show (s0 : Int) + x = ((s0 + x.toNat : Nat) : Int); omega, hR, hbl8⟩
        case measure => simp [intOf]; omega
      · obtain rfl : k = fs.length := by omega
        rw [List.take_of_length_le (Nat.le_refl _)] at *
        have e1 : (fs.map (·.1)).take fs.length = fs.map (·.1) := List.take_of_length_le (by simp)
        rw [e1] at hok8
        have hpk := unhide HP
        have hpbl : (packed fs).length = ((allBits fs).length + 7) / 8 := by rw [hpk, packB_len]
        obtain ⟨r, hr7, hr8⟩ : ∃ r : Nat, r ≤ 7 ∧ 8 * (packed fs).length = (allBits fs).length + r := ⟨8 * (packed fs).length - (allBits fs).length, by omega, by omega⟩
        have HBK := hide (fields_back fs (unhide HOK) r hr7 (by rw [← hpk]; exact hr8))
        rw [← hpk] at HBK
        have HR8 := hide hr8
        have hbyte : ∀ i, 0 ≤ (packed fs).getD i 0 ∧ (packed fs).getD i 0 ≤ 255 := by rw [hpk]; exact packB_byte _
        have hrest : (8 * ((packed fs).length : Int)) - ((allBits fs).length : Int) = (r : Int) := by omega
        have hbits : (allBits fs).length ≤ 480000 := by
          have h := unhide HOK
          simp only [okF, Bool.and_eq_true, decide_eq_true_eq] at h
          have := allBits_lens fs h.1
          omega
        have HRE := hide hrest
        have hun : unpL (packed fs) (fs.map (·.1) ++ [(r : Int)]) = fs.map (·.2) ++ [2 ^ r - 1] := by unfold unpL; rw [unhide HBK]; rfl
        have hub : unpB (packed fs) (fs.map (·.1) ++ [(r : Int)]) = true := by unfold unpB; rw [unhide HBK]; rfl
        have HUN := hide hun
        have HUB := hide hub
        clear hpk hpbl hr8 hrest hun hub HBK e1 hlt
        have hrs : (8 * ((packed fs).length : Int)) - ((allBits fs).length : Int) = (r : Int) := unhide HRE
        generalize (allBits fs).length = s0 at *
        generalize hLP : (packed fs).length = LP at *
        have HLP := hide hLP
        clear hLP
        have hr0 : ¬ (8 * (LP : Int) - (s0 : Int) < 0) := by omega
        have hr1 : ¬ (7 < 8 * (LP : Int) - (s0 : Int)) := by omega
        clear hrs
        generalize hls : fs.map (·.1) = ls at *
        have hll : ls.length = fs.length := by rw [← hls]; simp
        have HLL := hide hll
        clear hls hll
        go_wp2_with (at_builtin; refine wpList_append_own _ rfl _ _ 29 rfl w7.heap.size 3 i0 (.int .i64 0) 1 8 Try.underlying29 hi hz0 hz1 hz2 rfl (by decide) _ _ _ rfl (hok8.alloc _) ⟨wr.heap.size, 0, none⟩ 1 1 [.int .i64 (8 * (LP : Int) - (s0 : Int))] rfl rfl (cell_one_new _ _ _) ?f2 ?f3 ?f4 ?f5 ?_)
        case f2 => first | rfl | (intro u hu; simp at hu; subst hu; rfl)
        case f3 => unfold maxLen; omega
        case f4 => omega
        case f5 => have := hbl.size; simp; omega
        intro v' w8 hown' hgrow _
        have hbl8 : Below w7.heap.size w7 w8 := (hbl.alloc hbl.size _).grown hgrow (by have := hbl.size; simp; omega) (fun g e => (hok8.lt g e).1)
        have hox : w8.ownsRow w7.heap.size 3 1 v' (fs.length + 1) ((ls ++ [(r : Int)]).map (Value.int .i64)) := by
          rw [List.map_append, ← unhide HRE]; exact hown'
        obtain ⟨vo, vc, rfl⟩ := own_form hox
        have rx := own_rd hox
        have rb := (own_rd u2).below hbl8
        have rf := (own_rdF u1).below hbl8
        have G8 : w.grownBy w8 none := ⟨hbl8.os.trans G7.os, hbl8.tape.trans G7.tape, hbl8.output.trans G7.output, Nat.le_trans G7.size hbl8.size, fun j hj hr => (hbl8.block j (by have := G7.size; omega)).trans (G7.block j hj hr)⟩
        clear hown' hgrow hok8 hbl hbl8 hox G7 u1 u2
        go_wp2_with fail
        refine (implUnpack so vo LP (fs.length + 1) sc vc (packed fs) (ls ++ [(r : Int)]) w8 rb rx hbyte (by omega) (by omega)).mono ?_
        rintro e w9 ⟨co, cc, rfl, o9, g9⟩
        rw [unhide HUN, unhide HUB] at *
        have hvl : (fs.map (·.2) ++ [(2 : Int) ^ r - 1]).length = fs.length + 1 := by simp
        rw [hvl] at o9 ⊢
        have rg := own_rd o9
        have rf9 := rf.grown g9
        have G9 := grown_trans G8 g9
        obtain ⟨_, hg⟩ := rg
        obtain ⟨gb, goff, hco, hlast⟩ := hg fs.length (by omega)
        have hpw := pow_small r (by omega)
        rw [Int.toNat_natCast] at hpw
        have hlv : (fs.map (·.2) ++ [(2 : Int) ^ r - 1]).getD fs.length 0 = 2 ^ r - 1 := by simp
        rw [hlv] at hlast
        clear hlv o9 rb rx rf g9 G8
        go_wp2
        rw [unhide HRE]
        have hir : (0 : Int) ≤ (fs.length : Int) := by omega
        have hir2 : (fs.length : Int) < (fs.length : Int) + 1 := by omega
        have hsh : ((2 : Int) ^ r - 1 != wrap64 (wrap64 (2 ^ r) - 1)) = false := by
          have := shl_sub r (by omega)
          rw [Int.toNat_natCast] at this
          rw [this]; simp
        go_quiet (fail)
        go_wp2
        clear hlast hsh hir hir2 hpw
        subst hco
        obtain ⟨_, hf9⟩ := rf9
        have hgv : ∀ i, i < fs.length → w9.cell? ⟨gb, goff + i, none⟩ = some (.int .i64 (fs.getD i (0, 0)).2) := fun i hi => by
          obtain ⟨b2, off2, e2, hc2⟩ := hg i (by omega)
          simp at e2
          obtain ⟨rfl, rfl⟩ := e2
          rw [hc2, vals_get fs _ i hi]
        clear hg
        go_loopw [11] (fun i wq => ∃ k q : Nat, k ≤ fs.length ∧ i = .int .i64 k ∧ wq = w9.drewN q) (fun i _ => fs.length - (intOf i).toNat)
        case atStart => exact ⟨0, _, Nat.zero_le _, rfl, rfl⟩
        case round =>
          obtain ⟨k, q, hk, rfl, rfl⟩ := hrel
          by_cases hlt : k < fs.length
          · have hc1 := hgv k hlt
            obtain ⟨b3, off3, hbo3, _, hc2⟩ := hf9 k hlt
            subst hbo3
            generalize (fs.getD k (0, 0)).2 = y at hc1 hc2
            have hik : (k : Int) < (fs.length : Int) := by omega
            have hik1 : (k : Int) < (fs.length : Int) + 1 := by omega
            clear hgv hf9
            go_wp2
            go_quiet (fail)
            go_wp2
            go_roundw
            case rel => exact ⟨k + 1, _, by omega, by go_num, rfl⟩
            case measure => simp [intOf]; omega
          · clear hgv hf9
            go_wp2
            go_ret
            exact ⟨rfl, grown_below (grown_drewN G9 _)⟩

theorem lawBits (ao : Option Addr) (n cap : Nat) (zs : List Int) (w : World) (hr : Rd .u8 w ao n zs) (hb : ∀ i, 0 ≤ zs.getD i 0 ∧ zs.getD i 0 ≤ 255) :
    Calls Try.prog 3 #[.slice ao n cap] w fun e w' => e = .returned (.bool true) ∧ Below w.heap.size w w' := by
  by_cases hn : n ≤ 1048576
  · exact lawBits_in ao n cap zs w hr hb hn
  · have hbg : Hid (decide ((1048576 : Int) < (n : Int)) = true) := by unfold Hid; simp; omega
    go_enter Try.func3, Try.ntmps3
    go_wp2_with fail
    refine (lawBig ao n cap true w hbg).mono ?_
    rintro e w0 ⟨rfl, rfl⟩
    go_wp2
    go_ret
    exact ⟨rfl, Below.refl _ _⟩

end Go.Proofs.Ythnandohmggieaa
