/-
  Numbers that are drawn.
-/
import Derived.Test.YtekidfkahpaokaaCodeDraw
import Derived.Test.YtekidfkahpaokaaHeldTail
import Derived.Test.YtekidfkahpaokaaBinRows
namespace Go.Proofs.Ytekidfkahpaokaa
open Go.RowKit

def sixG (a b c d e f : Int) (i : Nat) : Int := [a, b, c, d, e, f].getD i 0
theorem six_at (t : TypeId) {W : World} {i : Nat} (hi : i < 6) (a b c d e f : Int) : (W.alloc (.cells #[.int .i64 a, .int .i64 b, .int .i64 c, .int .i64 d, .int .i64 e, .int .i64 f] t)).cell? ⟨W.heap.size, i, none⟩ = some (.int .i64 (sixG a b c d e f i)) := by
  rw [cell_of_row _ _ i _ _ (0, 0) (heap_alloc_new W _)]
  rcases i with _ | _ | _ | _ | _ | _ | i <;> first | rfl | omega
theorem made10 {w : World} {B m : Nat} {v : Value} (h : w.ownsRow B 3 1 v m (madeCells #[.int .i64 0] m).toList) : w.ownsRow B 3 1 v m (List.replicate m (.int .i64 0)) := by
  rw [toList_madeCells_one] at h
  exact h
def four10 (a b c d : Int) (i : Nat) : Int := [a, b, c, d].getD i 0
theorem four10_at (t : TypeId) {W : World} {i : Nat} (hi : i < 4) (a b c d : Int) : (W.alloc (.cells #[.int .i64 a, .int .i64 b, .int .i64 c, .int .i64 d] t)).cell? ⟨W.heap.size, i, none⟩ = some (.int .i64 (four10 a b c d i)) := by
  rw [cell_of_row _ _ i _ _ (0, 0) (heap_alloc_new W _)]
  rcases i with _ | _ | _ | _ | i <;> first | rfl | omega

set_option maxRecDepth 20000 in
set_option maxHeartbeats 1600000 in
theorem drawNum (tb : Nat) (ao : Option Addr) (n cap p : Nat) (zs : List Int) (w : World) (h : Cur w tb ao n cap zs p) (hp : p ≤ 900000) :
    Calls Try.prog 52 #[.pointer (some ⟨tb, 0, none⟩)] w fun e w' => ∃ (x : Int) (q : Nat), e = .returned (.int .i64 x) ∧ Cur w' tb ao n cap zs q ∧ q ≤ p + 4 ∧ w.grownBy w' (some tb) := by
  have hlt := h.lt
  have HC := hide h
  clear h
  go_enter Try.func52, Try.ntmps52
  go_wp2_with fail
  refine (pick_of tb ao n cap p 4 zs w (unhide HC) (by omega) (by omega) (by omega)).mono ?_
  rintro e w1 ⟨x, q1, rfl, hx0, hx1, c1, hq1, g1⟩
  have HC1 := hide c1
  have HG1 := hide g1
  clear c1 g1 HC
  rcases (show x = 0 ∨ x = 1 ∨ x = 2 ∨ x = 3 by omega) with rfl | rfl | rfl | rfl
  · go_wp2
    go_ret
    exact ⟨_, q1, rfl, unhide HC1, by omega, unhide HG1⟩
  · go_wp2_with fail
    refine (pick_of tb ao n cap q1 9 zs w1 (unhide HC1) (by omega) (by omega) (by omega)).mono ?_
    rintro e w2 ⟨y, q2, rfl, hy0, hy1, c2, hq2, g2⟩
    have HC2 := hide c2
    have HG2 := hide (grown_trans (unhide HG1) g2)
    have e1 := i64_in (y - 4) (by omega)
    clear c2 g2
    go_wp2
    go_ret
    exact ⟨_, q2, rfl, unhide HC2, by omega, unhide HG2⟩
  · go_wp2_with fail
    refine (pick_of tb ao n cap q1 2001 zs w1 (unhide HC1) (by omega) (by omega) (by omega)).mono ?_
    rintro e w2 ⟨y, q2, rfl, hy0, hy1, c2, hq2, g2⟩
    have HC2 := hide c2
    have HG2 := hide (grown_trans (unhide HG1) g2)
    have e1 := i64_in (y - 1000) (by omega)
    clear c2 g2
    go_wp2
    go_ret
    exact ⟨_, q2, rfl, unhide HC2, by omega, unhide HG2⟩
  · go_wp2_with fail
    refine (pick_of tb ao n cap q1 6 zs _ ((unhide HC1).grown (World.grownBy_alloc _ _ _)) (by omega) (by omega) (by omega)).mono ?_
    rintro e w2 ⟨y, q2, rfl, hy0, hy1, c2, hq2, g2⟩
    obtain ⟨i, rfl⟩ := Int.eq_ofNat_of_zero_le hy0
    have hs1 := (unhide HG1).size
    have hu := g2.cell (six_at 3 (W := w1) (i := i) (by omega) _ _ _ _ _ _) (by simp; omega)
    generalize sixG _ _ _ _ _ _ i = u at hu
    have HC2 := hide c2
    have HG2 := hide (grown_trans (unhide HG1) (grown_trans (World.grownBy_alloc _ _ _) g2))
    have hiI : (i : Int) < 6 := by omega
    clear c2 g2
    go_wp2
    go_ret
    exact ⟨_, q2, rfl, unhide HC2, by omega, unhide HG2⟩

set_option maxRecDepth 20000 in
set_option maxHeartbeats 1600000 in
theorem drawNums (tb : Nat) (ao : Option Addr) (n cap p : Nat) (zs : List Int) (w : World) (h : Cur w tb ao n cap zs p) (hp : p ≤ 800000) (hcode : 0 < n → ∀ b off, ao = some ⟨b, off, none⟩ → b < w.heap.size) :
    Calls Try.prog 28 #[.pointer (some ⟨tb, 0, none⟩)] w fun e w' => ∃ (v : Value) (ys : List Int) (q : Nat), e = .returned v ∧ ys.length ≤ 30 ∧ q ≤ p + 122 ∧ Dw w tb ao n cap zs q w' v ys := by
  have hlt := h.lt
  have HAL := hide hcode
  have HD0 := hide (Dw.nil (w := w) h (World.grownBy.refl _ _))
  clear h hcode
  go_enter Try.func28, Try.ntmps28
  go_wp2_with fail
  refine (size_of tb ao n cap p 30 zs _ (unhide HD0).cur (by omega) (by omega) (by omega)).mono ?_
  rintro e w1 ⟨x, q1, rfl, hx0, hx1, c1, hq1, g1⟩
  obtain ⟨M, rfl⟩ := Int.eq_ofNat_of_zero_le hx0
  have HD1 := hide ((unhide HD0).pick hlt c1 g1)
  clear c1 g1 HD0
  go_wp2
  go_loopw [3, 4] (fun v i wr => ∃ (j q : Nat) (Z : List Int), i = .int .i64 j ∧ Z.length + j ≤ 30 ∧ q + 4 * j ≤ p + 122 ∧ Hid (Dw w tb ao n cap zs q wr v Z)) (fun _ i _ => (intOf i).toNat)
  case atStart => exact ⟨M, q1, [], rfl, by simp; omega, by omega, HD1⟩
  case round =>
    clear HD1
    obtain ⟨j, q, Z, rfl, hj, hq, hD⟩ := hrel
    obtain ⟨zo, zc, rfl⟩ := own_form (unhide hD).own
    by_cases hj0 : 0 < j
    · have hd : decide ((0 : Int) < (j : Int)) = true := by simp; omega
      have e2 := i64_in ((j : Int) - 1) (by omega)
      go_wp2_with fail
      refine (drawNum tb ao n cap q zs wr (unhide hD).cur (by omega)).mono ?_
      rintro e w5 ⟨y, q5, rfl, c5, hq5, g5⟩
      have HD5 := hide ((unhide hD).pick hlt c5 g5)
      clear c5 g5 hD
      obtain ⟨R, HR⟩ : ∃ R, Hid (Z ++ [y] = R) := ⟨_, rfl⟩
      have HRL : Hid (R.length = Z.length + 1) := by unfold Hid; rw [← unhide HR, List.length_append]; rfl
      go_wp2_with (at_builtin; refine append_dw rfl _ _ rfl w tb ao n cap zs q5 (.slice zo Z.length zc) Z rfl (unhide HD5) y rfl (by omega) hlt (unhide HAL) R (unhide HR) ?_)
      intro v6 w6 d6
      obtain ⟨so6, sc6, rfl⟩ := own_form d6.own
      have HD6 := hide d6
      clear d6 HD5
      go_wp2
      go_roundw
      case rel => exact ⟨j - 1, q5, R, by go_num, by have := unhide HRL; omega, by omega, HD6⟩
      case measure => simp [intOf]; omega
    · have hd : decide ((0 : Int) < (j : Int)) = false := by simp; omega
      go_wp2
      go_ret
      exact ⟨_, Z, q, rfl, by omega, by omega, unhide hD⟩

set_option maxRecDepth 20000 in
set_option maxHeartbeats 3200000 in
theorem drawList10 (ao : Option Addr) (n cap : Nat) (zs : List Int) (w : World) (hr : Rd .u8 w ao n zs) (hb : ∀ i, 0 ≤ zs.getD i 0 ∧ zs.getD i 0 ≤ 255) (hn : n ≤ 1048576) :
    Calls Try.prog 8 #[.slice ao n cap] w fun e w' => ∃ (so : Option Addr) (sc : Nat) (ys : List Int) (b : Int), e = .returned (.tuple #[.slice so ys.length sc, .int .i64 b]) ∧ ys.length ≤ 4097 ∧ Rd .i64 w' so ys.length ys ∧ w.grownBy w' none := by
  have hcl := hr.lt
  have HR := hide hr
  have HB := hide hb
  clear hr hb
  go_enter Try.func8, Try.ntmps8
  go_wp2_with fail
  refine (open_of ao n cap zs w (unhide HR) (unhide HB) hn).mono ?_
  rintro e w1 ⟨rfl, c1, g1⟩
  obtain ⟨tb, HTB⟩ : ∃ tb, Hid (w.heap.size = tb) := ⟨_, rfl⟩
  rw [unhide HTB] at c1 ⊢
  have hlt := c1.lt
  have HCO : Hid (0 < n → ∀ b off, ao = some ⟨b, off, none⟩ → b < w1.heap.size) := fun h0 b off e => Nat.lt_of_lt_of_le (hcl h0 b off e) g1.size
  have HC1 := hide c1
  have HG1 := hide g1
  clear c1 g1 hcl
  go_wp2_with fail
  refine (drawNums tb ao n cap 0 zs w1 (unhide HC1) (by omega) (unhide HCO)).mono ?_
  rintro e w2 ⟨v2, Y, q2, rfl, hYl, hq2, d2⟩
  obtain ⟨so, sc, rfl⟩ := own_form d2.own
  have HD2 := hide d2
  clear d2 HC1
  go_wp2_with fail
  refine (pick_of tb ao n cap q2 14 zs w2 (unhide HD2).cur (by omega) (by omega) (by omega)).mono ?_
  rintro e w3 ⟨x, q3, rfl, hx0, hx1, c3, hq3, g3⟩
  have HD3 := hide ((unhide HD2).pick hlt c3 g3)
  clear c3 g3 HD2
  have HNEW : Hid (∀ W, w1.grownBy W (some tb) → w.grownBy W none) := fun W g => grown_new (unhide HG1) g (fun k e => by have := Option.some.inj e; have := unhide HTB; omega)
  by_cases h0 : x = 0
  · subst h0
    go_wp2_with fail
    refine (odd_of tb ao n cap q3 zs w3 (unhide HD3).cur (by omega)).mono ?_
    rintro e w4 ⟨y, q4, rfl, c4, hq4, g4⟩
    have HD4 := hide ((unhide HD3).pick hlt c4 g4)
    clear c4 g4 HD3
    obtain ⟨R, HR⟩ : ∃ R, Hid (Y ++ [y] = R) := ⟨_, rfl⟩
    have HRL : Hid (R.length = Y.length + 1) := by unfold Hid; rw [← unhide HR, List.length_append]; rfl
    go_wp2_with (at_builtin; refine append_dw rfl _ _ rfl w1 tb ao n cap zs q4 (.slice so Y.length sc) Y rfl (unhide HD4) y rfl (by omega) hlt (unhide HCO) R (unhide HR) ?_)
    intro v6 w6 d6
    obtain ⟨so6, sc6, rfl⟩ := own_form d6.own
    have HDX := hide d6
    have HXL : Hid (R.length ≤ 4097) := by have := unhide HRL; unfold Hid; omega
    have hqx : q4 ≤ 200 := by omega
    clear d6 HD4
    go_wp2
    have HDd := hide ((unhide HDX).new (grown_drew (World.grownBy.refl _ _)))
    refine wp_region_noPanic ?_
    refine wp_region_raw (fun _ => True) [true, false, true, false, false, false, false, false] (by kernel_rfl) (fun _ _ _ _ _ h => h) rfl (by kernel_rfl) trivial ?_
    refine heldF_take (v := ?_) (Or.inl ⟨by rfl, ?_⟩) ?_
    rotate_left 1
    · intro w' hSw
      go_simp
      try with_reducible rfl
    try simp only [Act.put, List.setIfInBounds_toArray, List.set_cons_zero, List.set_cons_succ]
    refine heldF_skip ?_
    refine heldF_take (v := ?_) (Or.inl ⟨by rfl, ?_⟩) ?_
    rotate_left 1
    · intro w' hSw
      go_simp
      try with_reducible rfl
    try simp only [Act.put, List.setIfInBounds_toArray, List.set_cons_zero, List.set_cons_succ]
    iterate 5 refine heldF_skip ?_
    refine heldF_nil ?_
    refine anyH_step2 (i := 1) (j := 3) rfl rfl (by kernel_rfl) (fun K hK => ?_) (fun K hK => ?_)
    · go_simp
      refine hK.out _ _ trivial ?_
      clear hK K
      try simp only [Act.put, List.setIfInBounds_toArray, List.set_cons_zero, List.set_cons_succ]
      refine anyH_step1 (i := 3) rfl (by kernel_rfl) (fun K hK => ?_)
      go_simp
      refine (pick_of tb ao n cap q4 4 zs _ ((unhide HDd).new (World.grownBy_alloc _ _ _)).cur (by omega) (by omega) (by omega)).mono ?_
      rintro e w8 ⟨y8, q8, rfl, hy80, hy81, c8, hq8, g8⟩
      obtain ⟨i8, rfl⟩ := Int.eq_ofNat_of_zero_le hy80
      have hs8 : tb < (w6.drew).heap.size := (unhide HDd).cur.lt
      have hu : w8.cell? ⟨w6.heap.size, i8, none⟩ = some (.int .i64 (four10 0 40 380 381 i8)) := g8.cell (four10_at 3 (W := w6.drew) (i := i8) (by omega) _ _ _ _) (by simp at hs8 ⊢; omega)
      generalize four10 _ _ _ _ i8 = u at hu
      have HD8 := hide (((unhide HDd).new (World.grownBy_alloc _ _ _)).pick hlt c8 g8)
      have hiI : (i8 : Int) < 4 := by omega
      clear c8 g8
      go_simp
      refine hK.out _ _ trivial ?_
      clear hK K
      try simp only [Act.put, List.setIfInBounds_toArray, List.set_cons_zero, List.set_cons_succ]
      refine anyH_step2 (i := 4) (j := 6) rfl rfl (by kernel_rfl) (fun K hK => ?_) (fun K hK => ?_)
      · go_simp
        refine hK.out _ _ trivial ?_
        clear hK K
        try simp only [Act.put, List.setIfInBounds_toArray, List.set_cons_zero, List.set_cons_succ]
        refine anyH_step2 (i := 5) (j := 6) rfl rfl (by kernel_rfl) (fun K hK => ?_) (fun K hK => ?_)
        · go_simp
          refine hK.out _ _ trivial ?_
          clear hK K
          try simp only [Act.put, List.setIfInBounds_toArray, List.set_cons_zero, List.set_cons_succ]
          refine anyH_step1 (i := 6) rfl (by kernel_rfl) (fun K hK => ?_)
          go_simp
          refine hK.out _ _ trivial ?_
          clear hK K
          try simp only [Act.put, List.setIfInBounds_toArray, List.set_cons_zero, List.set_cons_succ]
          refine anyH_step1 (i := 7) rfl (by kernel_rfl) (fun K hK => ?_)
          go_simp
          refine hK.out _ _ trivial ?_
          clear hK K
          try simp only [Act.put, List.setIfInBounds_toArray, List.set_cons_zero, List.set_cons_succ]
          refine wpAnyH_done (by kernel_rfl) (NoPanic.normal ?_) _
          have HF := hide (own_rd (unhide HD8).own)
          have HGF := hide (unhide HNEW _ (unhide HD8).grown)
          clear HD8 hu
          go_wp2
          go_ret2
          exact ⟨_, _, _, _, rfl, unhide HXL, unhide HF, unhide HGF⟩
        · go_simp
          refine hK.out _ _ trivial ?_
          clear hK K
          try simp only [Act.put, List.setIfInBounds_toArray, List.set_cons_zero, List.set_cons_succ]
          refine anyH_step1 (i := 5) rfl (by kernel_rfl) (fun K hK => ?_)
          go_simp
          refine hK.out _ _ trivial ?_
          clear hK K
          try simp only [Act.put, List.setIfInBounds_toArray, List.set_cons_zero, List.set_cons_succ]
          refine anyH_step1 (i := 7) rfl (by kernel_rfl) (fun K hK => ?_)
          go_simp
          refine hK.out _ _ trivial ?_
          clear hK K
          try simp only [Act.put, List.setIfInBounds_toArray, List.set_cons_zero, List.set_cons_succ]
          refine wpAnyH_done (by kernel_rfl) (NoPanic.normal ?_) _
          have HF := hide (own_rd (unhide HD8).own)
          have HGF := hide (unhide HNEW _ (unhide HD8).grown)
          clear HD8 hu
          go_wp2
          go_ret2
          exact ⟨_, _, _, _, rfl, unhide HXL, unhide HF, unhide HGF⟩
      · go_simp
        refine hK.out _ _ trivial ?_
        clear hK K
        try simp only [Act.put, List.setIfInBounds_toArray, List.set_cons_zero, List.set_cons_succ]
        refine anyH_step1 (i := 4) rfl (by kernel_rfl) (fun K hK => ?_)
        go_simp
        refine hK.out _ _ trivial ?_
        clear hK K
        try simp only [Act.put, List.setIfInBounds_toArray, List.set_cons_zero, List.set_cons_succ]
        refine anyH_step1 (i := 5) rfl (by kernel_rfl) (fun K hK => ?_)
        go_simp
        refine hK.out _ _ trivial ?_
        clear hK K
        try simp only [Act.put, List.setIfInBounds_toArray, List.set_cons_zero, List.set_cons_succ]
        refine anyH_step1 (i := 7) rfl (by kernel_rfl) (fun K hK => ?_)
        go_simp
        refine hK.out _ _ trivial ?_
        clear hK K
        try simp only [Act.put, List.setIfInBounds_toArray, List.set_cons_zero, List.set_cons_succ]
        refine wpAnyH_done (by kernel_rfl) (NoPanic.normal ?_) _
        have HF := hide (own_rd (unhide HD8).own)
        have HGF := hide (unhide HNEW _ (unhide HD8).grown)
        clear HD8 hu
        go_wp2
        go_ret2
        exact ⟨_, _, _, _, rfl, unhide HXL, unhide HF, unhide HGF⟩
    · go_simp
      refine (pick_of tb ao n cap q4 4 zs _ (unhide HDd).cur (by omega) (by omega) (by omega)).mono ?_
      rintro e w8 ⟨y8, q8, rfl, hy80, hy81, c8, hq8, g8⟩
      obtain ⟨i8, rfl⟩ := Int.eq_ofNat_of_zero_le hy80
      have HD7 := hide ((unhide HDd).pick hlt c8 g8)
      have hiI : (i8 : Int) < 4 := by omega
      clear c8 g8
      go_simp
      refine hK.out _ _ trivial ?_
      clear hK K
      try simp only [Act.put, List.setIfInBounds_toArray, List.set_cons_zero, List.set_cons_succ]
      refine anyH_step2 (i := 1) (j := 6) rfl rfl (by kernel_rfl) (fun K hK => ?_) (fun K hK => ?_)
      · have HD8 := hide ((unhide HD7).new (World.grownBy_alloc w8 (.cells #[.int .i64 0, .int .i64 40, .int .i64 380, .int .i64 381] 3) none))
        have hu := four10_at 3 (W := w8) (i := i8) (by omega) 0 40 380 381
        generalize four10 _ _ _ _ i8 = u at hu
        go_simp
        refine hK.out _ _ trivial ?_
        clear hK K
        try simp only [Act.put, List.setIfInBounds_toArray, List.set_cons_zero, List.set_cons_succ]
        refine anyH_step2 (i := 4) (j := 6) rfl rfl (by kernel_rfl) (fun K hK => ?_) (fun K hK => ?_)
        · go_simp
          refine hK.out _ _ trivial ?_
          clear hK K
          try simp only [Act.put, List.setIfInBounds_toArray, List.set_cons_zero, List.set_cons_succ]
          refine anyH_step2 (i := 5) (j := 6) rfl rfl (by kernel_rfl) (fun K hK => ?_) (fun K hK => ?_)
          · go_simp
            refine hK.out _ _ trivial ?_
            clear hK K
            try simp only [Act.put, List.setIfInBounds_toArray, List.set_cons_zero, List.set_cons_succ]
            refine anyH_step1 (i := 6) rfl (by kernel_rfl) (fun K hK => ?_)
            go_simp
            refine hK.out _ _ trivial ?_
            clear hK K
            try simp only [Act.put, List.setIfInBounds_toArray, List.set_cons_zero, List.set_cons_succ]
            refine anyH_step1 (i := 7) rfl (by kernel_rfl) (fun K hK => ?_)
            go_simp
            refine hK.out _ _ trivial ?_
            clear hK K
            try simp only [Act.put, List.setIfInBounds_toArray, List.set_cons_zero, List.set_cons_succ]
            refine wpAnyH_done (by kernel_rfl) (NoPanic.normal ?_) _
            have HF := hide (own_rd (unhide HD8).own)
            have HGF := hide (unhide HNEW _ (unhide HD8).grown)
            clear HD8 hu
            go_wp2
            go_ret2
            exact ⟨_, _, _, _, rfl, unhide HXL, unhide HF, unhide HGF⟩
          · go_simp
            refine hK.out _ _ trivial ?_
            clear hK K
            try simp only [Act.put, List.setIfInBounds_toArray, List.set_cons_zero, List.set_cons_succ]
            refine anyH_step1 (i := 5) rfl (by kernel_rfl) (fun K hK => ?_)
            go_simp
            refine hK.out _ _ trivial ?_
            clear hK K
            try simp only [Act.put, List.setIfInBounds_toArray, List.set_cons_zero, List.set_cons_succ]
            refine anyH_step1 (i := 7) rfl (by kernel_rfl) (fun K hK => ?_)
            go_simp
            refine hK.out _ _ trivial ?_
            clear hK K
            try simp only [Act.put, List.setIfInBounds_toArray, List.set_cons_zero, List.set_cons_succ]
            refine wpAnyH_done (by kernel_rfl) (NoPanic.normal ?_) _
            have HF := hide (own_rd (unhide HD8).own)
            have HGF := hide (unhide HNEW _ (unhide HD8).grown)
            clear HD8 hu
            go_wp2
            go_ret2
            exact ⟨_, _, _, _, rfl, unhide HXL, unhide HF, unhide HGF⟩
        · go_simp
          refine hK.out _ _ trivial ?_
          clear hK K
          try simp only [Act.put, List.setIfInBounds_toArray, List.set_cons_zero, List.set_cons_succ]
          refine anyH_step1 (i := 4) rfl (by kernel_rfl) (fun K hK => ?_)
          go_simp
          refine hK.out _ _ trivial ?_
          clear hK K
          try simp only [Act.put, List.setIfInBounds_toArray, List.set_cons_zero, List.set_cons_succ]
          refine anyH_step1 (i := 5) rfl (by kernel_rfl) (fun K hK => ?_)
          go_simp
          refine hK.out _ _ trivial ?_
          clear hK K
          try simp only [Act.put, List.setIfInBounds_toArray, List.set_cons_zero, List.set_cons_succ]
          refine anyH_step1 (i := 7) rfl (by kernel_rfl) (fun K hK => ?_)
          go_simp
          refine hK.out _ _ trivial ?_
          clear hK K
          try simp only [Act.put, List.setIfInBounds_toArray, List.set_cons_zero, List.set_cons_succ]
          refine wpAnyH_done (by kernel_rfl) (NoPanic.normal ?_) _
          have HF := hide (own_rd (unhide HD8).own)
          have HGF := hide (unhide HNEW _ (unhide HD8).grown)
          clear HD8 hu
          go_wp2
          go_ret2
          exact ⟨_, _, _, _, rfl, unhide HXL, unhide HF, unhide HGF⟩
      · go_simp
        refine hK.out _ _ trivial ?_
        clear hK K
        try simp only [Act.put, List.setIfInBounds_toArray, List.set_cons_zero, List.set_cons_succ]
        refine anyH_step1 (i := 1) rfl (by kernel_rfl) (fun K hK => ?_)
        have HD8 := hide ((unhide HD7).new (World.grownBy_alloc w8 (.cells #[.int .i64 0, .int .i64 40, .int .i64 380, .int .i64 381] 3) none))
        have hu := four10_at 3 (W := w8) (i := i8) (by omega) 0 40 380 381
        generalize four10 _ _ _ _ i8 = u at hu
        go_simp
        refine hK.out _ _ trivial ?_
        clear hK K
        try simp only [Act.put, List.setIfInBounds_toArray, List.set_cons_zero, List.set_cons_succ]
        refine anyH_step1 (i := 4) rfl (by kernel_rfl) (fun K hK => ?_)
        go_simp
        refine hK.out _ _ trivial ?_
        clear hK K
        try simp only [Act.put, List.setIfInBounds_toArray, List.set_cons_zero, List.set_cons_succ]
        refine anyH_step1 (i := 5) rfl (by kernel_rfl) (fun K hK => ?_)
        go_simp
        refine hK.out _ _ trivial ?_
        clear hK K
        try simp only [Act.put, List.setIfInBounds_toArray, List.set_cons_zero, List.set_cons_succ]
        refine anyH_step1 (i := 7) rfl (by kernel_rfl) (fun K hK => ?_)
        go_simp
        refine hK.out _ _ trivial ?_
        clear hK K
        try simp only [Act.put, List.setIfInBounds_toArray, List.set_cons_zero, List.set_cons_succ]
        refine wpAnyH_done (by kernel_rfl) (NoPanic.normal ?_) _
        have HF := hide (own_rd (unhide HD8).own)
        have HGF := hide (unhide HNEW _ (unhide HD8).grown)
        clear HD8 hu
        go_wp2
        go_ret2
        exact ⟨_, _, _, _, rfl, unhide HXL, unhide HF, unhide HGF⟩
  · have hne0 : (x == 0) = false := by simp [h0]
    by_cases h1 : x = 1
    · subst h1
      obtain ⟨i0, hi, hz0, hz1, hz2⟩ := info_parts info_i9
      go_wp2_with fail
      refine (pick_of tb ao n cap q3 2 zs w3 (unhide HD3).cur (by omega) (by omega) (by omega)).mono ?_
      rintro e w4 ⟨y, q4, rfl, hy0, hy1, c4, hq4, g4⟩
      obtain ⟨yn, rfl⟩ := Int.eq_ofNat_of_zero_le hy0
      have HD4 := hide ((unhide HD3).pick hlt c4 g4)
      have e4 := i64_in (4096 + (yn : Int)) (by omega)
      clear c4 g4 HD3
      go_wp2_with (at_make; refine wpList_make_full _ rfl _ _ 24 rfl w1.heap.size 3 i0 (.int .i64 0) 1 Try.underlying24 hi hz0 hz1 .i64 .i64 _ _ (4096 + yn) rfl rfl (by omega) (by omega) (by rw [hz2]; omega) (by unfold maxLen; omega) (unhide HD4).grown.size ?_)
      intro w6 hown hgrow
      obtain ⟨R, HR⟩ : ∃ R : List Int, Hid (List.replicate (4096 + yn) 0 = R) := ⟨_, hide rfl⟩
      have HRL : Hid (R.length = 4096 + yn) := by unfold Hid; rw [← unhide HR]; simp
      have HDX : Hid (Dw w1 tb ao n cap zs q4 w6 (.slice (some ⟨w4.heap.size, 0, none⟩) R.length R.length) R) := by
        refine ⟨?_, (unhide HD4).cur.grown hgrow, grown_trans (unhide HD4).grown (grown_any hgrow)⟩
        rw [unhide HRL, ← unhide HR]
        have e9 : (List.replicate (4096 + yn) (0 : Int)).map (Value.int .i64) = List.replicate (4096 + yn) (.int .i64 0) := by simp
        rw [e9]
        exact made10 hown
      have HXL : Hid (R.length ≤ 4097) := by have := unhide HRL; unfold Hid; omega
      have hqx : q4 ≤ 200 := by omega
      have HRL2 := hide (unhide HRL).symm
      rw [unhide HRL2]
      clear hown hgrow HD4 hi hz0 hz1 hz2 HRL2
      go_wp2
      have HDd := hide ((unhide HDX).new (grown_drew (World.grownBy.refl _ _)))
      refine wp_region_noPanic ?_
      refine wp_region_raw (fun _ => True) [true, false, true, false, false, false, false, false] (by kernel_rfl) (fun _ _ _ _ _ h => h) rfl (by kernel_rfl) trivial ?_
      refine heldF_take (v := ?_) (Or.inl ⟨by rfl, ?_⟩) ?_
      rotate_left 1
      · intro w' hSw
        go_simp
        try with_reducible rfl
      try simp only [Act.put, List.setIfInBounds_toArray, List.set_cons_zero, List.set_cons_succ]
      refine heldF_skip ?_
      refine heldF_take (v := ?_) (Or.inl ⟨by rfl, ?_⟩) ?_
      rotate_left 1
      · intro w' hSw
        go_simp
        try with_reducible rfl
      try simp only [Act.put, List.setIfInBounds_toArray, List.set_cons_zero, List.set_cons_succ]
      iterate 5 refine heldF_skip ?_
      refine heldF_nil ?_
      refine anyH_step2 (i := 1) (j := 3) rfl rfl (by kernel_rfl) (fun K hK => ?_) (fun K hK => ?_)
      · go_simp
        refine hK.out _ _ trivial ?_
        clear hK K
        try simp only [Act.put, List.setIfInBounds_toArray, List.set_cons_zero, List.set_cons_succ]
        refine anyH_step1 (i := 3) rfl (by kernel_rfl) (fun K hK => ?_)
        go_simp
        refine (pick_of tb ao n cap q4 4 zs _ ((unhide HDd).new (World.grownBy_alloc _ _ _)).cur (by omega) (by omega) (by omega)).mono ?_
        rintro e w8 ⟨y8, q8, rfl, hy80, hy81, c8, hq8, g8⟩
        obtain ⟨i8, rfl⟩ := Int.eq_ofNat_of_zero_le hy80
        have hs8 : tb < (w6.drew).heap.size := (unhide HDd).cur.lt
        have hu : w8.cell? ⟨w6.heap.size, i8, none⟩ = some (.int .i64 (four10 0 40 380 381 i8)) := g8.cell (four10_at 3 (W := w6.drew) (i := i8) (by omega) _ _ _ _) (by simp at hs8 ⊢; omega)
        generalize four10 _ _ _ _ i8 = u at hu
        have HD8 := hide (((unhide HDd).new (World.grownBy_alloc _ _ _)).pick hlt c8 g8)
        have hiI : (i8 : Int) < 4 := by omega
        clear c8 g8
        go_simp
        refine hK.out _ _ trivial ?_
        clear hK K
        try simp only [Act.put, List.setIfInBounds_toArray, List.set_cons_zero, List.set_cons_succ]
        refine anyH_step2 (i := 4) (j := 6) rfl rfl (by kernel_rfl) (fun K hK => ?_) (fun K hK => ?_)
        · go_simp
          refine hK.out _ _ trivial ?_
          clear hK K
          try simp only [Act.put, List.setIfInBounds_toArray, List.set_cons_zero, List.set_cons_succ]
          refine anyH_step2 (i := 5) (j := 6) rfl rfl (by kernel_rfl) (fun K hK => ?_) (fun K hK => ?_)
          · go_simp
            refine hK.out _ _ trivial ?_
            clear hK K
            try simp only [Act.put, List.setIfInBounds_toArray, List.set_cons_zero, List.set_cons_succ]
            refine anyH_step1 (i := 6) rfl (by kernel_rfl) (fun K hK => ?_)
            go_simp
            refine hK.out _ _ trivial ?_
            clear hK K
            try simp only [Act.put, List.setIfInBounds_toArray, List.set_cons_zero, List.set_cons_succ]
            refine anyH_step1 (i := 7) rfl (by kernel_rfl) (fun K hK => ?_)
            go_simp
            refine hK.out _ _ trivial ?_
            clear hK K
            try simp only [Act.put, List.setIfInBounds_toArray, List.set_cons_zero, List.set_cons_succ]
            refine wpAnyH_done (by kernel_rfl) (NoPanic.normal ?_) _
            have HF := hide (own_rd (unhide HD8).own)
            have HGF := hide (unhide HNEW _ (unhide HD8).grown)
            clear HD8 hu
            go_wp2
            go_ret2
            exact ⟨_, _, _, _, rfl, unhide HXL, unhide HF, unhide HGF⟩
          · go_simp
            refine hK.out _ _ trivial ?_
            clear hK K
            try simp only [Act.put, List.setIfInBounds_toArray, List.set_cons_zero, List.set_cons_succ]
            refine anyH_step1 (i := 5) rfl (by kernel_rfl) (fun K hK => ?_)
            go_simp
            refine hK.out _ _ trivial ?_
            clear hK K
            try simp only [Act.put, List.setIfInBounds_toArray, List.set_cons_zero, List.set_cons_succ]
            refine anyH_step1 (i := 7) rfl (by kernel_rfl) (fun K hK => ?_)
            go_simp
            refine hK.out _ _ trivial ?_
            clear hK K
            try simp only [Act.put, List.setIfInBounds_toArray, List.set_cons_zero, List.set_cons_succ]
            refine wpAnyH_done (by kernel_rfl) (NoPanic.normal ?_) _
            have HF := hide (own_rd (unhide HD8).own)
            have HGF := hide (unhide HNEW _ (unhide HD8).grown)
            clear HD8 hu
            go_wp2
            go_ret2
            exact ⟨_, _, _, _, rfl, unhide HXL, unhide HF, unhide HGF⟩
        · go_simp
          refine hK.out _ _ trivial ?_
          clear hK K
          try simp only [Act.put, List.setIfInBounds_toArray, List.set_cons_zero, List.set_cons_succ]
          refine anyH_step1 (i := 4) rfl (by kernel_rfl) (fun K hK => ?_)
          go_simp
          refine hK.out _ _ trivial ?_
          clear hK K
          try simp only [Act.put, List.setIfInBounds_toArray, List.set_cons_zero, List.set_cons_succ]
          refine anyH_step1 (i := 5) rfl (by kernel_rfl) (fun K hK => ?_)
          go_simp
          refine hK.out _ _ trivial ?_
          clear hK K
          try simp only [Act.put, List.setIfInBounds_toArray, List.set_cons_zero, List.set_cons_succ]
          refine anyH_step1 (i := 7) rfl (by kernel_rfl) (fun K hK => ?_)
          go_simp
          refine hK.out _ _ trivial ?_
          clear hK K
          try simp only [Act.put, List.setIfInBounds_toArray, List.set_cons_zero, List.set_cons_succ]
          refine wpAnyH_done (by kernel_rfl) (NoPanic.normal ?_) _
          have HF := hide (own_rd (unhide HD8).own)
          have HGF := hide (unhide HNEW _ (unhide HD8).grown)
          clear HD8 hu
          go_wp2
          go_ret2
          exact ⟨_, _, _, _, rfl, unhide HXL, unhide HF, unhide HGF⟩
      · go_simp
        refine (pick_of tb ao n cap q4 4 zs _ (unhide HDd).cur (by omega) (by omega) (by omega)).mono ?_
        rintro e w8 ⟨y8, q8, rfl, hy80, hy81, c8, hq8, g8⟩
        obtain ⟨i8, rfl⟩ := Int.eq_ofNat_of_zero_le hy80
        have HD7 := hide ((unhide HDd).pick hlt c8 g8)
        have hiI : (i8 : Int) < 4 := by omega
        clear c8 g8
        go_simp
        refine hK.out _ _ trivial ?_
        clear hK K
        try simp only [Act.put, List.setIfInBounds_toArray, List.set_cons_zero, List.set_cons_succ]
        refine anyH_step2 (i := 1) (j := 6) rfl rfl (by kernel_rfl) (fun K hK => ?_) (fun K hK => ?_)
        · have HD8 := hide ((unhide HD7).new (World.grownBy_alloc w8 (.cells #[.int .i64 0, .int .i64 40, .int .i64 380, .int .i64 381] 3) none))
          have hu := four10_at 3 (W := w8) (i := i8) (by omega) 0 40 380 381
          generalize four10 _ _ _ _ i8 = u at hu
          go_simp
          refine hK.out _ _ trivial ?_
          clear hK K
          try simp only [Act.put, List.setIfInBounds_toArray, List.set_cons_zero, List.set_cons_succ]
          refine anyH_step2 (i := 4) (j := 6) rfl rfl (by kernel_rfl) (fun K hK => ?_) (fun K hK => ?_)
          · go_simp
            refine hK.out _ _ trivial ?_
            clear hK K
            try simp only [Act.put, List.setIfInBounds_toArray, List.set_cons_zero, List.set_cons_succ]
            refine anyH_step2 (i := 5) (j := 6) rfl rfl (by kernel_rfl) (fun K hK => ?_) (fun K hK => ?_)
            · go_simp
              refine hK.out _ _ trivial ?_
              clear hK K
              try simp only [Act.put, List.setIfInBounds_toArray, List.set_cons_zero, List.set_cons_succ]
              refine anyH_step1 (i := 6) rfl (by kernel_rfl) (fun K hK => ?_)
              go_simp
              refine hK.out _ _ trivial ?_
              clear hK K
              try simp only [Act.put, List.setIfInBounds_toArray, List.set_cons_zero, List.set_cons_succ]
              refine anyH_step1 (i := 7) rfl (by kernel_rfl) (fun K hK => ?_)
              go_simp
              refine hK.out _ _ trivial ?_
              clear hK K
              try simp only [Act.put, List.setIfInBounds_toArray, List.set_cons_zero, List.set_cons_succ]
              refine wpAnyH_done (by kernel_rfl) (NoPanic.normal ?_) _
              have HF := hide (own_rd (unhide HD8).own)
              have HGF := hide (unhide HNEW _ (unhide HD8).grown)
              clear HD8 hu
              go_wp2
              go_ret2
              exact ⟨_, _, _, _, rfl, unhide HXL, unhide HF, unhide HGF⟩
            · go_simp
              refine hK.out _ _ trivial ?_
              clear hK K
              try simp only [Act.put, List.setIfInBounds_toArray, List.set_cons_zero, List.set_cons_succ]
              refine anyH_step1 (i := 5) rfl (by kernel_rfl) (fun K hK => ?_)
              go_simp
              refine hK.out _ _ trivial ?_
              clear hK K
              try simp only [Act.put, List.setIfInBounds_toArray, List.set_cons_zero, List.set_cons_succ]
              refine anyH_step1 (i := 7) rfl (by kernel_rfl) (fun K hK => ?_)
              go_simp
              refine hK.out _ _ trivial ?_
              clear hK K
              try simp only [Act.put, List.setIfInBounds_toArray, List.set_cons_zero, List.set_cons_succ]
              refine wpAnyH_done (by kernel_rfl) (NoPanic.normal ?_) _
              have HF := hide (own_rd (unhide HD8).own)
              have HGF := hide (unhide HNEW _ (unhide HD8).grown)
              clear HD8 hu
              go_wp2
              go_ret2
              exact ⟨_, _, _, _, rfl, unhide HXL, unhide HF, unhide HGF⟩
          · go_simp
            refine hK.out _ _ trivial ?_
            clear hK K
            try simp only [Act.put, List.setIfInBounds_toArray, List.set_cons_zero, List.set_cons_succ]
            refine anyH_step1 (i := 4) rfl (by kernel_rfl) (fun K hK => ?_)
            go_simp
            refine hK.out _ _ trivial ?_
            clear hK K
            try simp only [Act.put, List.setIfInBounds_toArray, List.set_cons_zero, List.set_cons_succ]
            refine anyH_step1 (i := 5) rfl (by kernel_rfl) (fun K hK => ?_)
            go_simp
            refine hK.out _ _ trivial ?_
            clear hK K
            try simp only [Act.put, List.setIfInBounds_toArray, List.set_cons_zero, List.set_cons_succ]
            refine anyH_step1 (i := 7) rfl (by kernel_rfl) (fun K hK => ?_)
            go_simp
            refine hK.out _ _ trivial ?_
            clear hK K
            try simp only [Act.put, List.setIfInBounds_toArray, List.set_cons_zero, List.set_cons_succ]
            refine wpAnyH_done (by kernel_rfl) (NoPanic.normal ?_) _
            have HF := hide (own_rd (unhide HD8).own)
            have HGF := hide (unhide HNEW _ (unhide HD8).grown)
            clear HD8 hu
            go_wp2
            go_ret2
            exact ⟨_, _, _, _, rfl, unhide HXL, unhide HF, unhide HGF⟩
        · go_simp
          refine hK.out _ _ trivial ?_
          clear hK K
          try simp only [Act.put, List.setIfInBounds_toArray, List.set_cons_zero, List.set_cons_succ]
          refine anyH_step1 (i := 1) rfl (by kernel_rfl) (fun K hK => ?_)
          have HD8 := hide ((unhide HD7).new (World.grownBy_alloc w8 (.cells #[.int .i64 0, .int .i64 40, .int .i64 380, .int .i64 381] 3) none))
          have hu := four10_at 3 (W := w8) (i := i8) (by omega) 0 40 380 381
          generalize four10 _ _ _ _ i8 = u at hu
          go_simp
          refine hK.out _ _ trivial ?_
          clear hK K
          try simp only [Act.put, List.setIfInBounds_toArray, List.set_cons_zero, List.set_cons_succ]
          refine anyH_step1 (i := 4) rfl (by kernel_rfl) (fun K hK => ?_)
          go_simp
          refine hK.out _ _ trivial ?_
          clear hK K
          try simp only [Act.put, List.setIfInBounds_toArray, List.set_cons_zero, List.set_cons_succ]
          refine anyH_step1 (i := 5) rfl (by kernel_rfl) (fun K hK => ?_)
          go_simp
          refine hK.out _ _ trivial ?_
          clear hK K
          try simp only [Act.put, List.setIfInBounds_toArray, List.set_cons_zero, List.set_cons_succ]
          refine anyH_step1 (i := 7) rfl (by kernel_rfl) (fun K hK => ?_)
          go_simp
          refine hK.out _ _ trivial ?_
          clear hK K
          try simp only [Act.put, List.setIfInBounds_toArray, List.set_cons_zero, List.set_cons_succ]
          refine wpAnyH_done (by kernel_rfl) (NoPanic.normal ?_) _
          have HF := hide (own_rd (unhide HD8).own)
          have HGF := hide (unhide HNEW _ (unhide HD8).grown)
          clear HD8 hu
          go_wp2
          go_ret2
          exact ⟨_, _, _, _, rfl, unhide HXL, unhide HF, unhide HGF⟩
    · have hne1 : (x == 1) = false := by simp [h1]
      have HDX := HD3
      have HXL : Hid (Y.length ≤ 4097) := by unfold Hid; omega
      have hqx : q3 ≤ 200 := by omega
      clear HD3
      go_wp2
      have HDd := hide ((unhide HDX).new (grown_drew (World.grownBy.refl _ _)))
      refine wp_region_noPanic ?_
      refine wp_region_raw (fun _ => True) [true, false, true, false, false, false, false, false] (by kernel_rfl) (fun _ _ _ _ _ h => h) rfl (by kernel_rfl) trivial ?_
      refine heldF_take (v := ?_) (Or.inl ⟨by rfl, ?_⟩) ?_
      rotate_left 1
      · intro w' hSw
        go_simp
        try with_reducible rfl
      try simp only [Act.put, List.setIfInBounds_toArray, List.set_cons_zero, List.set_cons_succ]
      refine heldF_skip ?_
      refine heldF_take (v := ?_) (Or.inl ⟨by rfl, ?_⟩) ?_
      rotate_left 1
      · intro w' hSw
        go_simp
        try with_reducible rfl
      try simp only [Act.put, List.setIfInBounds_toArray, List.set_cons_zero, List.set_cons_succ]
      iterate 5 refine heldF_skip ?_
      refine heldF_nil ?_
      refine anyH_step2 (i := 1) (j := 3) rfl rfl (by kernel_rfl) (fun K hK => ?_) (fun K hK => ?_)
      · go_simp
        refine hK.out _ _ trivial ?_
        clear hK K
        try simp only [Act.put, List.setIfInBounds_toArray, List.set_cons_zero, List.set_cons_succ]
        refine anyH_step1 (i := 3) rfl (by kernel_rfl) (fun K hK => ?_)
        go_simp
        refine (pick_of tb ao n cap q3 4 zs _ ((unhide HDd).new (World.grownBy_alloc _ _ _)).cur (by omega) (by omega) (by omega)).mono ?_
        rintro e w8 ⟨y8, q8, rfl, hy80, hy81, c8, hq8, g8⟩
        obtain ⟨i8, rfl⟩ := Int.eq_ofNat_of_zero_le hy80
        have hs8 : tb < (w3.drew).heap.size := (unhide HDd).cur.lt
        have hu : w8.cell? ⟨w3.heap.size, i8, none⟩ = some (.int .i64 (four10 0 40 380 381 i8)) := g8.cell (four10_at 3 (W := w3.drew) (i := i8) (by omega) _ _ _ _) (by simp at hs8 ⊢; omega)
        generalize four10 _ _ _ _ i8 = u at hu
        have HD8 := hide (((unhide HDd).new (World.grownBy_alloc _ _ _)).pick hlt c8 g8)
        have hiI : (i8 : Int) < 4 := by omega
        clear c8 g8
        go_simp
        refine hK.out _ _ trivial ?_
        clear hK K
        try simp only [Act.put, List.setIfInBounds_toArray, List.set_cons_zero, List.set_cons_succ]
        refine anyH_step2 (i := 4) (j := 6) rfl rfl (by kernel_rfl) (fun K hK => ?_) (fun K hK => ?_)
        · go_simp
          refine hK.out _ _ trivial ?_
          clear hK K
          try simp only [Act.put, List.setIfInBounds_toArray, List.set_cons_zero, List.set_cons_succ]
          refine anyH_step2 (i := 5) (j := 6) rfl rfl (by kernel_rfl) (fun K hK => ?_) (fun K hK => ?_)
          · go_simp
            refine hK.out _ _ trivial ?_
            clear hK K
            try simp only [Act.put, List.setIfInBounds_toArray, List.set_cons_zero, List.set_cons_succ]
            refine anyH_step1 (i := 6) rfl (by kernel_rfl) (fun K hK => ?_)
            go_simp
            refine hK.out _ _ trivial ?_
            clear hK K
            try simp only [Act.put, List.setIfInBounds_toArray, List.set_cons_zero, List.set_cons_succ]
            refine anyH_step1 (i := 7) rfl (by kernel_rfl) (fun K hK => ?_)
            go_simp
            refine hK.out _ _ trivial ?_
            clear hK K
            try simp only [Act.put, List.setIfInBounds_toArray, List.set_cons_zero, List.set_cons_succ]
            refine wpAnyH_done (by kernel_rfl) (NoPanic.normal ?_) _
            have HF := hide (own_rd (unhide HD8).own)
            have HGF := hide (unhide HNEW _ (unhide HD8).grown)
            clear HD8 hu
            go_wp2
            go_ret2
            exact ⟨_, _, _, _, rfl, unhide HXL, unhide HF, unhide HGF⟩
          · go_simp
            refine hK.out _ _ trivial ?_
            clear hK K
            try simp only [Act.put, List.setIfInBounds_toArray, List.set_cons_zero, List.set_cons_succ]
            refine anyH_step1 (i := 5) rfl (by kernel_rfl) (fun K hK => ?_)
            go_simp
            refine hK.out _ _ trivial ?_
            clear hK K
            try simp only [Act.put, List.setIfInBounds_toArray, List.set_cons_zero, List.set_cons_succ]
            refine anyH_step1 (i := 7) rfl (by kernel_rfl) (fun K hK => ?_)
            go_simp
            refine hK.out _ _ trivial ?_
            clear hK K
            try simp only [Act.put, List.setIfInBounds_toArray, List.set_cons_zero, List.set_cons_succ]
            refine wpAnyH_done (by kernel_rfl) (NoPanic.normal ?_) _
            have HF := hide (own_rd (unhide HD8).own)
            have HGF := hide (unhide HNEW _ (unhide HD8).grown)
            clear HD8 hu
            go_wp2
            go_ret2
            exact ⟨_, _, _, _, rfl, unhide HXL, unhide HF, unhide HGF⟩
        · go_simp
          refine hK.out _ _ trivial ?_
          clear hK K
          try simp only [Act.put, List.setIfInBounds_toArray, List.set_cons_zero, List.set_cons_succ]
          refine anyH_step1 (i := 4) rfl (by kernel_rfl) (fun K hK => ?_)
          go_simp
          refine hK.out _ _ trivial ?_
          clear hK K
          try simp only [Act.put, List.setIfInBounds_toArray, List.set_cons_zero, List.set_cons_succ]
          refine anyH_step1 (i := 5) rfl (by kernel_rfl) (fun K hK => ?_)
          go_simp
          refine hK.out _ _ trivial ?_
          clear hK K
          try simp only [Act.put, List.setIfInBounds_toArray, List.set_cons_zero, List.set_cons_succ]
          refine anyH_step1 (i := 7) rfl (by kernel_rfl) (fun K hK => ?_)
          go_simp
          refine hK.out _ _ trivial ?_
          clear hK K
          try simp only [Act.put, List.setIfInBounds_toArray, List.set_cons_zero, List.set_cons_succ]
          refine wpAnyH_done (by kernel_rfl) (NoPanic.normal ?_) _
          have HF := hide (own_rd (unhide HD8).own)
          have HGF := hide (unhide HNEW _ (unhide HD8).grown)
          clear HD8 hu
          go_wp2
          go_ret2
          exact ⟨_, _, _, _, rfl, unhide HXL, unhide HF, unhide HGF⟩
      · go_simp
        refine (pick_of tb ao n cap q3 4 zs _ (unhide HDd).cur (by omega) (by omega) (by omega)).mono ?_
        rintro e w8 ⟨y8, q8, rfl, hy80, hy81, c8, hq8, g8⟩
        obtain ⟨i8, rfl⟩ := Int.eq_ofNat_of_zero_le hy80
        have HD7 := hide ((unhide HDd).pick hlt c8 g8)
        have hiI : (i8 : Int) < 4 := by omega
        clear c8 g8
        go_simp
        refine hK.out _ _ trivial ?_
        clear hK K
        try simp only [Act.put, List.setIfInBounds_toArray, List.set_cons_zero, List.set_cons_succ]
        refine anyH_step2 (i := 1) (j := 6) rfl rfl (by kernel_rfl) (fun K hK => ?_) (fun K hK => ?_)
        · have HD8 := hide ((unhide HD7).new (World.grownBy_alloc w8 (.cells #[.int .i64 0, .int .i64 40, .int .i64 380, .int .i64 381] 3) none))
          have hu := four10_at 3 (W := w8) (i := i8) (by omega) 0 40 380 381
          generalize four10 _ _ _ _ i8 = u at hu
          go_simp
          refine hK.out _ _ trivial ?_
          clear hK K
          try simp only [Act.put, List.setIfInBounds_toArray, List.set_cons_zero, List.set_cons_succ]
          refine anyH_step2 (i := 4) (j := 6) rfl rfl (by kernel_rfl) (fun K hK => ?_) (fun K hK => ?_)
          · go_simp
            refine hK.out _ _ trivial ?_
            clear hK K
            try simp only [Act.put, List.setIfInBounds_toArray, List.set_cons_zero, List.set_cons_succ]
            refine anyH_step2 (i := 5) (j := 6) rfl rfl (by kernel_rfl) (fun K hK => ?_) (fun K hK => ?_)
            · go_simp
              refine hK.out _ _ trivial ?_
              clear hK K
              try simp only [Act.put, List.setIfInBounds_toArray, List.set_cons_zero, List.set_cons_succ]
              refine anyH_step1 (i := 6) rfl (by kernel_rfl) (fun K hK => ?_)
              go_simp
              refine hK.out _ _ trivial ?_
              clear hK K
              try simp only [Act.put, List.setIfInBounds_toArray, List.set_cons_zero, List.set_cons_succ]
              refine anyH_step1 (i := 7) rfl (by kernel_rfl) (fun K hK => ?_)
              go_simp
              refine hK.out _ _ trivial ?_
              clear hK K
              try simp only [Act.put, List.setIfInBounds_toArray, List.set_cons_zero, List.set_cons_succ]
              refine wpAnyH_done (by kernel_rfl) (NoPanic.normal ?_) _
              have HF := hide (own_rd (unhide HD8).own)
              have HGF := hide (unhide HNEW _ (unhide HD8).grown)
              clear HD8 hu
              go_wp2
              go_ret2
              exact ⟨_, _, _, _, rfl, unhide HXL, unhide HF, unhide HGF⟩
            · go_simp
              refine hK.out _ _ trivial ?_
              clear hK K
              try simp only [Act.put, List.setIfInBounds_toArray, List.set_cons_zero, List.set_cons_succ]
              refine anyH_step1 (i := 5) rfl (by kernel_rfl) (fun K hK => ?_)
              go_simp
              refine hK.out _ _ trivial ?_
              clear hK K
              try simp only [Act.put, List.setIfInBounds_toArray, List.set_cons_zero, List.set_cons_succ]
              refine anyH_step1 (i := 7) rfl (by kernel_rfl) (fun K hK => ?_)
              go_simp
              refine hK.out _ _ trivial ?_
              clear hK K
              try simp only [Act.put, List.setIfInBounds_toArray, List.set_cons_zero, List.set_cons_succ]
              refine wpAnyH_done (by kernel_rfl) (NoPanic.normal ?_) _
              have HF := hide (own_rd (unhide HD8).own)
              have HGF := hide (unhide HNEW _ (unhide HD8).grown)
              clear HD8 hu
              go_wp2
              go_ret2
              exact ⟨_, _, _, _, rfl, unhide HXL, unhide HF, unhide HGF⟩
          · go_simp
            refine hK.out _ _ trivial ?_
            clear hK K
            try simp only [Act.put, List.setIfInBounds_toArray, List.set_cons_zero, List.set_cons_succ]
            refine anyH_step1 (i := 4) rfl (by kernel_rfl) (fun K hK => ?_)
            go_simp
            refine hK.out _ _ trivial ?_
            clear hK K
            try simp only [Act.put, List.setIfInBounds_toArray, List.set_cons_zero, List.set_cons_succ]
            refine anyH_step1 (i := 5) rfl (by kernel_rfl) (fun K hK => ?_)
            go_simp
            refine hK.out _ _ trivial ?_
            clear hK K
            try simp only [Act.put, List.setIfInBounds_toArray, List.set_cons_zero, List.set_cons_succ]
            refine anyH_step1 (i := 7) rfl (by kernel_rfl) (fun K hK => ?_)
            go_simp
            refine hK.out _ _ trivial ?_
            clear hK K
            try simp only [Act.put, List.setIfInBounds_toArray, List.set_cons_zero, List.set_cons_succ]
            refine wpAnyH_done (by kernel_rfl) (NoPanic.normal ?_) _
            have HF := hide (own_rd (unhide HD8).own)
            have HGF := hide (unhide HNEW _ (unhide HD8).grown)
            clear HD8 hu
            go_wp2
            go_ret2
            exact ⟨_, _, _, _, rfl, unhide HXL, unhide HF, unhide HGF⟩
        · go_simp
          refine hK.out _ _ trivial ?_
          clear hK K
          try simp only [Act.put, List.setIfInBounds_toArray, List.set_cons_zero, List.set_cons_succ]
          refine anyH_step1 (i := 1) rfl (by kernel_rfl) (fun K hK => ?_)
          have HD8 := hide ((unhide HD7).new (World.grownBy_alloc w8 (.cells #[.int .i64 0, .int .i64 40, .int .i64 380, .int .i64 381] 3) none))
          have hu := four10_at 3 (W := w8) (i := i8) (by omega) 0 40 380 381
          generalize four10 _ _ _ _ i8 = u at hu
          go_simp
          refine hK.out _ _ trivial ?_
          clear hK K
          try simp only [Act.put, List.setIfInBounds_toArray, List.set_cons_zero, List.set_cons_succ]
          refine anyH_step1 (i := 4) rfl (by kernel_rfl) (fun K hK => ?_)
          go_simp
          refine hK.out _ _ trivial ?_
          clear hK K
          try simp only [Act.put, List.setIfInBounds_toArray, List.set_cons_zero, List.set_cons_succ]
          refine anyH_step1 (i := 5) rfl (by kernel_rfl) (fun K hK => ?_)
          go_simp
          refine hK.out _ _ trivial ?_
          clear hK K
          try simp only [Act.put, List.setIfInBounds_toArray, List.set_cons_zero, List.set_cons_succ]
          refine anyH_step1 (i := 7) rfl (by kernel_rfl) (fun K hK => ?_)
          go_simp
          refine hK.out _ _ trivial ?_
          clear hK K
          try simp only [Act.put, List.setIfInBounds_toArray, List.set_cons_zero, List.set_cons_succ]
          refine wpAnyH_done (by kernel_rfl) (NoPanic.normal ?_) _
          have HF := hide (own_rd (unhide HD8).own)
          have HGF := hide (unhide HNEW _ (unhide HD8).grown)
          clear HD8 hu
          go_wp2
          go_ret2
          exact ⟨_, _, _, _, rfl, unhide HXL, unhide HF, unhide HGF⟩

end Go.Proofs.Ytekidfkahpaokaa
