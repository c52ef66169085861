/-
  Freqs that are drawn.
-/
import Derived.Test.YtcbaiagkdphkeaaCodeDraw
import Derived.Test.YtcbaiagkdphkeaaHeldTail
import Derived.Deep.RegionHeld3
import Derived.Deep.AppendLies
namespace Go.Proofs.Ytcbaiagkdphkeaa
open Go.RowKit

/-- One of five numbers. -/
def fiveG (a b c d e : Int) (i : Nat) : Int := [a, b, c, d, e].getD i 0
theorem five_at (t : TypeId) {W : World} {i : Nat} (hi : i < 5) (a b c d e : Int) : (W.alloc (.cells #[.int .i64 a, .int .i64 b, .int .i64 c, .int .i64 d, .int .i64 e] t)).cell? ⟨W.heap.size, i, none⟩ = some (.int .i64 (fiveG a b c d e i)) := by
  rw [cell_of_row _ _ i _ _ (0, 0) (heap_alloc_new W _)]
  rcases i with _ | _ | _ | _ | _ | i <;> first | rfl | omega

/-- One of four numbers. -/
def fourG (a b c d : Int) (i : Nat) : Int := [a, b, c, d].getD i 0
theorem four_at (t : TypeId) {W : World} {i : Nat} (hi : i < 4) (a b c d : Int) : (W.alloc (.cells #[.int .i64 a, .int .i64 b, .int .i64 c, .int .i64 d] t)).cell? ⟨W.heap.size, i, none⟩ = some (.int .i64 (fourG a b c d i)) := by
  rw [cell_of_row _ _ i _ _ (0, 0) (heap_alloc_new W _)]
  rcases i with _ | _ | _ | _ | i <;> first | rfl | omega

section
variable {w : World} {tb : Nat} {ao : Option Addr} {n cap : Nat} {zs : List Int} {q : Nat} {W : World} {ys : List Int} {g c k : Nat}
theorem Dw.at' {m : Nat} (h : Dw w tb ao n cap zs q W (.slice (some ⟨g, 0, none⟩) m c) ys) (hm : ys.length = m) (hk : k < m) : (∃ v, W.cell? ⟨g, k, none⟩ = some v) ∧ W.frozen? ⟨g, k, none⟩ = false := by
  have h1 := h.own
  rw [hm] at h1
  exact ⟨by rw [h1.cellAt k (by omega)]; exact ⟨_, List.getElem?_eq_getElem (by rw [h1.1]; omega)⟩, h1.frozenAt k⟩
theorem Dw.put {m : Nat} (h : Dw w tb ao n cap zs q W (.slice (some ⟨g, 0, none⟩) m c) ys) (ht : tb < w.heap.size) (hcode : 0 < n → ∀ b off, ao = some ⟨b, off, none⟩ → b < w.heap.size) (hm : ys.length = m) (k : Nat) (u : Int) : Dw w tb ao n cap zs q (W.setCell ⟨g, k, none⟩ (.int .i64 u)) (.slice (some ⟨g, 0, none⟩) m c) (ys.set k u) := by
  have h1 := h.own
  rw [hm] at h1
  have st := h1.stored k (.int .i64 u)
  refine h.row ht hcode st.2 ?_
  rw [List.length_set, List.map_set, hm]
  exact st.1
end

def lenD : Value → Nat
  | .slice _ n _ => n
  | _ => 0

theorem Dw.len {B : World} {tb : Nat} {ao : Option Addr} {n cap : Nat} {zs : List Int} {q : Nat} {W : World} {g : Option Addr} {k c : Nat} {X : List Int} {p : Int} (_ : Dw B tb ao n cap zs q W (.slice g k c) (X ++ [p])) : (X ++ [p]).length = X.length + 1 := by simp

theorem step_append_dw {w : World} {ops : Array Oper} {o : Oper} {a : Act} {K : Act → World → Prop} {Q : Exit → Act → World → Prop} {E : Prop} (hgd : o.guard = none) (s x : Operand)
    (ho : o.op = .call { callee := .builtin .append, args := #[s, x], argTypes := #[24, 24] })
    (B : World) (tb : Nat) (ao : Option Addr) (n cap : Nat) (zs : List Int) (q : Nat) (v : Value) (X : List Int) (hs : a.eval s = v) (hd : Dw B tb ao n cap zs q w v X) (p : Int) (H : Nat) (hx : a.eval x = .slice (some ⟨H, 0, none⟩) 1 1) (hH : w.heap.size = H)
    (hb : X.length ≤ 1000000) (ht : tb < B.heap.size) (hcode : 0 < n → ∀ b off, ao = some ⟨b, off, none⟩ → b < B.heap.size)
    (h : ∀ g c w', Dw B tb ao n cap zs q w' (.slice (some ⟨g, 0, none⟩) (X.length + 1) c) (X ++ [p]) → K (a.put o.dst (.slice (some ⟨g, 0, none⟩) (X.length + 1) c)) w') :
    if Region.wanted o (yielded ops a.tmps) = true then Oper.wp Try.prog o a (w.alloc (.cells #[.int .i64 p] 3)) K Q else E := by
  subst hH
  obtain ⟨i0, hi, hz0, hz1, hz2⟩ := info_parts info_i9
  have hd2 := hd.new (World.grownBy_alloc w (.cells #[.int .i64 p] 3) none)
  refine step_append_lies _ hgd s x 24 ho B.heap.size 3 i0 _ 1 8 Try.underlying24 hi hz0 hz1 hz2 rfl (by decide) v X.length _ hs hd2.own ⟨w.heap.size, 0, none⟩ 1 1 [.int .i64 p] hx rfl (World.news_of_block (cs := #[.int .i64 p]) (t := 3) (fr := (0, 0)) (heap_alloc_new w _)) (by intro u hu; simp at hu; subst hu; rfl) (by omega) (by unfold maxLen; omega) (by omega) (by have := hd.grown.size; simp; omega) _ rfl ?_
  intro g c w' h1 h2 _ _
  refine h g c w' (hd2.row ht hcode h2 ?_)
  rw [List.map_append, List.length_append]
  exact h1

set_option maxRecDepth 20000 in
set_option maxHeartbeats 1600000 in
theorem drawFreqs (tb : Nat) (ao : Option Addr) (n cap p : Nat) (zs : List Int) (w : World) (h : Cur w tb ao n cap zs p) (hp : p ≤ 1000000) (hcode : 0 < n → ∀ b off, ao = some ⟨b, off, none⟩ → b < w.heap.size) :
    Calls Try.prog 40 #[.pointer (some ⟨tb, 0, none⟩)] w fun e w' => ∃ (v : Value) (ys : List Int) (q : Nat), e = .returned v ∧ 1 ≤ ys.length ∧ ys.length ≤ 257 ∧ q ≤ p + 2000 ∧ Dw w tb ao n cap zs q w' v ys := by
  have hlt := h.lt
  have HAL := hide hcode
  have HC := hide (h.grown (World.grownBy_alloc w (.cells #[] 3) none))
  have HD0 := hide (Dw.nil (w := w) h (World.grownBy.refl _ _))
  clear h hcode
  go_enter Try.func40, Try.ntmps40
  go_wp2_with fail
  refine (size_of tb ao n cap p 20 zs _ (unhide HC) (by omega) (by omega) (by omega)).mono ?_
  rintro e w1 ⟨x, q1, rfl, hx0, hx1, c1, hq1, g1⟩
  obtain ⟨M, rfl⟩ := Int.eq_ofNat_of_zero_le hx0
  have HD1 := hide ((unhide HD0).pick hlt c1 g1)
  have e0 := i64_in (1 + (M : Int)) (by omega)
  clear c1 g1 HD0 HC hx0
  go_wp2
  go_loopw [3, 4] (fun v i wr => ∃ (j q : Nat) (Y : List Int), i = .int .i64 j ∧ Y.length + j ≤ 21 ∧ 1 ≤ Y.length + j ∧ q + 8 * j ≤ p + 180 ∧ Hid (Dw w tb ao n cap zs q wr v Y)) (fun _ i _ => (intOf i).toNat)
  case atStart => exact ⟨M + 1, q1, [], by go_num, by simp; omega, by simp, by omega, HD1⟩
  case round =>
    clear HD1
    obtain ⟨j, q, Y, rfl, hj, hjp, hq, hD⟩ := hrel
    obtain ⟨so, sc, rfl⟩ := own_form (unhide hD).own
    have hYl : Y.length ≤ 21 := by omega
    by_cases hj0 : 0 < j
    · have hd : decide ((0 : Int) < (j : Int)) = true := by simp; omega
      have e2 := i64_in ((j : Int) - 1) (by omega)
      have HDd := hide ((unhide hD).new (grown_drew (World.grownBy.refl _ _)))
      go_wp2
      refine wp_region_noPanic ?_
      refine wp_region_raw (fun _ => True) [true, true, false, true, false, true, false, false, false, true, false, false, false, false, false, false] (by kernel_rfl) (fun _ _ _ _ _ h => h) rfl (by kernel_rfl) trivial ?_
      refine heldF_take (v := ?_) (Or.inl ⟨by rfl, ?_⟩) ?_
      rotate_left 1
      · intro w' hSw
        go_simp
        try with_reducible rfl
      try simp only [Act.put, List.setIfInBounds_toArray, List.set_cons_zero, List.set_cons_succ]
      refine heldF_take (v := ?_) (Or.inl ⟨by rfl, ?_⟩) ?_
      rotate_left 1
      · intro w' hSw
        go_simp
        try with_reducible rfl
      try simp only [Act.put, List.setIfInBounds_toArray, List.set_cons_zero, List.set_cons_succ]
      refine heldF_skip ?_
      refine heldF_take (v := ?_) (Or.inl ⟨by rfl, ?_⟩) ?_
      rotate_left 1
      · intro w' hSw
        go_simp
        try with_reducible rfl
      try simp only [Act.put, List.setIfInBounds_toArray, List.set_cons_zero, List.set_cons_succ]
      refine heldF_skip ?_
      refine heldF_take (v := ?_) (Or.inl ⟨by rfl, ?_⟩) ?_
      rotate_left 1
      · intro w' hSw
        go_simp
        try with_reducible rfl
      try simp only [Act.put, List.setIfInBounds_toArray, List.set_cons_zero, List.set_cons_succ]
      refine heldF_skip ?_
      refine heldF_skip ?_
      refine heldF_skip ?_
      refine heldF_take (v := ?_) (Or.inl ⟨by rfl, ?_⟩) ?_
      rotate_left 1
      · intro w' hSw
        go_simp
        try with_reducible rfl
      try simp only [Act.put, List.setIfInBounds_toArray, List.set_cons_zero, List.set_cons_succ]
      refine heldF_skip ?_
      refine heldF_skip ?_
      refine heldF_skip ?_
      refine heldF_skip ?_
      refine heldF_skip ?_
      refine heldF_skip ?_
      refine heldF_nil ?_
      refine anyH_step1 (i := 2) rfl (by kernel_rfl) (fun K hK => ?_)
      go_simp
      refine (pick_of tb ao n cap q 9 zs _ (unhide HDd).cur (by omega) (by omega) (by omega)).mono ?_
      rintro e w2 ⟨y2, q2, rfl, hy20, hy21, cq2, hq2, gq2⟩
      have HD2 := hide ((unhide HDd).pick hlt cq2 gq2)
      clear cq2 gq2
      go_simp
      refine hK.out _ _ trivial ?_
      clear hK K
      try simp only [Act.put, List.setIfInBounds_toArray, List.set_cons_zero, List.set_cons_succ]
      refine anyH_step1 (i := 4) rfl (by kernel_rfl) (fun K hK => ?_)
      go_simp
      refine (pick_of tb ao n cap q2 300 zs _ (unhide HD2).cur (by omega) (by omega) (by omega)).mono ?_
      rintro e w3 ⟨y3, q3, rfl, hy30, hy31, cq3, hq3, gq3⟩
      have HD3 := hide ((unhide HD2).pick hlt cq3 gq3)
      clear cq3 gq3
      go_simp
      refine hK.out _ _ trivial ?_
      clear hK K
      try simp only [Act.put, List.setIfInBounds_toArray, List.set_cons_zero, List.set_cons_succ]
      refine anyH_step1 (i := 6) rfl (by kernel_rfl) (fun K hK => ?_)
      go_simp
      refine (pick_of tb ao n cap q3 19 zs _ (unhide HD3).cur (by omega) (by omega) (by omega)).mono ?_
      rintro e w4 ⟨y4, q4, rfl, hy40, hy41, cq4, hq4, gq4⟩
      have HD4 := hide ((unhide HD3).pick hlt cq4 gq4)
      clear cq4 gq4
      go_simp
      refine hK.out _ _ trivial ?_
      clear hK K
      try simp only [Act.put, List.setIfInBounds_toArray, List.set_cons_zero, List.set_cons_succ]
      refine anyH_step2 (i := 7) (j := 10) rfl rfl (by kernel_rfl) (fun K hK => ?_) (fun K hK => ?_)
      · go_simp
        refine hK.out _ _ trivial ?_
        clear hK K
        try simp only [Act.put, List.setIfInBounds_toArray, List.set_cons_zero, List.set_cons_succ]
        refine anyH_step2 (i := 8) (j := 10) rfl rfl (by kernel_rfl) (fun K hK => ?_) (fun K hK => ?_)
        · go_simp
          refine hK.out _ _ trivial ?_
          clear hK K
          try simp only [Act.put, List.setIfInBounds_toArray, List.set_cons_zero, List.set_cons_succ]
          refine anyH_step1 (i := 10) rfl (by kernel_rfl) (fun K hK => ?_)
          go_simp
          refine (pick_of tb ao n cap q4 5 zs _ ((unhide HD4).new (World.grownBy_alloc _ _ _)).cur (by omega) (by omega) (by omega)).mono ?_
          rintro e w5 ⟨y5, q5, rfl, hy50, hy51, cq5, hq5, gq5⟩
          obtain ⟨i5, rfl⟩ := Int.eq_ofNat_of_zero_le hy50
          have hc5 := gq5.cell (five_at 3 (W := w4) (i := i5) (by omega) _ _ _ _ _) (by have := (unhide HD4).grown.size; simp; omega)
          have HD5 := hide (((unhide HD4).new (World.grownBy_alloc _ _ _)).pick hlt cq5 gq5)
          clear cq5 gq5
          go_simp
          refine hK.out _ _ trivial ?_
          clear hK K
          try simp only [Act.put, List.setIfInBounds_toArray, List.set_cons_zero, List.set_cons_succ]
          refine anyH_step1 (i := 11) rfl (by kernel_rfl) (fun K hK => ?_)
          go_simp
          refine hK.out _ _ trivial ?_
          clear hK K
          try simp only [Act.put, List.setIfInBounds_toArray, List.set_cons_zero, List.set_cons_succ]
          refine anyH_step1 (i := 12) rfl (by kernel_rfl) (fun K hK => ?_)
          go_simp
          refine hK.out _ _ trivial ?_
          clear hK K
          try simp only [Act.put, List.setIfInBounds_toArray, List.set_cons_zero, List.set_cons_succ]
          refine anyH_step1 (i := 13) rfl (by kernel_rfl) (fun K hK => ?_)
          go_simp
          refine hK.out _ _ trivial ?_
          clear hK K
          try simp only [Act.put, List.setIfInBounds_toArray, List.set_cons_zero, List.set_cons_succ]
          refine anyH_step1 (i := 14) rfl (by kernel_rfl) (fun K hK => ?_)
          refine step_append_dw (by rfl) _ _ (by rfl) w tb ao n cap zs q5 (.slice so Y.length sc) Y (by rfl) (unhide HD5) _ _ (by rfl) (by simp) (by omega) hlt (unhide HAL) ?_
          intro g7 c7 w7 d7
          refine hK.out _ _ trivial ?_
          clear hK K
          try simp only [Act.put, List.setIfInBounds_toArray, List.set_cons_zero, List.set_cons_succ]
          refine anyH_step1 (i := 15) rfl (by kernel_rfl) (fun K hK => ?_)
          go_simp
          refine hK.out _ _ trivial ?_
          clear hK K
          try simp only [Act.put, List.setIfInBounds_toArray, List.set_cons_zero, List.set_cons_succ]
          refine wpAnyH_done (by kernel_rfl) (NoPanic.normal ?_) _
          have HL7 := hide (Dw.len d7)
          have HD7 := hide d7
          clear d7 hc5 HD5 HD4 HD3 HD2 HDd hD
          go_wp2
          go_roundw
          case rel => exact ⟨j - 1, q5, _, by go_num, by have := unhide HL7; omega, by have := unhide HL7; omega, by omega, HD7⟩
          case measure => simp [intOf]; omega
        · go_simp
          refine (pick_of tb ao n cap q4 5 zs _ (unhide HD4).cur (by omega) (by omega) (by omega)).mono ?_
          rintro e w5 ⟨y5, q5, rfl, hy50, hy51, cq5, hq5, gq5⟩
          obtain ⟨i5, rfl⟩ := Int.eq_ofNat_of_zero_le hy50
          have HD5 := hide ((unhide HD4).pick hlt cq5 gq5)
          have hc5 := five_at 3 (W := w5) (i := i5) (by omega)
          clear cq5 gq5
          go_simp
          refine hK.out _ _ trivial ?_
          clear hK K
          try simp only [Act.put, List.setIfInBounds_toArray, List.set_cons_zero, List.set_cons_succ]
          refine anyH_step1 (i := 8) rfl (by kernel_rfl) (fun K hK => ?_)
          go_simp
          refine hK.out _ _ trivial ?_
          clear hK K
          try simp only [Act.put, List.setIfInBounds_toArray, List.set_cons_zero, List.set_cons_succ]
          refine anyH_step1 (i := 11) rfl (by kernel_rfl) (fun K hK => ?_)
          go_simp
          refine hK.out _ _ trivial ?_
          clear hK K
          try simp only [Act.put, List.setIfInBounds_toArray, List.set_cons_zero, List.set_cons_succ]
          refine anyH_step1 (i := 12) rfl (by kernel_rfl) (fun K hK => ?_)
          go_simp
          refine hK.out _ _ trivial ?_
          clear hK K
          try simp only [Act.put, List.setIfInBounds_toArray, List.set_cons_zero, List.set_cons_succ]
          refine anyH_step1 (i := 13) rfl (by kernel_rfl) (fun K hK => ?_)
          go_simp
          refine hK.out _ _ trivial ?_
          clear hK K
          try simp only [Act.put, List.setIfInBounds_toArray, List.set_cons_zero, List.set_cons_succ]
          refine anyH_step1 (i := 14) rfl (by kernel_rfl) (fun K hK => ?_)
          refine step_append_dw (by rfl) _ _ (by rfl) w tb ao n cap zs q5 (.slice so Y.length sc) Y (by rfl) ((unhide HD5).new (World.grownBy_alloc _ _ _)) _ _ (by rfl) (by simp) (by omega) hlt (unhide HAL) ?_
          intro g7 c7 w7 d7
          refine hK.out _ _ trivial ?_
          clear hK K
          try simp only [Act.put, List.setIfInBounds_toArray, List.set_cons_zero, List.set_cons_succ]
          refine anyH_step1 (i := 15) rfl (by kernel_rfl) (fun K hK => ?_)
          go_simp
          refine hK.out _ _ trivial ?_
          clear hK K
          try simp only [Act.put, List.setIfInBounds_toArray, List.set_cons_zero, List.set_cons_succ]
          refine wpAnyH_done (by kernel_rfl) (NoPanic.normal ?_) _
          have HL7 := hide (Dw.len d7)
          have HD7 := hide d7
          clear d7 hc5 HD5 HD4 HD3 HD2 HDd hD
          go_wp2
          go_roundw
          case rel => exact ⟨j - 1, q5, _, by go_num, by have := unhide HL7; omega, by have := unhide HL7; omega, by omega, HD7⟩
          case measure => simp [intOf]; omega
      · go_simp
        refine (pick_of tb ao n cap q4 5 zs _ (unhide HD4).cur (by omega) (by omega) (by omega)).mono ?_
        rintro e w5 ⟨y5, q5, rfl, hy50, hy51, cq5, hq5, gq5⟩
        obtain ⟨i5, rfl⟩ := Int.eq_ofNat_of_zero_le hy50
        have HD5 := hide ((unhide HD4).pick hlt cq5 gq5)
        have hc5 := five_at 3 (W := w5) (i := i5) (by omega)
        clear cq5 gq5
        go_simp
        refine hK.out _ _ trivial ?_
        clear hK K
        try simp only [Act.put, List.setIfInBounds_toArray, List.set_cons_zero, List.set_cons_succ]
        refine anyH_step1 (i := 7) rfl (by kernel_rfl) (fun K hK => ?_)
        go_simp
        refine hK.out _ _ trivial ?_
        clear hK K
        try simp only [Act.put, List.setIfInBounds_toArray, List.set_cons_zero, List.set_cons_succ]
        refine anyH_step1 (i := 8) rfl (by kernel_rfl) (fun K hK => ?_)
        go_simp
        refine hK.out _ _ trivial ?_
        clear hK K
        try simp only [Act.put, List.setIfInBounds_toArray, List.set_cons_zero, List.set_cons_succ]
        refine anyH_step1 (i := 11) rfl (by kernel_rfl) (fun K hK => ?_)
        go_simp
        refine hK.out _ _ trivial ?_
        clear hK K
        try simp only [Act.put, List.setIfInBounds_toArray, List.set_cons_zero, List.set_cons_succ]
        refine anyH_step1 (i := 12) rfl (by kernel_rfl) (fun K hK => ?_)
        go_simp
        refine hK.out _ _ trivial ?_
        clear hK K
        try simp only [Act.put, List.setIfInBounds_toArray, List.set_cons_zero, List.set_cons_succ]
        refine anyH_step1 (i := 13) rfl (by kernel_rfl) (fun K hK => ?_)
        go_simp
        refine hK.out _ _ trivial ?_
        clear hK K
        try simp only [Act.put, List.setIfInBounds_toArray, List.set_cons_zero, List.set_cons_succ]
        refine anyH_step1 (i := 14) rfl (by kernel_rfl) (fun K hK => ?_)
        refine step_append_dw (by rfl) _ _ (by rfl) w tb ao n cap zs q5 (.slice so Y.length sc) Y (by rfl) ((unhide HD5).new (World.grownBy_alloc _ _ _)) _ _ (by rfl) (by simp) (by omega) hlt (unhide HAL) ?_
        intro g7 c7 w7 d7
        refine hK.out _ _ trivial ?_
        clear hK K
        try simp only [Act.put, List.setIfInBounds_toArray, List.set_cons_zero, List.set_cons_succ]
        refine anyH_step1 (i := 15) rfl (by kernel_rfl) (fun K hK => ?_)
        go_simp
        refine hK.out _ _ trivial ?_
        clear hK K
        try simp only [Act.put, List.setIfInBounds_toArray, List.set_cons_zero, List.set_cons_succ]
        refine wpAnyH_done (by kernel_rfl) (NoPanic.normal ?_) _
        have HL7 := hide (Dw.len d7)
        have HD7 := hide d7
        clear d7 hc5 HD5 HD4 HD3 HD2 HDd hD
        go_wp2
        go_roundw
        case rel => exact ⟨j - 1, q5, _, by go_num, by have := unhide HL7; omega, by have := unhide HL7; omega, by omega, HD7⟩
        case measure => simp [intOf]; omega
    · have hd : decide ((0 : Int) < (j : Int)) = false := by simp; omega
      have hY1 : 1 ≤ Y.length := by omega
      go_wp2_with fail
      refine (pick_of tb ao n cap q 14 zs wr (unhide hD).cur (by omega) (by omega) (by omega)).mono ?_
      rintro e w2 ⟨x, q2, rfl, hx0, hx1, c2, hq2, g2⟩
      have HD2 := hide ((unhide hD).pick hlt c2 g2)
      clear c2 g2 hD
      by_cases h0 : x = 0
      · subst h0
        obtain ⟨g, rfl, _, _⟩ := own_at (unhide HD2).own hY1
        go_wp2_with fail
        refine (pick_any tb ao n cap q2 Y.length zs w2 (unhide HD2).cur (by omega) (by omega) (by omega)).mono ?_
        rintro e w3 ⟨y, q3, rfl, hy0, hy1, c3, hq3, g3⟩
        obtain ⟨yn, rfl⟩ := Int.eq_ofNat_of_zero_le hy0
        have HD3 := hide ((unhide HD2).pick hlt c3 g3)
        clear c3 g3 HD2
        go_wp2_with fail
        refine (odd_of tb ao n cap q3 zs w3 (unhide HD3).cur (by omega)).mono ?_
        rintro e w4 ⟨o, q4, rfl, c4, hq4, g4⟩
        have HD4 := hide ((unhide HD3).pick hlt c4 g4)
        clear c4 g4 HD3
        go_wp2_with fail
        refine (pick_of tb ao n cap q4 4 zs _ ((unhide HD4).new (World.grownBy_alloc _ _ _)).cur (by omega) (by omega) (by omega)).mono ?_
        rintro e w5 ⟨z, q5, rfl, hz0, hz1, c5, hq5, g5⟩
        obtain ⟨zn, rfl⟩ := Int.eq_ofNat_of_zero_le hz0
        have hu := g5.cell (four_at 3 (W := w4) (i := zn) (by omega) _ _ _ _) (by have := (unhide HD4).grown.size; simp; omega)
        generalize fourG _ _ _ _ zn = u at hu
        have HD5 := hide (((unhide HD4).new (World.grownBy_alloc _ _ _)).pick hlt c5 g5)
        obtain ⟨⟨v, hv⟩, hfr⟩ := (unhide HD5).at' rfl (k := yn) (by omega)
        have HD6 := hide ((unhide HD5).put hlt (unhide HAL) rfl yn u)
        clear c5 g5 HD4 HD5
        go_wp2
        go_ret
        exact ⟨_, Y.set yn u, q5, rfl, by simp; omega, by simp; omega, by omega, unhide HD6⟩
      · have h00 : (x == 0) = false := beq_false_of_ne h0
        by_cases h1 : x = 1
        · subst h1
          obtain ⟨g, rfl, _, _⟩ := own_at (unhide HD2).own hY1
          obtain ⟨m, HM⟩ : ∃ m, Hid (Y.length = m) := ⟨_, rfl⟩
          have hm : m ≤ 21 := by rw [← unhide HM]; exact hYl
          have hm1 : 1 ≤ m := by rw [← unhide HM]; exact hY1
          rw [unhide HM]
          rw [unhide HM] at HD2
          go_wp2
          go_loopw [5] (fun i wr => ∃ (k : Nat) (Z : List Int), k ≤ m ∧ i = .int .i64 k ∧ Hid (Z.length = m) ∧ Hid (Dw w tb ao n cap zs q2 wr (.slice (some ⟨g, 0, none⟩) m sc) Z)) (fun i _ => m - (intOf i).toNat)
          case atStart => exact ⟨0, Y, Nat.zero_le _, rfl, HM, HD2⟩
          case round =>
            clear HD2
            obtain ⟨k, Z, hk, rfl, hZ, hD⟩ := hrel
            by_cases hkm : k < m
            · have e5 := i64_in ((k : Int) + 1) (by omega)
              have hkI : (k : Int) < (m : Int) := by omega
              obtain ⟨⟨v, hv⟩, hfr⟩ := (unhide hD).at' (unhide hZ) (k := k) hkm
              have HD3 := hide ((unhide hD).put hlt (unhide HAL) (unhide hZ) k 0)
              have HZ3 : Hid ((Z.set k 0).length = m) := by unfold Hid; rw [List.length_set]; exact unhide hZ
              clear hD
              go_wp2
              go_roundw
              case rel => exact ⟨k + 1, Z.set k 0, by omega, by go_num, HZ3, HD3⟩
              case measure => simp [intOf]; omega
            · obtain rfl : k = m := by omega
              go_wp2
              go_ret
              exact ⟨_, Z, q2, rfl, by have := unhide hZ; omega, by have := unhide hZ; omega, by omega, unhide hD⟩
        · have h11 : (x == 1) = false := beq_false_of_ne h1
          by_cases h2 : x = 2
          · subst h2
            have HD3 := hide (Dw.nil (unhide HD2).cur (unhide HD2).grown)
            go_wp2
            go_loopw [3, 6, 7, 8] (fun v a b i wr => ∃ (k : Nat) (A B : Int) (Z : List Int), k ≤ 28 ∧ a = .int .i64 A ∧ b = .int .i64 B ∧ i = .int .i64 k ∧ Hid (Z.length = k) ∧ Hid (Dw w tb ao n cap zs q2 wr v Z)) (fun _ _ _ i _ => 28 - (intOf i).toNat)
            case atStart => exact ⟨0, 1, 1, [], Nat.zero_le _, rfl, rfl, rfl, rfl, HD3⟩
            case round =>
              clear HD2 HD3
              obtain ⟨k, A, B, Z, hk, rfl, rfl, rfl, hZ, hD⟩ := hrel
              obtain ⟨zo, zc, rfl⟩ := own_form (unhide hD).own
              by_cases hk28 : k < 28
              · have hd3 : decide ((k : Int) < 28) = true := decide_eq_true (by omega)
                have e5 := i64_in ((k : Int) + 1) (by omega)
                obtain ⟨R, HR⟩ : ∃ R, Hid (Z ++ [A] = R) := ⟨_, rfl⟩
                have HRL : Hid (R.length = k + 1) := by unfold Hid; rw [← unhide HR, List.length_append, unhide hZ]; rfl
                have hZ2 : Z.length ≤ 28 := by rw [unhide hZ]; exact hk
                go_wp2_with (at_builtin; refine append_dw rfl _ _ rfl w tb ao n cap zs q2 (.slice zo Z.length zc) Z rfl (unhide hD) A rfl (by omega) hlt (unhide HAL) R (unhide HR) ?_)
                intro v3 w3 d3
                obtain ⟨so3, sc3, rfl⟩ := own_form d3.own
                have HD4 := hide d3
                clear d3 hD
                go_wp2
                go_roundw
                case rel => exact ⟨k + 1, B, _, R, by omega, rfl, rfl, by go_num, HRL, HD4⟩
                case measure => simp [intOf]; omega
              · have hd3 : decide ((k : Int) < 28) = false := decide_eq_false (by omega)
                go_wp2
                go_ret
                exact ⟨_, Z, q2, rfl, by have := unhide hZ; omega, by have := unhide hZ; omega, by omega, unhide hD⟩
          · have h22 : (x == 2) = false := beq_false_of_ne h2
            by_cases h3 : x = 3
            · subst h3
              go_wp2
              go_loopw [3] (fun v wr => ∃ (Z : List Int) (r : Nat), 1 ≤ Z.length ∧ Z.length ≤ 257 ∧ r ≤ p + 190 + 4 * Z.length ∧ Hid (Dw w tb ao n cap zs r wr v Z)) (fun v _ => 257 - lenD v)
              case atStart => exact ⟨Y, q2, hY1, by omega, by omega, HD2⟩
              case round =>
                clear HD2
                obtain ⟨Z, r, hZ1, hZ2, hr, hD⟩ := hrel
                obtain ⟨zo, zc, rfl⟩ := own_form (unhide hD).own
                go_wp2_with fail
                refine (pick_of tb ao n cap r 2 zs wr (unhide hD).cur (by omega) (by omega) (by omega)).mono ?_
                rintro e w3 ⟨y, q3, rfl, hy0, hy1, c3, hq3, g3⟩
                have HD3 := hide ((unhide hD).pick hlt c3 g3)
                have e5 := i64_in (256 + y) (by omega)
                clear c3 g3 hD
                by_cases hlen : (Z.length : Int) < 256 + y
                · have hd3 : decide ((Z.length : Int) < 256 + y) = true := decide_eq_true hlen
                  go_wp2_with fail
                  refine (pick_of tb ao n cap q3 3 zs w3 (unhide HD3).cur (by omega) (by omega) (by omega)).mono ?_
                  rintro e w4 ⟨y4, q4, rfl, hy40, hy41, c4, hq4, g4⟩
                  have HD4 := hide ((unhide HD3).pick hlt c4 g4)
                  clear c4 g4 HD3
                  obtain ⟨R, HR⟩ : ∃ R, Hid (Z ++ [y4] = R) := ⟨_, rfl⟩
                  have HRL : Hid (R.length = Z.length + 1) := by unfold Hid; rw [← unhide HR, List.length_append]; rfl
                  go_wp2_with (at_builtin; refine append_dw rfl _ _ rfl w tb ao n cap zs q4 (.slice zo Z.length zc) Z rfl (unhide HD4) y4 rfl (by omega) hlt (unhide HAL) R (unhide HR) ?_)
                  intro v5 w5 d5
                  obtain ⟨so5, sc5, rfl⟩ := own_form d5.own
                  have HD5 := hide d5
                  clear d5 HD4
                  go_wp2
                  go_roundw
                  case rel => exact ⟨R, q4, by have := unhide HRL; omega, by have := unhide HRL; omega, by have := unhide HRL; omega, HD5⟩
                  case measure => have h := unhide HRL; simp only [lenD]; omega
                · have hd3 : decide ((Z.length : Int) < 256 + y) = false := decide_eq_false hlen
                  go_wp2
                  go_ret
                  exact ⟨_, Z, q3, rfl, hZ1, hZ2, by omega, unhide HD3⟩
            · have h33 : (x == 3) = false := beq_false_of_ne h3
              go_wp2
              go_ret
              exact ⟨_, Y, q2, rfl, hY1, by omega, by omega, unhide HD2⟩

end Go.Proofs.Ytcbaiagkdphkeaa
