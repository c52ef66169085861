/-
  Rows of numbers that are drawn from a code, and symbols that are.
-/
import Derived.Test.YtcbaiagkdphkeaaCurOnce
import Derived.Test.YtcbaiagkdphkeaaCurOdd
import Derived.Test.YtcbaiagkdphkeaaAppRdI
namespace Go.Proofs.Ytcbaiagkdphkeaa
open Go.RowKit

/-- A row that is being drawn: whose it is, where the drawer is, and what else has changed. -/
structure Dw (w : World) (tb : Nat) (ao : Option Addr) (n cap : Nat) (zs : List Int) (q : Nat) (W : World) (v : Value) (ys : List Int) : Prop where
  own : W.ownsRow w.heap.size 3 1 v ys.length (ys.map (Value.int .i64))
  cur : Cur W tb ao n cap zs q
  grown : w.grownBy W (some tb)

section
variable {w : World} {tb : Nat} {ao : Option Addr} {n cap : Nat} {zs : List Int} {q : Nat} {W : World} {v : Value} {ys : List Int}
theorem Dw.pick {W' : World} {q' : Nat} (h : Dw w tb ao n cap zs q W v ys) (ht : tb < w.heap.size) (hc : Cur W' tb ao n cap zs q') (hg : W.grownBy W' (some tb)) : Dw w tb ao n cap zs q' W' v ys :=
  ⟨own_beneath h.own hg (fun a b e1 e2 => by have := (h.own.lt a e1).1; simp at e2; omega), hc, grown_trans h.grown hg⟩
theorem Dw.new {W' : World} (h : Dw w tb ao n cap zs q W v ys) (hg : W.grownBy W' none) : Dw w tb ao n cap zs q W' v ys :=
  ⟨own_beneath h.own hg (fun a b _ e2 => by simp at e2), h.cur.grown hg, grown_trans h.grown (grown_any hg)⟩
theorem Dw.row {W' : World} {v' : Value} {ys' : List Int} (h : Dw w tb ao n cap zs q W v ys) (ht : tb < w.heap.size) (hcode : 0 < n → ∀ b off, ao = some ⟨b, off, none⟩ → b < w.heap.size) (hg : W.grownBy W' v.ownBlock) (ho : W'.ownsRow w.heap.size 3 1 v' ys'.length (ys'.map (Value.int .i64))) : Dw w tb ao n cap zs q W' v' ys' :=
  ⟨ho, h.cur.beside hg (fun g e => by have := (h.own.lt g e).1; exact ⟨by omega, fun h0 b off e2 => by have := hcode h0 b off e2; omega⟩),
   ⟨hg.os.trans h.grown.os, hg.tape.trans h.grown.tape, hg.output.trans h.grown.output, Nat.le_trans h.grown.size hg.size, fun k hk hr => (hg.block k (Nat.lt_of_lt_of_le hk h.grown.size) (by intro e; have := (h.own.lt k e.symm).1; omega)).trans (h.grown.block k hk hr)⟩⟩
end

/-- A row of none, behind what has been drawn. -/
theorem Dw.nil {w : World} {tb : Nat} {ao : Option Addr} {n cap : Nat} {zs : List Int} {q : Nat} {W : World} (hc : Cur W tb ao n cap zs q) (hg : w.grownBy W (some tb)) : Dw w tb ao n cap zs q (W.alloc (.cells #[] 3)) (.slice (some ⟨W.heap.size, 0, none⟩) 0 0) [] :=
  ⟨own_base (World.ownsRow_lit W #[] 0 (Nat.le_refl _) (by unfold maxLen; omega) rfl) hg.size, hc.grown (World.grownBy_alloc _ _ _), grown_trans hg (World.grownBy_alloc _ _ _)⟩

theorem append_dw {w : World} {ops : Array Oper} {rest : List Oper} {o : Oper} {a : Act} {Q : Exit → Act → World → Prop} (hgd : o.guard = none) (s x : Operand)
    (ho : o.op = .call { callee := .builtin .append, args := #[s, x], argTypes := #[24, 24] })
    (B : World) (tb : Nat) (ao : Option Addr) (n cap : Nat) (zs : List Int) (q : Nat) (v : Value) (X : List Int) (hs : a.eval s = v) (hd : Dw B tb ao n cap zs q w v X) (p : Int) (hx : a.eval x = .slice (some ⟨w.heap.size, 0, none⟩) 1 1)
    (hb : X.length ≤ 1000000) (ht : tb < B.heap.size) (hcode : 0 < n → ∀ b off, ao = some ⟨b, off, none⟩ → b < B.heap.size) (R : List Int) (hR : X ++ [p] = R)
    (h : ∀ v' w', Dw B tb ao n cap zs q w' v' R → wpList Try.prog ops Q rest (a.put o.dst v') w') :
    wpList Try.prog ops Q (o :: rest) a (w.alloc (.cells #[.int .i64 p] 3)) := by
  subst hR
  obtain ⟨i0, hi, hz0, hz1, hz2⟩ := info_parts info_i9
  have hd2 := hd.new (World.grownBy_alloc w (.cells #[.int .i64 p] 3) none)
  refine wpList_append_own _ hgd s x 24 ho B.heap.size 3 i0 _ 1 8 Try.underlying24 hi hz0 hz1 hz2 rfl (by decide) v X.length _ hs hd2.own ⟨w.heap.size, 0, none⟩ 1 1 [.int .i64 p] hx rfl (World.news_of_block (cs := #[.int .i64 p]) (t := 3) (fr := (0, 0)) (heap_alloc_new w _)) (by intro u hu; simp at hu; subst hu; rfl) (by unfold maxLen; omega) (by omega) (by have := hd.grown.size; simp; omega) ?_
  intro v' w' h1 h2 _
  refine h v' w' (hd2.row ht hcode h2 ?_)
  rw [List.map_append, List.length_append]
  exact h1

set_option maxRecDepth 20000 in
set_option maxHeartbeats 1600000 in
theorem drawSymbols (tb : Nat) (ao : Option Addr) (n cap p : Nat) (zs : List Int) (lo : Option Addr) (m lc : Nat) (xs : List Int) (w : World) (h : Cur w tb ao n cap zs p) (hp : p ≤ 1000000) (hcode : 0 < n → ∀ b off, ao = some ⟨b, off, none⟩ → b < w.heap.size)
    (hl : Rd .i64 w lo m xs) (hln : 0 < m → ∀ b off, lo = some ⟨b, off, none⟩ → b ≠ tb) (hm : m ≤ 1000) :
    Calls Try.prog 47 #[.pointer (some ⟨tb, 0, none⟩), .slice lo m lc] w fun e w' => ∃ (v : Value) (ys : List Int) (q : Nat), e = .returned v ∧ ys.length ≤ 30 ∧ q ≤ p + 62 ∧ Dw w tb ao n cap zs q w' v ys := by
  have hlt := h.lt
  have HAL := hide hcode
  have HL := hide hl
  have HN := hide hln
  have HC := hide (h.grown (World.grownBy_alloc w (.cells #[] 3) none))
  have HD0 := hide (Dw.nil (w := w) h (World.grownBy.refl _ _))
  clear h hcode hl hln
  go_enter Try.func47, Try.ntmps47
  go_wp2_with fail
  refine (size_of tb ao n cap p 30 zs _ (unhide HC) (by omega) (by omega) (by omega)).mono ?_
  rintro e w1 ⟨x, q1, rfl, hx0, hx1, c1, hq1, g1⟩
  obtain ⟨M, rfl⟩ := Int.eq_ofNat_of_zero_le hx0
  have HD1 := hide ((unhide HD0).pick hlt c1 g1)
  clear c1 g1 HD0 HC hx0
  go_wp2
  go_loopw [5, 6] (fun v i wr => ∃ (j q : Nat) (Y : List Int), i = .int .i64 j ∧ Y.length + j ≤ 30 ∧ q + 2 * j ≤ p + 62 ∧ Hid (Dw w tb ao n cap zs q wr v Y)) (fun _ i _ => (intOf i).toNat)
  case atStart => exact ⟨M, q1, [], rfl, by simp; omega, by omega, HD1⟩
  case round =>
    clear HD1
    obtain ⟨j, q, Y, rfl, hj, hq, hD⟩ := hrel
    obtain ⟨so, sc, rfl⟩ := own_form (unhide hD).own
    have hYl : Y.length ≤ 30 := by omega
    by_cases hj0 : 0 < j
    · have hd : decide ((0 : Int) < (j : Int)) = true := by simp; omega
      have e2 := i64_in ((j : Int) - 1) (by omega)
      by_cases hm0 : 0 < m
      · have hd2 : decide ((0 : Int) < (m : Int)) = true := by simp; omega
        go_wp2_with fail
        refine (pick_any tb ao n cap q m zs wr (unhide hD).cur (by omega) (by omega) (by omega)).mono ?_
        rintro e w2 ⟨y, q2, rfl, hy0, hy1, c2, hq2, g2⟩
        obtain ⟨s, rfl⟩ := Int.eq_ofNat_of_zero_le hy0
        have HD2 := hide ((unhide hD).pick hlt c2 g2)
        have hlr := ((unhide HL).beside (unhide HD2).grown (unhide HN)).2 s (by omega)
        obtain ⟨lb, lf, rfl, hcl⟩ := hlr
        generalize xs.getD s 0 = u at hcl
        clear c2 g2 hD hy0
        by_cases hu : 0 < u
        · have hdu : decide (0 < u) = true := decide_eq_true hu
          obtain ⟨R, HR⟩ : ∃ R, Hid (Y ++ [(s : Int)] = R) := ⟨_, rfl⟩
          have HRL : Hid (R.length = Y.length + 1) := by unfold Hid; rw [← unhide HR, List.length_append]; rfl
          go_wp2_with (at_builtin; refine append_dw rfl _ _ rfl w tb ao n cap zs q2 (.slice so Y.length sc) Y rfl (unhide HD2) (s : Int) rfl (by omega) hlt (unhide HAL) R (unhide HR) ?_)
          intro v3 w3 d3
          obtain ⟨so3, sc3, rfl⟩ := own_form d3.own
          have HD3 := hide d3
          clear d3 HD2 hcl
          go_wp2
          go_roundw
          case rel => exact ⟨j - 1, q2, R, by go_num, by have := unhide HRL; omega, by omega, HD3⟩
          case measure => simp [intOf]; omega
        · have hdu : decide (0 < u) = false := decide_eq_false hu
          go_wp2
          go_roundw
          case rel => exact ⟨j - 1, q2, Y, by go_num, by omega, by omega, HD2⟩
          case measure => simp [intOf]; omega
      · have hd2 : decide ((0 : Int) < (m : Int)) = false := by simp; omega
        go_wp2
        go_ret
        exact ⟨_, Y, q, rfl, hYl, by omega, unhide hD⟩
    · have hd : decide ((0 : Int) < (j : Int)) = false := by simp; omega
      go_wp2
      go_ret
      exact ⟨_, Y, q, rfl, hYl, by omega, unhide hD⟩

end Go.Proofs.Ytcbaiagkdphkeaa
