/-
  The bit coder of the program: what writing and reading have in common.
-/
import Derived.Test.YtekidfkahpaokaaCoderSpec
namespace Go.Proofs.Ytekidfkahpaokaa
open Go.RowKit

/-- The cells of a coder, and what lies behind them in the same block. -/
def coCells (r : Nat) (P : List Nat) (T : List Value) : Array Value := (Value.int .i64 (r : Int) :: (pCells P ++ T)).toArray
structure Co (w : World) (ob : Nat) (t : TypeId) (r : Nat) (P : List Nat) (T : List Value) : Prop where
  box : w.heap[ob]? = some (.cells (coCells r P T) t (0, 0))
  len : P.length = 400
theorem Co.lt {w : World} {ob : Nat} {t : TypeId} {r : Nat} {P : List Nat} {T : List Value} (h : Co w ob t r P T) : ob < w.heap.size := (Array.getElem?_eq_some_iff.1 h.box).1
theorem Co.c0 {w : World} {ob : Nat} {t : TypeId} {r : Nat} {P : List Nat} {T : List Value} (h : Co w ob t r P T) : w.cell? ⟨ob, 0, none⟩ = some (.int .i64 (r : Int)) := by
  rw [cell_of_row w ob 0 _ _ (0, 0) h.box]; rfl
theorem Co.cP {w : World} {ob : Nat} {t : TypeId} {r : Nat} {P : List Nat} {T : List Value} (h : Co w ob t r P T) (c : Nat) (hc : c < 400) : w.cell? ⟨ob, 1 + c, none⟩ = some (.int .i64 ((P.getD c 2048 : Nat) : Int)) := by
  rw [cell_of_row w ob (1 + c) _ _ (0, 0) h.box]
  have hl := h.len
  have e : 1 + c = c + 1 := by omega
  rw [e, coCells, List.getElem?_toArray, List.getElem?_cons_succ, List.getElem?_append_left (by rw [pCells_len]; omega)]
  exact pCells_at P c (by omega)
theorem Co.cT {w : World} {ob : Nat} {t : TypeId} {r : Nat} {P : List Nat} {T : List Value} (h : Co w ob t r P T) (j : Nat) : w.cell? ⟨ob, 401 + j, none⟩ = T[j]? := by
  rw [cell_of_row w ob (401 + j) _ _ (0, 0) h.box]
  have hl := h.len
  have e : 401 + j = (400 + j) + 1 := by omega
  rw [e, coCells, List.getElem?_toArray, List.getElem?_cons_succ, List.getElem?_append_right (by rw [pCells_len]; omega), pCells_len, hl]
  have e2 : 400 + j - 400 = j := by omega
  rw [e2]
theorem Co.fz {w : World} {ob : Nat} {t : TypeId} {r : Nat} {P : List Nat} {T : List Value} (h : Co w ob t r P T) (j : Nat) : w.frozen? ⟨ob, j, none⟩ = false := frozen_of_row w ob j _ _ h.box
theorem Co.set0 {w : World} {ob : Nat} {t : TypeId} {r : Nat} {P : List Nat} {T : List Value} (h : Co w ob t r P T) (x : Nat) : Co (w.setCell ⟨ob, 0, none⟩ (.int .i64 (x : Int))) ob t x P T :=
  ⟨by rw [heap_setCell_same w ob 0 _ _ _ h.box]; simp [coCells], h.len⟩
theorem Co.setP {w : World} {ob : Nat} {t : TypeId} {r : Nat} {P : List Nat} {T : List Value} (h : Co w ob t r P T) (c x : Nat) (hc : c < 400) : Co (w.setCell ⟨ob, 1 + c, none⟩ (.int .i64 (x : Int))) ob t r (P.set c x) T := by
  refine ⟨?_, by rw [List.length_set]; exact h.len⟩
  have hl := h.len
  rw [heap_setCell_same w ob (1 + c) _ _ _ h.box]
  have e : 1 + c = c + 1 := by omega
  rw [e, coCells, coCells, List.setIfInBounds_toArray, List.set_cons_succ, List.set_append_left _ _ (by rw [pCells_len]; omega), pCells_set]
theorem Co.setT {w : World} {ob : Nat} {t : TypeId} {r : Nat} {P : List Nat} {T : List Value} (h : Co w ob t r P T) (j : Nat) (x : Value) : Co (w.setCell ⟨ob, 401 + j, none⟩ x) ob t r P (T.set j x) := by
  refine ⟨?_, h.len⟩
  have hl := h.len
  rw [heap_setCell_same w ob (401 + j) _ _ _ h.box]
  have e : 401 + j = (400 + j) + 1 := by omega
  rw [e, coCells, coCells, List.setIfInBounds_toArray, List.set_cons_succ, List.set_append_right _ _ (by rw [pCells_len]; omega), pCells_len, hl]
  have e2 : 400 + j - 400 = j := by omega
  rw [e2]
theorem Co.kept {w w' : World} {ob : Nat} {t : TypeId} {r : Nat} {P : List Nat} {T : List Value} {row : Option Nat} (h : Co w ob t r P T) (g : w.grownBy w' row) (hne : row ≠ some ob) : Co w' ob t r P T := ⟨grown_atC g h.box hne, h.len⟩

set_option maxRecDepth 20000 in
set_option maxHeartbeats 1600000 in
theorem implPart {w : World} {ob : Nat} {t : TypeId} {r : Nat} {P : List Nat} {T : List Value} (h : Co w ob t r P T) (c : Nat) (hc : c < 400) (hr : r < 4294967296) (hp : okP (P.getD c 2048)) :
    Calls Try.prog 63 #[.pointer (some ⟨ob, 0, none⟩), .int .i64 c] w fun e w' => e = .returned (.int .i64 ((r / 4096 * P.getD c 2048 : Nat) : Int)) ∧ w.grownBy w' none := by
  have c0 := h.c0
  have c1 := h.cP c hc
  generalize P.getD c 2048 = p at *
  obtain ⟨hp1, hp2⟩ := hp
  have e1 : (r : Int).tdiv 4096 = ((r / 4096 : Nat) : Int) := tdivN r 4096
  obtain ⟨q, hq⟩ : ∃ q, r / 4096 = q := ⟨_, rfl⟩
  rw [hq] at e1 ⊢
  have e2 := i64_in ((q : Nat) : Int) (by omega)
  have hm : q * p ≤ 1048576 * 4065 := Nat.mul_le_mul (by omega) hp2
  obtain ⟨m, hmm⟩ : ∃ m, q * p = m := ⟨_, rfl⟩
  have e3 : (q : Int) * (p : Int) = (m : Int) := by rw [← hmm]; simp
  rw [hmm] at hm ⊢
  have e4 := i64_in ((m : Nat) : Int) (by omega)
  have hcI : (c : Int) < 400 := by omega
  clear h hmm hq
  go_enter Try.func63, Try.ntmps63
  go_wp2
  go_quiet (fail)
  go_wp2
  go_ret
  exact ⟨rfl, grown_drewN (World.grownBy.refl _ _) _⟩

set_option maxRecDepth 20000 in
set_option maxHeartbeats 1600000 in
theorem implNarrow {w : World} {ob : Nat} {t : TypeId} {r : Nat} {P : List Nat} {T : List Value} (h : Co w ob t r P T) (c b : Nat) (hc : c < 400) (hb : b ≤ 1) (hr0 : 16777216 ≤ r) (hr : r < 4294967296) (hp : okP (P.getD c 2048)) :
    Calls Try.prog 64 #[.pointer (some ⟨ob, 0, none⟩), .agg #[.int .i64 c, .int .i64 b]] w fun e w' => e = .returned (.tuple #[]) ∧ Co w' ob t (if b = 0 then r / 4096 * P.getD c 2048 else r - r / 4096 * P.getD c 2048) P T ∧ w.grownBy w' (some ob) := by
  have hlt := h.lt
  have G0 : w.grownBy (w.alloc (.cells #[.int .i64 c, .int .i64 b] 30)) none := World.grownBy_alloc _ _ _
  have HPT : Hid (Calls Try.prog 63 #[.pointer (some ⟨ob, 0, none⟩), .int .i64 c] (w.alloc (.cells #[.int .i64 c, .int .i64 b] 30)) fun e w' => e = .returned (.int .i64 ((r / 4096 * P.getD c 2048 : Nat) : Int)) ∧ (w.alloc (.cells #[.int .i64 c, .int .i64 b] 30)).grownBy w' none) := implPart (h.kept G0 (by simp)) c hc hr hp
  have hbd := part_bounds hr0 hp
  obtain ⟨pt, HP⟩ : ∃ pt, Hid (r / 4096 * P.getD c 2048 = pt) := ⟨_, rfl⟩
  rw [unhide HP] at HPT hbd ⊢
  have HB := hide (heap_alloc_new w (.cells #[.int .i64 c, .int .i64 b] 30))
  have H := hide h
  have HG := hide G0
  have e1 := i64_in ((r : Int) - (pt : Int)) (by omega)
  clear h G0
  rcases (show b = 0 ∨ b = 1 by omega) with rfl | rfl
  · go_enter Try.func64, Try.ntmps64
    go_wp2_with fail
    refine (unhide HPT).mono ?_
    rintro e w1 ⟨rfl, g1⟩
    have hb1 := grown_atC g1 (unhide HB) (by simp)
    have m1 : w1.cell? ⟨w.heap.size, 1, none⟩ = some (.int .i64 ((0 : Nat) : Int)) := by rw [cell_of_row w1 _ 1 _ _ (0, 0) hb1]; rfl
    have G1 := grown_trans (unhide HG) g1
    have H1 := hide ((unhide H).kept G1 (by simp))
    have k0 := (unhide H1).c0
    have f0 := (unhide H1).fz 0
    have HF := hide ((unhide H1).set0 pt)
    have HGF : Hid (w.grownBy (w1.setCell ⟨ob, 0, none⟩ (.int .i64 (pt : Int))) (some ob)) := grown_trans (grown_any G1) (grown_set _ _ _ _)
    clear g1 hb1 G1 H H1 HB HG HPT
    go_wp2
    exact bodyPost_end (v := .tuple #[]) (by simp [results, Try.results64, go_sem]) rfl ⟨rfl, unhide HF, unhide HGF⟩
  · go_enter Try.func64, Try.ntmps64
    go_wp2_with fail
    refine (unhide HPT).mono ?_
    rintro e w1 ⟨rfl, g1⟩
    have hb1 := grown_atC g1 (unhide HB) (by simp)
    have m1 : w1.cell? ⟨w.heap.size, 1, none⟩ = some (.int .i64 ((1 : Nat) : Int)) := by rw [cell_of_row w1 _ 1 _ _ (0, 0) hb1]; rfl
    have G1 := grown_trans (unhide HG) g1
    have H1 := hide ((unhide H).kept G1 (by simp))
    have k0 := (unhide H1).c0
    have f0 := (unhide H1).fz 0
    have HF : Hid (Co (w1.setCell ⟨ob, 0, none⟩ (.int .i64 ((r : Int) - (pt : Int)))) ob t (r - pt) P T) := by
      have h1 := (unhide H1).set0 (r - pt)
      have e2 : ((r - pt : Nat) : Int) = (r : Int) - (pt : Int) := by omega
      rw [e2] at h1
      exact h1
    have HGF : Hid (w.grownBy (w1.setCell ⟨ob, 0, none⟩ (.int .i64 ((r : Int) - (pt : Int)))) (some ob)) := grown_trans (grown_any G1) (grown_set _ _ _ _)
    clear g1 hb1 G1 H H1 HB HG HPT
    go_wp2
    exact bodyPost_end (v := .tuple #[]) (by simp [results, Try.results64, go_sem]) rfl ⟨rfl, unhide HF, unhide HGF⟩

set_option maxRecDepth 20000 in
set_option maxHeartbeats 1600000 in
theorem implLearn {w : World} {ob : Nat} {t : TypeId} {r : Nat} {P : List Nat} {T : List Value} (h : Co w ob t r P T) (c b : Nat) (hc : c < 400) (hb : b ≤ 1) (hp : okP (P.getD c 2048)) :
    Calls Try.prog 65 #[.pointer (some ⟨ob, 0, none⟩), .agg #[.int .i64 c, .int .i64 b]] w fun e w' => e = .returned (.tuple #[]) ∧ Co w' ob t r (P.set c (learnN (P.getD c 2048) b)) T ∧ w.grownBy w' (some ob) := by
  have hlt := h.lt
  have c1 := h.cP c hc
  have f1 := h.fz (1 + c)
  have HS : Hid (∀ W x, w.grownBy W none → Co (W.setCell ⟨ob, 1 + c, none⟩ (.int .i64 ((x : Nat) : Int))) ob t r (P.set c x) T ∧ w.grownBy (W.setCell ⟨ob, 1 + c, none⟩ (.int .i64 ((x : Nat) : Int))) (some ob)) := fun W x g => ⟨(h.kept g (by simp)).setP c x hc, grown_trans (grown_any g) (grown_set _ _ _ _)⟩
  have HG0 : Hid (w.grownBy (w.alloc (.cells #[.int .i64 c, .int .i64 b] 30)) none) := World.grownBy_alloc _ _ _
  have hcI : (c : Int) < 400 := by omega
  generalize P.getD c 2048 = p at *
  obtain ⟨hp1, hp2⟩ := hp
  clear h hc
  rcases (show b = 0 ∨ b = 1 by omega) with rfl | rfl
  · have e1 := i64_in (4096 - (p : Int)) (by omega)
    have e2 : (4096 - (p : Int)).tdiv 32 = (((4096 - p) / 32 : Nat) : Int) := by rw [Int.tdiv_eq_ediv_of_nonneg (by omega)]; omega
    obtain ⟨q, hq⟩ : ∃ q, (4096 - p) / 32 = q := ⟨_, rfl⟩
    rw [hq] at e2
    have e3 := i64_in ((q : Nat) : Int) (by omega)
    have e4 := i64_in ((p : Int) + (q : Int)) (by omega)
    have HL : Hid (learnN p 0 = p + q) := by unfold Hid learnN; rw [if_pos rfl, hq]
    rw [unhide HL]
    go_enter Try.func65, Try.ntmps65
    go_wp2
    go_quiet (fail)
    go_wp2
    refine wp_region_last 20 _ (by kernel_rfl) rfl rfl (by kernel_rfl) ?_
    dsimp only [List.dropLast]
    repeat (go_big_quiet_step (fail))
    refine wpQuiet_nil ?_
    intro nq2
    have hpq : ((p + q : Nat) : Int) = (p : Int) + (q : Int) := by omega
    have HSN := hide (unhide HS _ (p + q) (grown_drewN (unhide HG0) (nq + nq2)))
    rw [hpq] at HSN
    clear HS hpq HG0
    go_wp2
    exact bodyPost_end (v := .tuple #[]) (by simp [results, Try.results65, go_sem]) rfl ⟨rfl, (unhide HSN).1, (unhide HSN).2⟩
  · have e2 : (p : Int).tdiv 32 = ((p / 32 : Nat) : Int) := tdivN p 32
    obtain ⟨q, hq⟩ : ∃ q, p / 32 = q := ⟨_, rfl⟩
    rw [hq] at e2
    have e3 := i64_in ((q : Nat) : Int) (by omega)
    have e4 := i64_in ((p : Int) - (q : Int)) (by omega)
    have HL : Hid (learnN p 1 = p - q) := by unfold Hid learnN; rw [if_neg (by omega), hq]
    rw [unhide HL]
    go_enter Try.func65, Try.ntmps65
    go_wp2
    go_quiet (fail)
    go_wp2
    refine wp_region_last 20 _ (by kernel_rfl) rfl rfl (by kernel_rfl) ?_
    dsimp only [List.dropLast]
    repeat (go_big_quiet_step (fail))
    refine wpQuiet_nil ?_
    intro nq2
    have hpq : ((p - q : Nat) : Int) = (p : Int) - (q : Int) := by omega
    have HSN := hide (unhide HS _ (p - q) (grown_drewN (unhide HG0) (nq + nq2)))
    rw [hpq] at HSN
    clear HS hpq HG0
    go_wp2
    exact bodyPost_end (v := .tuple #[]) (by simp [results, Try.results65, go_sem]) rfl ⟨rfl, (unhide HSN).1, (unhide HSN).2⟩

theorem start_set (i : Nat) (P : List Nat) (h : i < P.length) : (List.replicate i 2048 ++ P.drop i).set i 2048 = List.replicate (i + 1) 2048 ++ P.drop (i + 1) := by
  rw [List.set_append_right _ _ (by simp), List.length_replicate, Nat.sub_self, List.drop_eq_getElem_cons h, List.set_cons_zero, List.replicate_succ', List.append_assoc]; rfl

set_option maxRecDepth 20000 in
set_option maxHeartbeats 1600000 in
theorem implStart {w : World} {ob : Nat} {t : TypeId} {r : Nat} {P : List Nat} {T : List Value} (h : Co w ob t r P T) :
    Calls Try.prog 61 #[.pointer (some ⟨ob, 0, none⟩)] w fun e w' => e = .returned (.tuple #[]) ∧ Co w' ob t 4294967295 (List.replicate 400 2048) T ∧ w.grownBy w' (some ob) := by
  have k0 := h.c0
  have f0 := h.fz 0
  have H0 : Hid (Co (w.setCell ⟨ob, 0, none⟩ (.int .i64 4294967295)) ob t 4294967295 (List.replicate 0 2048 ++ P.drop 0) T ∧ w.grownBy (w.setCell ⟨ob, 0, none⟩ (.int .i64 4294967295)) (some ob)) := ⟨h.set0 4294967295, grown_set _ _ _ _⟩
  have HPL := hide h.len
  clear h
  go_enter Try.func61, Try.ntmps61
  go_wp2
  go_loopw [6] (fun iv wr => ∃ i : Nat, i ≤ 400 ∧ iv = .int .i64 i ∧ Hid (Co wr ob t 4294967295 (List.replicate i 2048 ++ P.drop i) T ∧ w.grownBy wr (some ob))) (fun iv _ => 400 - (intOf iv).toNat)
  case atStart => exact ⟨0, Nat.zero_le _, rfl, H0⟩
  case round =>
    clear H0 k0 f0
    obtain ⟨i, hi, rfl, hk⟩ := hrel
    by_cases hlt : i < 400
    · have hd : decide ((i : Int) < 400) = true := decide_eq_true (by omega)
      have k1 := (unhide hk).1.cP i hlt
      have f1 := (unhide hk).1.fz (1 + i)
      obtain ⟨p, HP⟩ : ∃ p : Nat, Hid ((List.replicate i 2048 ++ P.drop i).getD i 2048 = p) := ⟨_, hide rfl⟩
      rw [unhide HP] at k1
      have hiI : (i : Int) < 400 := by omega
      have HN : Hid (Co (wr.setCell ⟨ob, 1 + i, none⟩ (.int .i64 2048)) ob t 4294967295 (List.replicate (i + 1) 2048 ++ P.drop (i + 1)) T ∧ w.grownBy (wr.setCell ⟨ob, 1 + i, none⟩ (.int .i64 2048)) (some ob)) := by
        have h1 := (unhide hk).1.setP i 2048 hlt
        rw [start_set i P (by rw [unhide HPL]; exact hlt)] at h1
        exact ⟨h1, grown_trans (unhide hk).2 (grown_set _ _ _ _)⟩
      clear hk
      go_wp2
      go_roundw
      case rel => exact ⟨i + 1, by omega, by go_num, HN⟩
      case measure => simp [intOf]; omega
    · obtain rfl : i = 400 := by omega
      have HF : Hid (Co wr ob t 4294967295 (List.replicate 400 2048) T ∧ w.grownBy wr (some ob)) := by
        have h1 := (unhide hk).1
        have e : P.drop 400 = [] := List.drop_eq_nil_of_le (by rw [unhide HPL]; exact Nat.le_refl _)
        rw [e, List.append_nil] at h1
        exact ⟨h1, (unhide hk).2⟩
      clear hk
      go_wp2
      exact bodyPost_end (v := .tuple #[]) (by simp [results, Try.results61, go_sem]) rfl ⟨rfl, (unhide HF).1, (unhide HF).2⟩

end Go.Proofs.Ytekidfkahpaokaa
