/-
  Segments written and read again, and bytes read and written again, as lists.
-/
import Derived.Test.YticecjodbhhcfaaDoorSegWriteSpec
import Derived.Test.YticecjodbhhcfaaDoorSegReadPure
namespace Go.Proofs.YticecjodbhhcfaaDoor
open Go.RowKit

theorem stuffC (x : Int) (r : List Int) : stuffL (x :: r) = (if x = 255 then [x, 0] else [x]) ++ stuffL r := by simp [stuffL]
theorem unst_stuffS (bs tail : List Int) (ht : unst tail = ([], 0)) : unst (stuffL bs ++ tail) = (bs, (stuffL bs).length) := by
  induction bs with
  | nil => simpa [stuffL] using ht
  | cons x r ih =>
    rw [stuffC]
    by_cases hx : x = 255
    · subst hx
      rw [if_pos rfl]
      show unst (255 :: 0 :: (stuffL r ++ tail)) = _
      rw [unst, if_pos rfl, if_pos rfl, ih]
      simp
    · rw [if_neg hx]
      show unst (x :: (stuffL r ++ tail)) = _
      rw [unst_other x _ hx, ih]
      simp

theorem getD_app (pre t : List Int) (i : Nat) : (pre ++ t).getD (pre.length + i) 0 = t.getD i 0 := by
  rw [List.getD_eq_getElem?_getD, List.getElem?_append_right (by omega), List.getD_eq_getElem?_getD]
  congr 2
  omega
theorem drop_app (pre t : List Int) (i : Nat) : (pre ++ t).drop (pre.length + i) = t.drop i := by
  rw [List.drop_append]
  simp

/-- A segment that is ok where it stands is what comes next. -/
theorem next_written (pre rest : List Int) (was : Int) (s : Int × List Int) (hok : segOk1 was s = true) (hrest : kindOf s.1 = 3 → unst rest = ([], 0)) :
    nextS (pre ++ (segBytes s ++ rest)) pre.length was false = .seg s.1 s.2 (pre.length + (segBytes s).length) := by
  obtain ⟨m, d⟩ := s
  simp only [segOk1, Bool.and_eq_true, decide_eq_true_eq, Bool.not_eq_true', Bool.and_eq_false_imp, decide_eq_false_iff_not] at hok
  obtain ⟨⟨⟨hf, hl⟩, h2⟩, h3⟩ := hok
  have hg := getD_app pre (segBytes (m, d) ++ rest)
  have hd := drop_app pre (segBytes (m, d) ++ rest)
  have g0 := hg 0
  rw [Nat.add_zero] at g0
  have d0 := hd 0
  rw [Nat.add_zero, List.drop_zero] at d0
  have hlen : (pre ++ (segBytes (m, d) ++ rest)).length = pre.length + ((segBytes (m, d)).length + rest.length) := by simp
  have hkb := kind_bounds m
  dsimp only at hf hl h2 h3 hrest ⊢
  rcases kindOf_cases m with hk | hk | hk | hk
  · rw [hk] at hf; simp [fitsK] at hf
  · have hmb := hkb.1 hk
    have hsb : segBytes (m, d) = [255, m, ((d.length / 256 : Nat) : Int), ((d.length % 256 : Nat) : Int)] ++ d := by unfold segBytes; dsimp only; rw [hk]; rfl
    have hsl : (segBytes (m, d)).length = 4 + d.length := by rw [hsb]; simp; omega
    have e0 : (segBytes (m, d) ++ rest).getD 0 0 = 255 := by rw [hsb]; rfl
    have e1 : (segBytes (m, d) ++ rest).getD 1 0 = m := by rw [hsb]; rfl
    have e2 : (segBytes (m, d) ++ rest).getD 2 0 = ((d.length / 256 : Nat) : Int) := by rw [hsb]; rfl
    have e3 : (segBytes (m, d) ++ rest).getD 3 0 = ((d.length % 256 : Nat) : Int) := by rw [hsb]; rfl
    have e4 : (segBytes (m, d) ++ rest).drop 4 = d ++ rest := by rw [hsb]; rfl
    have hc : cnt2 (pre ++ (segBytes (m, d) ++ rest)) pre.length = d.length := by
      unfold cnt2
      rw [hg 2, hg 3, e2, e3]
      omega
    unfold nextS
    rw [if_neg (by omega), if_neg, if_neg (by omega), hg 1, e1, if_neg (by omega)]
    · unfold nextMk
      rw [hg 1, e1, hk, if_neg (by simp [fitsK]), if_neg (by simp), if_neg (by decide)]
      unfold nextPart
      rw [hc, if_neg (by omega), if_neg (by omega), if_neg (by omega), hg 1, e1, hd 4, e4, hsl]
      simp
      omega
    · intro hr
      rcases hr with hr | hr
      · rw [g0, e0] at hr; exact hr rfl
      · rw [hg 1, e1] at hr; omega
  · have hmb := hkb.2 hk
    have hsb : segBytes (m, d) = [255, m] := by unfold segBytes; dsimp only; rw [hk]; rfl
    have hdn : d = [] := by
      have := h2 hk
      exact List.eq_nil_of_length_eq_zero (by omega)
    subst hdn
    have e0 : (segBytes (m, []) ++ rest).getD 0 0 = 255 := by rw [hsb]; rfl
    have e1 : (segBytes (m, []) ++ rest).getD 1 0 = m := by rw [hsb]; rfl
    have hsl : (segBytes (m, [])).length = 2 := by rw [hsb]; rfl
    have hft : fitsK was 2 = true := by rw [hk] at hf; exact hf
    unfold nextS
    rw [if_neg (by omega), if_neg, if_neg (by omega), hg 1, e1, if_neg (by omega)]
    · unfold nextMk
      rw [hg 1, e1, hk, hft, if_neg (by simp), if_neg (by simp), if_pos rfl, hsl]
    · intro hr
      rcases hr with hr | hr
      · rw [g0, e0] at hr; exact hr rfl
      · rw [hg 1, e1] at hr; omega
  · have hm0 : m = 0 := by
      unfold kindOf at hk
      by_cases h : m = 0
      · exact h
      · rw [if_neg h] at hk
        repeat' split at hk
        all_goals cases hk
    subst hm0
    have hsb : segBytes (0, d) = stuffL d := by unfold segBytes; dsimp only; rw [hk]; rfl
    have hu := unst_stuffS d rest (hrest hk)
    have hft : fitsK was 3 = true := by rw [hk] at hf; exact hf
    have hne : 0 < d.length := by have := h3 hk; omega
    have hpos : 0 < (stuffL d).length := by
      cases d with
      | nil => simp at hne
      | cons x r => rw [stuffC]; split <;> simp
    have hrun : isRun (pre ++ (segBytes (0, d) ++ rest)) pre.length := by
      unfold isRun
      rw [g0, hg 1, hsb]
      cases d with
      | nil => simp at hne
      | cons x r =>
        rw [stuffC]
        by_cases hx : x = 255
        · subst hx
          right
          refine ⟨?_, rfl⟩
          simp
        · left
          rw [if_neg hx]
          exact hx
    unfold nextS
    rw [if_neg (by rw [hlen, hsb]; omega), if_pos hrun]
    unfold nextRun
    rw [hft, if_neg (by simp), if_neg (by simp), d0, hsb, hu]
    dsimp only
    rw [if_neg (by omega)]

/-- Behind run data a mark follows. -/
theorem mark_behind (was : Int) (ss : List (Int × List Int)) (h : okFrom was ss = true) (hw : was = 3) : unst (ss.flatMap segBytes ++ [255, 254]) = ([], 0) := by
  have key : ∀ (m : Int) (r : List Int), m ≠ 0 → unst (255 :: m :: r) = ([], 0) := fun m r hm => by rw [unst, if_pos rfl, if_neg hm]
  cases ss with
  | nil => exact key 254 [] (by decide)
  | cons s r =>
    rw [okFrom, Bool.and_eq_true] at h
    obtain ⟨m, d⟩ := s
    have h1 := h.1
    simp only [segOk1, Bool.and_eq_true] at h1
    have hf := h1.1.1.1
    subst hw
    have hkb := kind_bounds m
    rcases kindOf_cases m with hk | hk | hk | hk
    · rw [hk] at hf; simp [fitsK] at hf
    · have hsb : segBytes (m, d) = [255, m, ((d.length / 256 : Nat) : Int), ((d.length % 256 : Nat) : Int)] ++ d := by unfold segBytes; dsimp only; rw [hk]; rfl
      rw [List.flatMap_cons, hsb]
      exact key m _ (by have := hkb.1 hk; omega)
    · have hsb : segBytes (m, d) = [255, m] := by unfold segBytes; dsimp only; rw [hk]; rfl
      rw [List.flatMap_cons, hsb]
      exact key m _ (by have := hkb.2 hk; omega)
    · rw [hk] at hf; simp [fitsK] at hf

theorem end_next (pre : List Int) (was : Int) (many : Bool) : nextS (pre ++ [255, 254]) pre.length was many = .fin (pre.length + 2) := by
  have hg := getD_app pre [255, 254]
  have g0 := hg 0
  rw [Nat.add_zero] at g0
  have g1 := hg 1
  have hlen : (pre ++ [255, 254]).length = pre.length + 2 := by simp
  have e0 : ([255, 254] : List Int).getD 0 0 = 255 := rfl
  have e1 : ([255, 254] : List Int).getD 1 0 = 254 := rfl
  rw [e0] at g0
  rw [e1] at g1
  unfold nextS
  rw [if_neg (by omega), if_neg, if_neg (by omega), g1, if_pos rfl]
  intro hr
  rcases hr with hr | hr
  · rw [g0] at hr; exact hr rfl
  · rw [g1] at hr; omega

/-- Reading what was written. -/
theorem read_on : ∀ (ss : List (Int × List Int)) (f : Nat) (pre : List Int) (was : Int) (acc : List (Int × List Int)), okFrom was ss = true → acc.length + ss.length ≤ 300 → ss.length < f →
    readFrom f (pre ++ (ss.flatMap segBytes ++ [255, 254])) pre.length was acc = (acc ++ ss, 0, 0)
  | [], f, pre, was, acc, _, _, hf => by
    obtain ⟨f', rfl⟩ : ∃ f', f = f' + 1 := ⟨f - 1, by simp at hf; omega⟩
    simp only [List.flatMap_nil, List.nil_append, List.append_nil]
    rw [readFrom, end_next]
    dsimp only
    rw [if_neg (by simp)]
  | s :: r, f, pre, was, acc, hok, hn, hf => by
    obtain ⟨f', rfl⟩ : ∃ f', f = f' + 1 := ⟨f - 1, by simp at hf; omega⟩
    rw [okFrom, Bool.and_eq_true] at hok
    simp only [List.length_cons] at hn hf
    have hm : decide (acc.length = 300) = false := decide_eq_false (by omega)
    have hnx := next_written pre (r.flatMap segBytes ++ [255, 254]) was s hok.1 (fun h3 => mark_behind _ r hok.2 h3)
    have e : pre ++ ((s :: r).flatMap segBytes ++ [255, 254]) = pre ++ (segBytes s ++ (r.flatMap segBytes ++ [255, 254])) := by simp
    rw [e, readFrom, hm, hnx]
    dsimp only
    have e2 : pre ++ (segBytes s ++ (r.flatMap segBytes ++ [255, 254])) = (pre ++ segBytes s) ++ (r.flatMap segBytes ++ [255, 254]) := by simp
    have e3 : pre.length + (segBytes s).length = (pre ++ segBytes s).length := by simp
    rw [e2, e3, read_on r f' (pre ++ segBytes s) (kindOf s.1) (acc ++ [s]) hok.2 (by simp; omega) (by omega)]
    simp
theorem segBytes_pos (was : Int) (s : Int × List Int) (h : segOk1 was s = true) : 0 < (segBytes s).length := by
  have h1 := next_written [] [255, 254] was s h (fun _ => rfl)
  have h2 := next_bounds h1
  simp at h2
  omega
theorem body_len (was : Int) : ∀ (ss : List (Int × List Int)), okFrom was ss = true → ss.length ≤ (ss.flatMap segBytes).length := by
  intro ss
  induction ss generalizing was with
  | nil => intro _; simp
  | cons s r ih =>
    intro h
    rw [okFrom, Bool.and_eq_true] at h
    have h1 := segBytes_pos was s h.1
    have h2 := ih _ h.2
    simp only [List.flatMap_cons, List.length_append, List.length_cons]
    omega
theorem read_written (ss : List (Int × List Int)) (h : writeS ss ≠ []) : readS (writeS ss) = (ss, 0, 0) := by
  unfold writeS at h ⊢
  split at h
  · rename_i hc
    rw [if_pos hc]
    obtain ⟨hok, hlen⟩ := hc
    simp only [okS, Bool.and_eq_true, decide_eq_true_eq] at hok
    have hbl := body_len 0 ss hok.2
    have e : bodyS ss ++ [255, 254] = [84, 83] ++ (ss.flatMap segBytes ++ [255, 254]) := by simp [bodyS]
    have hl : (bodyS ss ++ [255, 254]).length = (bodyS ss).length + 2 := by simp
    have hl2 : (bodyS ss).length = 2 + (ss.flatMap segBytes).length := by simp [bodyS]; omega
    unfold readS
    rw [if_neg (by omega), if_pos (by rw [e]; exact ⟨by simp, rfl, rfl⟩)]
    have h2 := read_on ss ((bodyS ss ++ [255, 254]).length + 1) [84, 83] 0 [] hok.2 (by simpa using hok.1) (by omega)
    rw [← e] at h2
    simpa using h2
  · exact absurd rfl h

end Go.Proofs.YticecjodbhhcfaaDoor
