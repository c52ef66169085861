/-
  The scripts in the program.
-/
import Derived.Test.YtnjcmlmgjoaeeaaOwnList
import Derived.Test.YtnjcmlmgjoaeeaaRelyRegion
import Derived.Test.YtnjcmlmgjoaeeaaTabKit
namespace Go.Proofs.Ytnjcmlmgjoaeeaa
open Go.RowKit

def scL (fr to hi lo : Int) : Scn := ⟨[], fr, to, hi, lo⟩
/-- A row of scans without components that was laid. -/
theorem laid1 (w : World) (fr to hi lo : Int) : RdSs (w.alloc (.cells #[.slice none 0 0, .int .i64 fr, .int .i64 to, .int .i64 hi, .int .i64 lo] 38)) (.slice (some ⟨w.heap.size, 0, none⟩) 1 1) [scL fr to hi lo] := by
  have o : OwSs (w.alloc (.cells #[.slice none 0 0, .int .i64 fr, .int .i64 to, .int .i64 hi, .int .i64 lo] 38)) (.slice (some ⟨w.heap.size, 0, none⟩) 1 1) [scL fr to hi lo] ([w.heap.size] ++ [([] : List Nat)].flatten) :=
    ⟨fun _ => five (.slice none 0 0) (.int .i64 fr) (.int .i64 to) (.int .i64 hi) (.int .i64 lo), [[]], rfl, World.ownsRow_lit w #[.slice none 0 0, .int .i64 fr, .int .i64 to, .int .i64 hi, .int .i64 lo] 1 (Nat.zero_le _) (by unfold maxLen; omega) rfl, fun i hi => by
      obtain rfl : i = 0 := by simpa using hi
      exact ⟨⟨rfl, rfl, rfl, rfl⟩, ⟨rfl, .inl ⟨rfl, rfl⟩⟩, rfl⟩, rfl⟩
  exact o.rd
theorem laid2 (w : World) (fr to hi lo fr2 to2 hi2 lo2 : Int) : RdSs (w.alloc (.cells #[.slice none 0 0, .int .i64 fr, .int .i64 to, .int .i64 hi, .int .i64 lo, .slice none 0 0, .int .i64 fr2, .int .i64 to2, .int .i64 hi2, .int .i64 lo2] 38)) (.slice (some ⟨w.heap.size, 0, none⟩) 2 2) [scL fr to hi lo, scL fr2 to2 hi2 lo2] := by
  have hr : (#[.slice none 0 0, .int .i64 fr, .int .i64 to, .int .i64 hi, .int .i64 lo, .slice none 0 0, .int .i64 fr2, .int .i64 to2, .int .i64 hi2, .int .i64 lo2] : Array Value).toList = rowsK 2 5 (fun i j => if i < 1 then (five (.slice none 0 0) (.int .i64 fr) (.int .i64 to) (.int .i64 hi) (.int .i64 lo)) j else (five (.slice none 0 0) (.int .i64 fr2) (.int .i64 to2) (.int .i64 hi2) (.int .i64 lo2)) j) := rowsK_append 1 1 5 (by decide) (fun _ => (five (.slice none 0 0) (.int .i64 fr) (.int .i64 to) (.int .i64 hi) (.int .i64 lo))) (fun _ => (five (.slice none 0 0) (.int .i64 fr2) (.int .i64 to2) (.int .i64 hi2) (.int .i64 lo2)))
  have h := World.ownsRow_lit w (e := 38) (size := 5) (base := 0) #[.slice none 0 0, .int .i64 fr, .int .i64 to, .int .i64 hi, .int .i64 lo, .slice none 0 0, .int .i64 fr2, .int .i64 to2, .int .i64 hi2, .int .i64 lo2] 2 (Nat.zero_le _) (by unfold maxLen; omega) rfl
  rw [hr] at h
  have o : OwSs (w.alloc (.cells #[.slice none 0 0, .int .i64 fr, .int .i64 to, .int .i64 hi, .int .i64 lo, .slice none 0 0, .int .i64 fr2, .int .i64 to2, .int .i64 hi2, .int .i64 lo2] 38)) (.slice (some ⟨w.heap.size, 0, none⟩) 2 2) [scL fr to hi lo, scL fr2 to2 hi2 lo2] ([w.heap.size] ++ [([] : List Nat), []].flatten) :=
    ⟨_, [[], []], rfl, h, fun i hi => by
      have h : i = 0 ∨ i = 1 := by simp at hi; omega
      rcases h with rfl | rfl
      · exact ⟨⟨rfl, rfl, rfl, rfl⟩, ⟨rfl, .inl ⟨rfl, rfl⟩⟩, rfl⟩
      · exact ⟨⟨rfl, rfl, rfl, rfl⟩, ⟨rfl, .inl ⟨rfl, rfl⟩⟩, rfl⟩, rfl⟩
  exact o.rd

def k1L (n : Nat) : List Scn := [⟨allC n, 0, 0, 0, 1⟩]
def k2L (n : Nat) : List Scn := eachC n (apG [scL 1 5 0 2, scL 6 63 0 2])
def k3L (n : Nat) : List Scn := eachC n (apG [scL 1 63 2 1])
def k4L (n : Nat) : List Scn := [⟨allC n, 0, 0, 1, 0⟩]
def k5L (n : Nat) : List Scn := eachC n (apG [scL 1 63 1 0])
theorem script2_is (n : Nat) : scriptG true n 2 = [k1L n, k2L n, k3L n, k4L n, k5L n].flatten := by
  have h : scriptG true n 2 = k1L n ++ k2L n ++ k3L n ++ k4L n ++ k5L n := rfl
  rw [h]
  simp
theorem each_len (n : Nat) (T : List Scn) : (eachC n (apG T)).length = n * T.length := by
  unfold eachC
  rw [flat_lenA]
  simp [allC]

/-- What each slot holds behind its operation. -/
def facts (B n : Nat) (L : List Scn) : List (List Value → World → Prop) :=
  [fun vs w => OwB B w [vs.getD 0 undef] [k1L n],
   fun vs w => RdSs w (vs.getD 1 undef) [scL 1 5 0 2, scL 6 63 0 2],
   fun vs w => OwB B w [vs.getD 0 undef, vs.getD 2 undef] [k1L n, k2L n],
   fun vs w => RdSs w (vs.getD 3 undef) [scL 1 63 2 1],
   fun vs w => OwB B w [vs.getD 0 undef, vs.getD 2 undef, vs.getD 4 undef] [k1L n, k2L n, k3L n],
   fun vs w => OwB B w [vs.getD 0 undef, vs.getD 2 undef, vs.getD 4 undef, vs.getD 5 undef] [k1L n, k2L n, k3L n, k4L n],
   fun vs w => RdSs w (vs.getD 6 undef) [scL 1 63 1 0],
   fun vs w => OwB B w [vs.getD 0 undef, vs.getD 2 undef, vs.getD 4 undef, vs.getD 5 undef, vs.getD 7 undef] [k1L n, k2L n, k3L n, k4L n, k5L n],
   fun vs w => (∃ g, vs.getD 8 undef = .slice (some ⟨g, 0, none⟩) 5 5 ∧ w.heap[g]? = some (.cells #[vs.getD 0 undef, vs.getD 2 undef, vs.getD 4 undef, vs.getD 5 undef, vs.getD 7 undef] 27 (0, 0))) ∧ OwB B w [vs.getD 0 undef, vs.getD 2 undef, vs.getD 4 undef, vs.getD 5 undef, vs.getD 7 undef] [k1L n, k2L n, k3L n, k4L n, k5L n],
   fun vs w => ∃ F, OwSs w (vs.getD 9 undef) L F ∧ F.Nodup ∧ ∀ x ∈ F, B ≤ x,
   fun vs w => ∃ F, OwSs w (vs.getD 10 undef) L F ∧ F.Nodup ∧ ∀ x ∈ F, B ≤ x]
def factDeps : List (List Nat) := [[0], [1], [0, 2], [3], [0, 2, 4], [0, 2, 4, 5], [6], [0, 2, 4, 5, 7], [0, 2, 4, 5, 7, 8], [9], [10]]
theorem facts_keep (B n : Nat) (L : List Scn) (k : Nat) (f : List Value → World → Prop) (hf : (facts B n L)[k]? = some f) (vs : List Value) (w w' : World) (h : f vs w) (g : w.grownBy w' none) : f vs w' := by
  have hk : k < 11 := (List.getElem?_eq_some_iff.1 hf).1
  have hc : k = 0 ∨ k = 1 ∨ k = 2 ∨ k = 3 ∨ k = 4 ∨ k = 5 ∨ k = 6 ∨ k = 7 ∨ k = 8 ∨ k = 9 ∨ k = 10 := by omega
  rcases hc with rfl | rfl | rfl | rfl | rfl | rfl | rfl | rfl | rfl | rfl | rfl <;> cases hf
  · exact OwB.keep h g
  · exact RdSs.st _ _ _ _ h g
  · exact OwB.keep h g
  · exact RdSs.st _ _ _ _ h g
  · exact OwB.keep h g
  · exact OwB.keep h g
  · exact RdSs.st _ _ _ _ h g
  · exact OwB.keep h g
  · obtain ⟨⟨b, e, hb⟩, ho⟩ := h
    exact ⟨⟨b, e, at_rowS g hb (by simp)⟩, ho.keep g⟩
  · obtain ⟨F, o, a, b⟩ := h
    exact ⟨F, OwSs.ok.keep o g, a, b⟩
  · obtain ⟨F, o, a, b⟩ := h
    exact ⟨F, OwSs.ok.keep o g, a, b⟩
theorem facts_dep (B n : Nat) (L : List Scn) (k : Nat) (f : List Value → World → Prop) (hf : (facts B n L)[k]? = some f) (vs vs' : List Value) (w : World) (h : ∀ q ∈ factDeps.getD k [], vs.getD q undef = vs'.getD q undef) (hv : f vs w) : f vs' w := by
  have hk : k < 11 := (List.getElem?_eq_some_iff.1 hf).1
  have hc : k = 0 ∨ k = 1 ∨ k = 2 ∨ k = 3 ∨ k = 4 ∨ k = 5 ∨ k = 6 ∨ k = 7 ∨ k = 8 ∨ k = 9 ∨ k = 10 := by omega
  rcases hc with rfl | rfl | rfl | rfl | rfl | rfl | rfl | rfl | rfl | rfl | rfl <;> cases hf
  · have e0 := h 0 (by decide)
    dsimp only at hv ⊢
    rw [← e0]
    exact hv
  · have e1 := h 1 (by decide)
    dsimp only at hv ⊢
    rw [← e1]
    exact hv
  · have e0 := h 0 (by decide)
    have e2 := h 2 (by decide)
    dsimp only at hv ⊢
    rw [← e0, ← e2]
    exact hv
  · have e3 := h 3 (by decide)
    dsimp only at hv ⊢
    rw [← e3]
    exact hv
  · have e0 := h 0 (by decide)
    have e2 := h 2 (by decide)
    have e4 := h 4 (by decide)
    dsimp only at hv ⊢
    rw [← e0, ← e2, ← e4]
    exact hv
  · have e0 := h 0 (by decide)
    have e2 := h 2 (by decide)
    have e4 := h 4 (by decide)
    have e5 := h 5 (by decide)
    dsimp only at hv ⊢
    rw [← e0, ← e2, ← e4, ← e5]
    exact hv
  · have e6 := h 6 (by decide)
    dsimp only at hv ⊢
    rw [← e6]
    exact hv
  · have e0 := h 0 (by decide)
    have e2 := h 2 (by decide)
    have e4 := h 4 (by decide)
    have e5 := h 5 (by decide)
    have e7 := h 7 (by decide)
    dsimp only at hv ⊢
    rw [← e0, ← e2, ← e4, ← e5, ← e7]
    exact hv
  · have e0 := h 0 (by decide)
    have e2 := h 2 (by decide)
    have e4 := h 4 (by decide)
    have e5 := h 5 (by decide)
    have e7 := h 7 (by decide)
    have e8 := h 8 (by decide)
    dsimp only at hv ⊢
    rw [← e0, ← e2, ← e4, ← e5, ← e7, ← e8]
    exact hv
  · have e9 := h 9 (by decide)
    dsimp only at hv ⊢
    rw [← e9]
    exact hv
  · have e10 := h 10 (by decide)
    dsimp only at hv ⊢
    rw [← e10]
    exact hv

set_option maxRecDepth 20000 in
set_option maxHeartbeats 6400000 in
theorem scriptAll (X : Array Value) (n : Nat) (hX : Cnt X n) (h1 : 1 ≤ n) (kind : Int) (w : World) (L : List Scn) (HL : Hid (scriptG true n kind = L)) :
    Calls Try.prog 44 #[.agg X, .int .i64 kind] w fun e w' => ∃ u F, e = .returned u ∧ OwSs w' u L F ∧ F.Nodup ∧ (∀ g ∈ F, w.heap.size ≤ g) ∧ w.grownBy w' none := by
  have HX := hide hX
  have HS := hide hX.size
  have hn4 := hX.n4
  have HB0 := hide (heap_alloc_new w (.cells X 71))
  have HG0 : Hid (w.grownBy (w.alloc (.cells X 71)) none) := World.grownBy_alloc _ _ _
  have hs0 : (w.alloc (.cells X 71)).heap.size = w.heap.size + 1 := by simp
  clear hX
  by_cases k0 : kind = 0
  · subst k0
    have HT := hide (together X n (unhide HX) 0 63 0 0 (w.alloc (.cells X 71)))
    have e : L = [⟨allC n, 0, 63, 0, 0⟩] := by rw [← unhide HL]; rfl
    subst e
    clear hs0
    go_enter Try.func44, Try.ntmps44
    go_wp2_with (refine load_row rfl 71 _ rfl w.heap.size rfl X 71 (unhide HB0) _ Try.underlying71 rfl (by rw [unhide HS]; kernel_rfl) ?_)
    refine (unhide HT).mono ?_
    rintro e w2 ⟨u, F, rfl, o2, n2, l2, g2⟩
    have HR : Hid (∃ F, OwSs w2 u [⟨allC n, 0, 63, 0, 0⟩] F ∧ F.Nodup ∧ (∀ g ∈ F, w.heap.size ≤ g) ∧ w.grownBy w2 none) := ⟨F, o2, n2, fun g hg => by have := l2 g hg; have := (unhide HG0).size; omega, grown_trans (unhide HG0) g2⟩
    clear o2 n2 l2 g2 HT
    go_wp2
    go_ret
    obtain ⟨F, h⟩ := unhide HR
    exact ⟨_, F, rfl, h⟩
  · have e0 : (kind == 0) = false := by simp [k0]
    by_cases k1 : kind = 1
    · subst k1
      have HRD := hide (laid1 (w.alloc (.cells X 71)) 0 63 0 0)
      rw [hs0] at HRD
      have HT := hide (apart X n (unhide HX) _ [scL 0 63 0 0] _ (unhide HRD) (by decide) L (by unfold Hid; rw [← unhide HL]; rfl))
      clear hs0
      go_enter Try.func44, Try.ntmps44
      go_wp2_with (refine load_row rfl 71 _ rfl w.heap.size rfl X 71 (unhide HB0) _ Try.underlying71 rfl (by rw [unhide HS]; kernel_rfl) ?_)
      refine (unhide HT).mono ?_
      rintro e w2 ⟨u, F, rfl, o2, n2, l2, g2⟩
      have HR : Hid (∃ F, OwSs w2 u L F ∧ F.Nodup ∧ (∀ g ∈ F, w.heap.size ≤ g) ∧ w.grownBy w2 none) := ⟨F, o2, n2, fun g hg => by have := l2 g hg; have := (unhide HG0).size; simp at *; omega, grown_trans (grown_alloc (unhide HG0) _) g2⟩
      clear o2 n2 l2 g2 HT
      go_wp2
      go_ret
      obtain ⟨F, h⟩ := unhide HR
      exact ⟨_, F, rfl, h⟩
    · have e1 : (kind == 1) = false := by simp [k1]
      by_cases k2 : kind = 2
      · subst k2
        have HL2 : Hid ([k1L n, k2L n, k3L n, k4L n, k5L n].flatten = L) := by unfold Hid; rw [← unhide HL, script2_is]
        clear HL
        go_enter Try.func44, Try.ntmps44
        go_wp2
        obtain ⟨W0, HW⟩ : ∃ W0, Hid (w.alloc (.cells X 71) = W0) := ⟨_, rfl⟩
        rw [unhide HW] at HB0 HG0 hs0 ⊢
        clear HW
        refine wp_region_noPanic ?_
        refine wp_region_raw (fun W => W0.drew.grownBy W none) [true, true, false, true, true, true, false, false, true, true, false, false, true, true, false, true, true, false, false, false, false, false] (by kernel_rfl) (fun _ _ _ _ _ h => h) rfl (by kernel_rfl) (World.grownBy.refl _ _) ?_
        have HBD : Hid (W0.drew.heap[w.heap.size]? = some (.cells X 71 (0, 0))) := unhide HB0
        have HGD : Hid (w.grownBy W0.drew none) := grown_drew (unhide HG0)
        have hsD : W0.drew.heap.size = w.heap.size + 1 := hs0
        clear HB0 HG0 hs0
        generalize W0.drew = W1 at *
        refine heldF_take (v := .agg X) (Or.inl ⟨by rfl, ?_⟩) ?_
        · intro w' hSw
          exact exec_row 71 _ rfl w.heap.size rfl X _ (grown_atT hSw (unhide HBD) (by simp)) _ Try.underlying71 rfl (by rw [unhide HS]; kernel_rfl)
        try simp only [Act.put, List.setIfInBounds_toArray, List.set_cons_zero, List.set_cons_succ]
        refine heldF_take (v := .agg #[.slice none 0 0, .int .i64 0, .int .i64 0, .int .i64 0, .int .i64 1]) (Or.inl ⟨by rfl, ?_⟩) ?_
        · intro w' hSw
          go_simp
          try with_reducible rfl
        try simp only [Act.put, List.setIfInBounds_toArray, List.set_cons_zero, List.set_cons_succ]
        refine heldF_skip ?_
        refine heldF_take (v := .agg X) (Or.inl ⟨by rfl, ?_⟩) ?_
        · intro w' hSw
          exact exec_row 71 _ rfl w.heap.size rfl X _ (grown_atT hSw (unhide HBD) (by simp)) _ Try.underlying71 rfl (by rw [unhide HS]; kernel_rfl)
        try simp only [Act.put, List.setIfInBounds_toArray, List.set_cons_zero, List.set_cons_succ]
        refine heldF_take (v := .agg #[.slice none 0 0, .int .i64 1, .int .i64 5, .int .i64 0, .int .i64 2]) (Or.inl ⟨by rfl, ?_⟩) ?_
        · intro w' hSw
          go_simp
          try with_reducible rfl
        try simp only [Act.put, List.setIfInBounds_toArray, List.set_cons_zero, List.set_cons_succ]
        refine heldF_take (v := .agg #[.slice none 0 0, .int .i64 6, .int .i64 63, .int .i64 0, .int .i64 2]) (Or.inl ⟨by rfl, ?_⟩) ?_
        · intro w' hSw
          go_simp
          try with_reducible rfl
        try simp only [Act.put, List.setIfInBounds_toArray, List.set_cons_zero, List.set_cons_succ]
        refine heldF_skip ?_
        refine heldF_skip ?_
        refine heldF_take (v := .agg X) (Or.inl ⟨by rfl, ?_⟩) ?_
        · intro w' hSw
          exact exec_row 71 _ rfl w.heap.size rfl X _ (grown_atT hSw (unhide HBD) (by simp)) _ Try.underlying71 rfl (by rw [unhide HS]; kernel_rfl)
        try simp only [Act.put, List.setIfInBounds_toArray, List.set_cons_zero, List.set_cons_succ]
        refine heldF_take (v := .agg #[.slice none 0 0, .int .i64 1, .int .i64 63, .int .i64 2, .int .i64 1]) (Or.inl ⟨by rfl, ?_⟩) ?_
        · intro w' hSw
          go_simp
          try with_reducible rfl
        try simp only [Act.put, List.setIfInBounds_toArray, List.set_cons_zero, List.set_cons_succ]
        refine heldF_skip ?_
        refine heldF_skip ?_
        refine heldF_take (v := .agg X) (Or.inl ⟨by rfl, ?_⟩) ?_
        · intro w' hSw
          exact exec_row 71 _ rfl w.heap.size rfl X _ (grown_atT hSw (unhide HBD) (by simp)) _ Try.underlying71 rfl (by rw [unhide HS]; kernel_rfl)
        try simp only [Act.put, List.setIfInBounds_toArray, List.set_cons_zero, List.set_cons_succ]
        refine heldF_take (v := .agg #[.slice none 0 0, .int .i64 0, .int .i64 0, .int .i64 1, .int .i64 0]) (Or.inl ⟨by rfl, ?_⟩) ?_
        · intro w' hSw
          go_simp
          try with_reducible rfl
        try simp only [Act.put, List.setIfInBounds_toArray, List.set_cons_zero, List.set_cons_succ]
        refine heldF_skip ?_
        refine heldF_take (v := .agg X) (Or.inl ⟨by rfl, ?_⟩) ?_
        · intro w' hSw
          exact exec_row 71 _ rfl w.heap.size rfl X _ (grown_atT hSw (unhide HBD) (by simp)) _ Try.underlying71 rfl (by rw [unhide HS]; kernel_rfl)
        try simp only [Act.put, List.setIfInBounds_toArray, List.set_cons_zero, List.set_cons_succ]
        refine heldF_take (v := .agg #[.slice none 0 0, .int .i64 1, .int .i64 63, .int .i64 1, .int .i64 0]) (Or.inl ⟨by rfl, ?_⟩) ?_
        · intro w' hSw
          go_simp
          try with_reducible rfl
        try simp only [Act.put, List.setIfInBounds_toArray, List.set_cons_zero, List.set_cons_succ]
        refine heldF_skip ?_
        refine heldF_skip ?_
        refine heldF_skip ?_
        refine heldF_skip ?_
        refine heldF_skip ?_
        refine heldF_nil ?_
        have hs1 : w.heap.size + 1 ≤ W1.heap.size := by omega
        refine anyH_rely 8 [2, 6, 7, 10, 11, 14, 17, 18, 19, 20, 21] [21, 25, 26, 29, 30, 33, 36, 37, 38, 39, 4] factDeps (facts w.heap.size n L) rfl rfl (by kernel_rfl) (by decide) (World.grownBy.refl _ _) (facts_keep _ _ _) (facts_dep _ _ _) ?_ ?_
        · intro k i d f o hk1 hk2 hk3 hk4 vs W hvl hSW hpre K hK
          have hSz := hSW.size
          have HP := hide hpre
          have HSW := hide hSW
          clear hpre hSW
          match vs, hvl with
          | [v0, v1, v2, v3, v4, v5, v6, v7, v8, v9, v10], _ =>
            have hk : k < 11 := (List.getElem?_eq_some_iff.1 hk1).1
            have hc : k = 0 ∨ k = 1 ∨ k = 2 ∨ k = 3 ∨ k = 4 ∨ k = 5 ∨ k = 6 ∨ k = 7 ∨ k = 8 ∨ k = 9 ∨ k = 10 := by omega
            rcases hc with rfl | rfl | rfl | rfl | rfl | rfl | rfl | rfl | rfl | rfl | rfl <;> cases hk1 <;> cases hk2 <;> cases hk3 <;> cases hk4
            · simp only [putAll, Act.put, List.setIfInBounds_toArray, List.set_cons_zero, List.set_cons_succ] at hK ⊢
              go_simp
              refine (together X n (unhide HX) 0 0 0 1 W).mono ?_
              rintro e w2 ⟨u, F, rfl, o2, n2, l2, g2⟩
              refine hK.out _ _ (grown_trans (unhide HSW) g2) g2 ?_
              exact (OwB.nil w.heap.size W).push g2 o2 n2 l2 (by omega)
            · simp only [putAll, Act.put, List.setIfInBounds_toArray, List.set_cons_zero, List.set_cons_succ] at hK ⊢
              go_simp
              refine hK.out _ _ (grown_trans (unhide HSW) (World.grownBy_alloc _ _ _)) (World.grownBy_alloc _ _ _) ?_
              exact laid2 W 1 5 0 2 6 63 0 2
            · simp only [putAll, Act.put, List.setIfInBounds_toArray, List.set_cons_zero, List.set_cons_succ] at hK ⊢
              go_simp
              refine (apart X n (unhide HX) v1 [scL 1 5 0 2, scL 6 63 0 2] W (unhide HP 1 _ _ rfl rfl (by kernel_rfl)) (by decide) _ rfl).mono ?_
              rintro e w2 ⟨u, F, rfl, o2, n2, l2, g2⟩
              refine hK.out _ _ (grown_trans (unhide HSW) g2) g2 ?_
              exact (show OwB _ _ _ _ from unhide HP 0 _ _ rfl rfl (by kernel_rfl)).push g2 o2 n2 l2 (by omega)
            · simp only [putAll, Act.put, List.setIfInBounds_toArray, List.set_cons_zero, List.set_cons_succ] at hK ⊢
              go_simp
              refine hK.out _ _ (grown_trans (unhide HSW) (World.grownBy_alloc _ _ _)) (World.grownBy_alloc _ _ _) ?_
              exact laid1 W 1 63 2 1
            · simp only [putAll, Act.put, List.setIfInBounds_toArray, List.set_cons_zero, List.set_cons_succ] at hK ⊢
              go_simp
              refine (apart X n (unhide HX) v3 [scL 1 63 2 1] W (unhide HP 3 _ _ rfl rfl (by kernel_rfl)) (by decide) _ rfl).mono ?_
              rintro e w2 ⟨u, F, rfl, o2, n2, l2, g2⟩
              refine hK.out _ _ (grown_trans (unhide HSW) g2) g2 ?_
              exact (show OwB _ _ _ _ from unhide HP 2 _ _ rfl rfl (by kernel_rfl)).push g2 o2 n2 l2 (by omega)
            · simp only [putAll, Act.put, List.setIfInBounds_toArray, List.set_cons_zero, List.set_cons_succ] at hK ⊢
              go_simp
              refine (together X n (unhide HX) 0 0 1 0 W).mono ?_
              rintro e w2 ⟨u, F, rfl, o2, n2, l2, g2⟩
              refine hK.out _ _ (grown_trans (unhide HSW) g2) g2 ?_
              exact (show OwB _ _ _ _ from unhide HP 4 _ _ rfl rfl (by kernel_rfl)).push g2 o2 n2 l2 (by omega)
            · simp only [putAll, Act.put, List.setIfInBounds_toArray, List.set_cons_zero, List.set_cons_succ] at hK ⊢
              go_simp
              refine hK.out _ _ (grown_trans (unhide HSW) (World.grownBy_alloc _ _ _)) (World.grownBy_alloc _ _ _) ?_
              exact laid1 W 1 63 1 0
            · simp only [putAll, Act.put, List.setIfInBounds_toArray, List.set_cons_zero, List.set_cons_succ] at hK ⊢
              go_simp
              refine (apart X n (unhide HX) v6 [scL 1 63 1 0] W (unhide HP 6 _ _ rfl rfl (by kernel_rfl)) (by decide) _ rfl).mono ?_
              rintro e w2 ⟨u, F, rfl, o2, n2, l2, g2⟩
              refine hK.out _ _ (grown_trans (unhide HSW) g2) g2 ?_
              exact (show OwB _ _ _ _ from unhide HP 5 _ _ rfl rfl (by kernel_rfl)).push g2 o2 n2 l2 (by omega)
            · have ho : OwB w.heap.size W [v0, v2, v4, v5, v7] [k1L n, k2L n, k3L n, k4L n, k5L n] := unhide HP 7 _ _ rfl rfl (by kernel_rfl)
              have HO := hide ho
              obtain ⟨F, ⟨_, _, o1, ⟨_, _, o2, ⟨_, _, o3, ⟨_, _, o4, ⟨_, _, o5, _, _⟩, _⟩, _⟩, _⟩, _⟩, _⟩ := ho
              obtain ⟨a1, c1, e1⟩ := o1.form
              obtain ⟨a2, c2, e2⟩ := o2.form
              obtain ⟨a3, c3, e3⟩ := o3.form
              obtain ⟨a4, c4, e4⟩ := o4.form
              obtain ⟨a5, c5, e5⟩ := o5.form
              subst e1 e2 e3 e4 e5
              clear o1 o2 o3 o4 o5
              simp only [putAll, Act.put, List.setIfInBounds_toArray, List.set_cons_zero, List.set_cons_succ] at hK ⊢
              go_simp
              refine hK.out _ _ (grown_trans (unhide HSW) (World.grownBy_alloc _ _ _)) (World.grownBy_alloc _ _ _) ?_
              exact ⟨⟨W.heap.size, rfl, heap_alloc_new W _⟩, OwB.keep (unhide HO) (World.grownBy_alloc _ _ _)⟩
            · obtain ⟨⟨g, eg, hg⟩, ho⟩ := unhide HP 8 _ _ rfl rfl (by kernel_rfl)
              have eg' : v8 = .slice (some ⟨g, 0, none⟩) 5 5 := eg
              subst eg'
              simp only [putAll, Act.put, List.setIfInBounds_toArray, List.set_cons_zero, List.set_cons_succ] at hK ⊢
              go_simp
              refine (OwB.concat ho ?_ ?_ (by show 5 ≤ 100; omega) (by show 0 < 5; omega) (by omega) g ?_).mono ?_
              · intro L' hL'
                simp only [List.mem_cons, List.not_mem_nil, or_false] at hL'
                rcases hL' with rfl | rfl | rfl | rfl | rfl <;> simp only [k1L, k2L, k3L, k4L, k5L, each_len, List.length_cons, List.length_nil] <;> omega
              · intro L' hL'
                simp only [List.mem_cons, List.not_mem_nil, or_false] at hL'
                rcases hL' with rfl | rfl | rfl | rfl | rfl <;> simp only [k1L, k2L, k3L, k4L, k5L, each_len, List.length_cons, List.length_nil] <;> omega
              · intro i hi
                have hi5 : i < 5 := hi
                have hc : i = 0 ∨ i = 1 ∨ i = 2 ∨ i = 3 ∨ i = 4 := by omega
                rw [cell_of_row W g i _ _ (0, 0) hg]
                rcases hc with rfl | rfl | rfl | rfl | rfl <;> rfl
              · rintro e w2 ⟨u, F, rfl, o2, n2, l2, g2⟩
                rw [unhide HL2] at o2
                refine hK.out _ _ (grown_trans (unhide HSW) g2) g2 ?_
                exact ⟨F, o2, n2, l2⟩
            · simp only [putAll, Act.put, List.setIfInBounds_toArray, List.set_cons_zero, List.set_cons_succ] at hK ⊢
              go_simp
              refine hK.out _ _ (unhide HSW) (World.grownBy.refl _ _) ?_
              exact unhide HP 9 _ _ rfl rfl (by kernel_rfl)
        · intro vs W hvl hSW hall
          have HR : Hid (∃ F, OwSs W (vs.getD 10 undef) L F ∧ F.Nodup ∧ (∀ g ∈ F, w.heap.size ≤ g)) := hall 10 _ rfl
          have HGW := hide (grown_trans (unhide HGD) hSW)
          match vs, hvl with
          | [v0, v1, v2, v3, v4, v5, v6, v7, v8, v9, v10], _ =>
            simp only [putAll, Act.put, List.setIfInBounds_toArray, List.set_cons_zero, List.set_cons_succ]
            refine NoPanic.normal ?_
            clear hall hSW HBD hsD hs1
            go_wp2
            go_ret
            obtain ⟨F, h⟩ := unhide HR
            exact ⟨_, F, rfl, h.1, h.2.1, h.2.2, unhide HGW⟩
      · have e2 : (kind == 2) = false := by simp [k2]
        have e : L = [] := by rw [← unhide HL]; unfold scriptG; rw [if_pos rfl, if_neg k0, if_neg k1, if_neg k2]
        subst e
        go_enter Try.func44, Try.ntmps44
        go_wp2
        go_ret
        exact ⟨_, [], rfl, OwG.nil _ _ _ _, by simp, (fun g hg => by cases hg), unhide HG0⟩

end Go.Proofs.Ytnjcmlmgjoaeeaa
