/-
  Rows of structs that have rows of their own: what is read of them, and who owns them.
-/
import Derived.Test.YtkefpjbdkhifhaaTree
namespace Go.Proofs.Ytkefpjbdkhifhaa
open Go.RowKit

/-- A list of blocks in which one part is another one. -/
theorem parts_set {B : List Nat} {Fs : List (List Nat)} (h : (B ++ Fs.flatten).Nodup) {i : Nat} (hi : i < Fs.length) {Fi : List Nat} (hn : Fi.Nodup) (hd : ∀ x ∈ Fi, x ∈ Fs.getD i [] ∨ x ∉ B ++ Fs.flatten) :
    (B ++ (Fs.set i Fi).flatten).Nodup ∧ ∀ x ∈ B ++ (Fs.set i Fi).flatten, x ∈ B ++ Fs.flatten ∨ x ∈ Fi := by
  have hp := List.nodup_append.1 h
  have hmem : ∀ x, x ∈ (Fs.set i Fi).flatten → x ∈ Fs.flatten ∨ x ∈ Fi := by
    intro x hx
    obtain ⟨l, hl, hxl⟩ := List.mem_flatten.1 hx
    rcases List.mem_or_eq_of_mem_set hl with hl | rfl
    · exact .inl (List.mem_flatten.2 ⟨l, hl, hxl⟩)
    · exact .inr hxl
  have hdj : ∀ j, j < Fs.length → j ≠ i → ∀ x ∈ Fi, x ∉ Fs.getD j [] := fun j hj hji x hx hx2 => by
    rcases hd x hx with h5 | h5
    · exact flat_apart hp.2.1 hi hj (fun e => hji e.symm) x h5 hx2
    · exact h5 (by simp [flat_in hj x hx2])
  refine ⟨List.nodup_append.2 ⟨hp.1, List.pairwise_flatten.2 ⟨fun l hl => ?_, ?_⟩, fun a ha b hb => ?_⟩, fun x hx => ?_⟩
  · rcases List.mem_or_eq_of_mem_set hl with hl | rfl
    · exact (List.pairwise_flatten.1 hp.2.1).1 l hl
    · exact hn
  · rw [List.pairwise_iff_getElem]
    intro p q hp1 hq1 hpq x hx y hy
    rw [List.length_set] at hp1 hq1
    rintro rfl
    have hin : ∀ r (hr : r < Fs.length), x ∈ (Fs.set i Fi)[r]'(by simpa using hr) → (r = i ∧ x ∈ Fi) ∨ (r ≠ i ∧ x ∈ Fs.getD r []) := by
      intro r hr hxr
      by_cases e9 : i = r
      · subst e9; simp at hxr; exact .inl ⟨rfl, hxr⟩
      · rw [List.getElem_set_ne e9] at hxr
        exact .inr ⟨fun e => e9 e.symm, by simpa [hr] using hxr⟩
    rcases hin p hp1 hx with ⟨e1, x1⟩ | ⟨e1, x1⟩ <;> rcases hin q hq1 hy with ⟨e2, x2⟩ | ⟨e2, x2⟩
    · omega
    · exact hdj q hq1 e2 x x1 x2
    · exact hdj p hp1 e1 x x2 x1
    · exact flat_apart hp.2.1 hp1 hq1 (by omega) x x1 x2
  · rintro rfl
    rcases hmem a hb with h5 | h5
    · exact hp.2.2 a ha a h5 rfl
    · rcases hd a h5 with h6 | h6
      · exact hp.2.2 a ha a (flat_in hi a h6) rfl
      · exact h6 (by simp [ha])
  · rcases List.mem_append.1 hx with hx | hx
    · exact .inl (by simp [hx])
    · rcases hmem x hx with h5 | h5
      · exact .inl (by simp [h5])
      · exact .inr h5

/-- An element of a row that is owned becomes another value, which may reach what the old one reached. -/
theorem OwR.swap {α : Type} {e : TypeId} {P : World → Value → α → List Nat → Prop} {w : World} {v : Value} {L : List α} {F : List Nat} (hP : OwOk P) (h : OwR e P w v L F) (hF : F.Nodup) (i : Nat) (hi : i < L.length) : ∃ g cap u Fi, v = .slice (some ⟨g, 0, none⟩) L.length cap ∧ g ∈ F ∧ g ∉ Fi ∧ w.cell? ⟨g, i, none⟩ = some u ∧ (∀ w1, Wr Fi w w1 → w1.frozen? ⟨g, i, none⟩ = false ∧ w1.cell? ⟨g, i, none⟩ = some u) ∧ P w u L[i] Fi ∧ Fi.Nodup ∧ (∀ x ∈ Fi, x ∈ F) ∧
    ∀ w1 u' a' Fi', Wr Fi w w1 → P w1 u' a' Fi' → Fi'.Nodup → (∀ x ∈ Fi', x ∈ Fi ∨ x ∉ F) → ∃ F', OwR e P (w1.setCell ⟨g, i, none⟩ u') v (L.set i a') F' ∧ F'.Nodup ∧ ∀ x ∈ F', x ∈ F ∨ x ∈ Fi' := by
  obtain ⟨us, Fs, h1, h2, h3, h4, rfl⟩ := h
  obtain ⟨ao, cap, rfl⟩ := own_form h3
  obtain ⟨g, rfl, _, _⟩ := own_at h3 (by omega)
  have hn := List.nodup_append.1 hF
  have hgb : g ∈ blk (Value.slice (some ⟨g, 0, none⟩) L.length cap) := mem_blk.2 rfl
  have hgi : ∀ j, j < L.length → g ∉ Fs.getD j [] := fun j hj hx => hn.2.2 g hgb g (flat_in (by omega) g hx) rfl
  have hil : i < Fs.length := by omega
  have hown : ∀ w1, Wr (Fs.getD i []) w w1 → w1.ownsRow 0 e 1 (.slice (some ⟨g, 0, none⟩) L.length cap) L.length us := fun w1 hw => own_sameAt h3 (fun x hx => hw.block x (h3.lt x hx).2 (by have e9 : g = x := Option.some.inj hx; subst e9; exact hgi i hi))
  have hce : ∀ w1, Wr (Fs.getD i []) w w1 → w1.cell? ⟨g, i, none⟩ = some (us.getD i (.slice none 0 0)) := fun w1 hw => by
    rw [(hown w1 hw).cellAt i (by omega)]
    simp [show i < us.length by omega]
  refine ⟨g, cap, us.getD i (.slice none 0 0), Fs.getD i [], rfl, by simp [hgb], hgi i hi, hce w (Wr.refl _ _), fun w1 hw => ⟨(hown w1 hw).frozenAt i, hce w1 hw⟩, h4 i hi, ?_, fun x hx => by simp [flat_in hil x hx], fun w1 u' a' Fi' hw hp hn' hd => ?_⟩
  · exact (List.pairwise_flatten.1 hn.2.1).1 (Fs.getD i []) (by rw [List.getD_eq_getElem?_getD, List.getElem?_eq_getElem hil]; simp)
  · obtain ⟨p1, p2⟩ := parts_set hF hil hn' hd
    have st := ((hown w1 hw).stored i u')
    have hgF : g ∉ Fi' := fun hx => by
      rcases hd g hx with h5 | h5
      · exact hgi i hi h5
      · exact h5 (by simp [hgb])
    have hw2 : Wr [g] w1 (w1.setCell ⟨g, i, none⟩ u') := Wr.ofRow st.2 (fun x hx => by have := Option.some.inj hx; simp [this])
    refine ⟨_, ⟨us.set i u', Fs.set i Fi', by simp [h1], by simp [h2], by rw [List.length_set]; exact st.1, fun j hj => ?_, rfl⟩, p1, p2⟩
    rw [List.length_set] at hj
    by_cases e9 : i = j
    · subst e9
      have eu : (us.set i u').getD i (.slice none 0 0) = u' := by simp [show i < us.length by omega]
      have ef : (Fs.set i Fi').getD i [] = Fi' := by simp [hil]
      rw [eu, ef]
      simp only [List.getElem_set_self]
      exact hP.wr hp hw2 (fun x hx e => by simp at e; subst e; exact hgF hx)
    · have eu : (us.set i u').getD j (.slice none 0 0) = us.getD j (.slice none 0 0) := by simp [e9]
      have ef : (Fs.set i Fi').getD j [] = Fs.getD j [] := by simp [e9]
      rw [eu, ef, List.getElem_set_ne e9]
      exact hP.wr (hP.wr (h4 j hj) hw (flat_apart hn.2.1 (by omega) (by omega) (fun e => e9 e.symm))) hw2 (fun x hx e => by simp at e; subst e; exact hgi j hj hx)

/-- What is read of a row of structs: each has sz cells. -/
def RdG {α : Type} (sz : Nat) (P : World → (Nat → Value) → α → Prop) (w : World) (v : Value) (L : List α) : Prop :=
  ∃ ao cap, v = .slice ao L.length cap ∧ ∀ i (h : i < L.length), ∃ b off c, ao = some ⟨b, off, none⟩ ∧ (∀ j, j < sz → w.cell? ⟨b, off + i * sz + j, none⟩ = some (c j)) ∧ P w c L[i]
def StG {α : Type} (P : World → (Nat → Value) → α → Prop) : Prop := ∀ w w' c a, P w c a → w.grownBy w' none → P w' c a
theorem RdG.st {α : Type} {sz : Nat} {P : World → (Nat → Value) → α → Prop} (hP : StG P) : StR (RdG sz P) := fun _ _ _ _ ⟨ao, cap, e, h⟩ g =>
  ⟨ao, cap, e, fun i hi => by obtain ⟨b, off, c, e1, h1, h2⟩ := h i hi; exact ⟨b, off, c, e1, fun j hj => g.cell (h1 j hj) (by simp), hP _ _ _ _ h2 g⟩⟩

/-- Who owns a row of structs. -/
def OwG {α : Type} (e : TypeId) (sz : Nat) (P : World → (Nat → Value) → α → List Nat → Prop) (w : World) (v : Value) (L : List α) (F : List Nat) : Prop :=
  ∃ (U : Nat → Nat → Value) (Fs : List (List Nat)), Fs.length = L.length ∧ w.ownsRow 0 e sz v L.length (rowsK L.length sz U) ∧ (∀ i (h : i < L.length), P w (U i) L[i] (Fs.getD i [])) ∧ F = blk v ++ Fs.flatten
structure OkG {α : Type} (P : World → (Nat → Value) → α → List Nat → Prop) : Prop where
  same : ∀ w w' c a F, P w c a F → (∀ g ∈ F, w'.heap[g]? = w.heap[g]?) → P w' c a F
  lt : ∀ w c a F, P w c a F → ∀ g ∈ F, g < w.heap.size

section
variable {α : Type} {e : TypeId} {sz : Nat} {P : World → (Nat → Value) → α → List Nat → Prop} {w : World} {v : Value} {L : List α} {F : List Nat}
theorem OkG.wr (hP : OkG P) {w w' : World} {c : Nat → Value} {a : α} {F G : List Nat} (h : P w c a F) (g : Wr G w w') (hd : ∀ x ∈ F, x ∉ G) : P w' c a F :=
  hP.same w w' c a F h (fun x hx => g.block x (hP.lt w c a F h x hx) (hd x hx))
theorem OkG.keep (hP : OkG P) {w w' : World} {c : Nat → Value} {a : α} {F : List Nat} (h : P w c a F) (g : w.grownBy w' none) : P w' c a F :=
  hP.wr h (Wr.ofNone (F := []) g) (fun x _ => by simp)
theorem OwG.ok (hP : OkG P) : OwOk (OwG e sz P) := by
  refine ⟨?_, ?_, ?_⟩
  · rintro w w' u a F ⟨U, Fs, h2, h3, h4, rfl⟩ hs
    refine ⟨U, Fs, h2, own_sameAt h3 (fun g hg => hs g (by simp [mem_blk.2 hg])), fun i hi => ?_, rfl⟩
    exact hP.same w w' _ _ _ (h4 i hi) (fun g hg => hs g (by have := flat_in (by omega) g hg; simp [this]))
  · rintro w u a F ⟨U, Fs, h2, h3, h4, rfl⟩ g hg
    rcases List.mem_append.1 hg with hg | hg
    · exact (h3.lt g (mem_blk.1 hg)).2
    · obtain ⟨l, hl, hgl⟩ := List.mem_flatten.1 hg
      obtain ⟨i, hi, rfl⟩ := List.mem_iff_getElem.1 hl
      exact hP.lt w _ _ _ (h4 i (by omega)) g (by simpa [hi] using hgl)
  · rintro w u a F ⟨U, Fs, h2, h3, h4, rfl⟩
    obtain ⟨ao, cap, rfl⟩ := own_form h3
    exact ⟨_, _, _, rfl⟩
theorem OwG.form (h : OwG e sz P w v L F) : ∃ ao cap, v = .slice ao L.length cap := by
  obtain ⟨U, Fs, _, h3, _⟩ := h
  exact own_form h3
theorem OwG.nil (e : TypeId) (sz : Nat) (P : World → (Nat → Value) → α → List Nat → Prop) (w : World) : OwG e sz P w (.slice none 0 0) [] [] := ⟨fun _ _ => .slice none 0 0, [], rfl, ⟨by rw [rowsK_len], .inl ⟨rfl, rfl⟩⟩, fun i hi => absurd hi (by simp), rfl⟩
theorem cellG {g cap n : Nat} {U : Nat → Nat → Value} {base : Nat} (h : w.ownsRow base e sz (.slice (some ⟨g, 0, none⟩) n cap) n (rowsK n sz U)) (i j : Nat) (hi : i < n) (hj : j < sz) : w.cell? ⟨g, i * sz + j, none⟩ = some (U i j) := by
  have hlt : i * sz + j < n * sz := Nat.lt_of_lt_of_le (Nat.add_lt_add_left hj _) (by rw [← Nat.succ_mul]; exact Nat.mul_le_mul_right _ hi)
  rw [h.cellAt _ hlt]
  exact rowsK_get n sz U i j hi hj
theorem OwG.rd {Q : World → (Nat → Value) → α → Prop} (hPQ : ∀ w c a F, P w c a F → Q w c a) (h : OwG e sz P w v L F) : RdG sz Q w v L := by
  obtain ⟨U, Fs, h2, h3, h4, rfl⟩ := h
  obtain ⟨ao, cap, rfl⟩ := own_form h3
  refine ⟨ao, cap, rfl, fun i hi => ?_⟩
  obtain ⟨g, rfl, _, _⟩ := own_at h3 (by omega)
  exact ⟨g, 0, U i, rfl, fun j hj => by rw [Nat.zero_add]; exact cellG h3 i j hi hj, hPQ _ _ _ _ (h4 i hi)⟩
/-- An element, and what becomes of the row when what the element reaches becomes another thing. -/
theorem OwG.turn (hP : OkG P) (h : OwG e sz P w v L F) (hF : F.Nodup) (i : Nat) (hi : i < L.length) : ∃ g cap c Fi, v = .slice (some ⟨g, 0, none⟩) L.length cap ∧ g ∈ F ∧ g ∉ Fi ∧ (∀ j, j < sz → w.cell? ⟨g, i * sz + j, none⟩ = some (c j)) ∧ (∀ j, w.frozen? ⟨g, j, none⟩ = false) ∧ P w c L[i] Fi ∧ Fi.Nodup ∧ (∀ x ∈ Fi, x ∈ F) ∧
    (∀ w' a' Fi', Wr Fi w w' → P w' c a' Fi' → Fi'.Nodup → (∀ x ∈ Fi', x ∈ Fi ∨ x ∉ F) → ∃ F', OwG e sz P w' v (L.set i a') F' ∧ F'.Nodup ∧ ∀ x ∈ F', x ∈ F ∨ x ∈ Fi') ∧
    (∀ w' (c' : Nat → Value) a' Fi', Wr (g :: Fi) w w' → (∀ U, w.ownsRow 0 e sz v L.length (rowsK L.length sz U) → w'.ownsRow 0 e sz v L.length (rowsK L.length sz (fun p q => if p = i then c' q else U p q))) → P w' c' a' Fi' → Fi'.Nodup → (∀ x ∈ Fi', x ∈ Fi ∨ x ∉ F) → ∃ F', OwG e sz P w' v (L.set i a') F' ∧ F'.Nodup ∧ ∀ x ∈ F', x ∈ F ∨ x ∈ Fi') := by
  obtain ⟨U, Fs, h2, h3, h4, rfl⟩ := h
  obtain ⟨ao, cap, rfl⟩ := own_form h3
  obtain ⟨g, rfl, _, _⟩ := own_at h3 (by omega)
  have hn := List.nodup_append.1 hF
  have hgb : g ∈ blk (Value.slice (some ⟨g, 0, none⟩) L.length cap) := mem_blk.2 rfl
  have hgi : ∀ j, j < L.length → g ∉ Fs.getD j [] := fun j hj hx => hn.2.2 g hgb g (flat_in (by omega) g hx) rfl
  have hil : i < Fs.length := by omega
  refine ⟨g, cap, U i, Fs.getD i [], rfl, by simp [hgb], hgi i hi, fun j hj => cellG h3 i j hi hj, fun j => h3.frozenAt j, h4 i hi, ?_, fun x hx => by simp [flat_in hil x hx], fun w' a' Fi' hw hp hn' hd => ?_, fun w' c' a' Fi' hw ho hp hn' hd => ?_⟩
  · exact (List.pairwise_flatten.1 hn.2.1).1 (Fs.getD i []) (by rw [List.getD_eq_getElem?_getD, List.getElem?_eq_getElem hil]; simp)
  · obtain ⟨p1, p2⟩ := parts_set hF hil hn' hd
    refine ⟨_, ⟨U, Fs.set i Fi', by simp [h2], ?_, fun j hj => ?_, rfl⟩, p1, p2⟩
    · rw [List.length_set]
      exact own_sameAt h3 (fun x hx => hw.block x (h3.lt x hx).2 (by have e9 : g = x := Option.some.inj hx; subst e9; exact hgi i hi))
    · rw [List.length_set] at hj
      by_cases e9 : i = j
      · subst e9
        have ef : (Fs.set i Fi').getD i [] = Fi' := by simp [hil]
        rw [ef]
        simp only [List.getElem_set_self]
        exact hp
      · have ef : (Fs.set i Fi').getD j [] = Fs.getD j [] := by simp [e9]
        rw [ef, List.getElem_set_ne e9]
        exact hP.wr (h4 j hj) hw (flat_apart hn.2.1 (by omega) (by omega) (fun e => e9 e.symm))
  · obtain ⟨p1, p2⟩ := parts_set hF hil hn' hd
    refine ⟨_, ⟨_, Fs.set i Fi', by simp [h2], by rw [List.length_set]; exact ho U h3, fun j hj => ?_, rfl⟩, p1, p2⟩
    rw [List.length_set] at hj
    by_cases e9 : i = j
    · subst e9
      have ef : (Fs.set i Fi').getD i [] = Fi' := by simp [hil]
      rw [ef]
      simp only [List.getElem_set_self, if_true]
      exact hp
    · have ef : (Fs.set i Fi').getD j [] = Fs.getD j [] := by simp [e9]
      rw [ef, List.getElem_set_ne e9]
      have ec : (fun q => if j = i then c' q else U j q) = U j := by funext q; rw [if_neg (fun e => e9 e.symm)]
      rw [ec]
      exact hP.wr (h4 j hj) hw (fun x hx hy => by
        rcases List.mem_cons.1 hy with rfl | hy
        · exact hgi j hj hx
        · exact flat_apart hn.2.1 (by omega) (by omega) (fun e => e9 e.symm) x hx hy)
/-- An element, and what becomes of the row when it is written anew in its own blocks. -/
theorem OwG.at (hP : OkG P) (h : OwG e sz P w v L F) (hF : F.Nodup) (i : Nat) (hi : i < L.length) : ∃ g cap c Fi, v = .slice (some ⟨g, 0, none⟩) L.length cap ∧ g ∈ F ∧ g ∉ Fi ∧ (∀ w1, Wr Fi w w1 → (∀ j, j < sz → w1.cell? ⟨g, i * sz + j, none⟩ = some (c j)) ∧ (∀ j, w1.frozen? ⟨g, j, none⟩ = false)) ∧ P w c L[i] Fi ∧ Fi.Nodup ∧ (∀ x ∈ Fi, x ∈ F) ∧
    ∀ w1 w' (c' : Nat → Value) a', Wr Fi w w1 → Wr [g] w1 w' → (∀ U, w1.ownsRow 0 e sz v L.length (rowsK L.length sz U) → (∀ j, j < sz → U i j = c j) → w'.ownsRow 0 e sz v L.length (rowsK L.length sz (fun p q => if p = i then c' q else U p q))) → P w' c' a' Fi → OwG e sz P w' v (L.set i a') F := by
  obtain ⟨U, Fs, h2, h3, h4, rfl⟩ := h
  obtain ⟨ao, cap, rfl⟩ := own_form h3
  obtain ⟨g, rfl, _, _⟩ := own_at h3 (by omega)
  have hn := List.nodup_append.1 hF
  have hgb : g ∈ blk (Value.slice (some ⟨g, 0, none⟩) L.length cap) := mem_blk.2 rfl
  have hgi : ∀ j, j < L.length → g ∉ Fs.getD j [] := fun j hj hx => hn.2.2 g hgb g (flat_in (by omega) g hx) rfl
  have hil : i < Fs.length := by omega
  have hown : ∀ w1, Wr (Fs.getD i []) w w1 → w1.ownsRow 0 e sz (.slice (some ⟨g, 0, none⟩) L.length cap) L.length (rowsK L.length sz U) := fun w1 hw => own_sameAt h3 (fun x hx => hw.block x (h3.lt x hx).2 (by have e9 : g = x := Option.some.inj hx; subst e9; exact hgi i hi))
  refine ⟨g, cap, U i, Fs.getD i [], rfl, by simp [hgb], hgi i hi, fun w1 hw => ⟨fun j hj => cellG (hown w1 hw) i j hi hj, fun j => (hown w1 hw).frozenAt j⟩, h4 i hi, ?_, fun x hx => by simp [flat_in hil x hx], fun w1 w' c' a' hw hw2 ho hp => ?_⟩
  · exact (List.pairwise_flatten.1 hn.2.1).1 (Fs.getD i []) (by rw [List.getD_eq_getElem?_getD, List.getElem?_eq_getElem hil]; simp)
  · refine ⟨_, Fs, by simp [h2], by rw [List.length_set]; exact ho U (hown w1 hw) (fun _ _ => rfl), fun j hj => ?_, rfl⟩
    rw [List.length_set] at hj
    by_cases e9 : i = j
    · subst e9
      simp only [List.getElem_set_self, if_true]
      exact hp
    · rw [List.getElem_set_ne e9]
      have ec : (fun q => if j = i then c' q else U j q) = U j := by funext q; rw [if_neg (fun e => e9 e.symm)]
      rw [ec]
      exact hP.wr (hP.wr (h4 j hj) hw (flat_apart hn.2.1 (by omega) (by omega) (fun e => e9 e.symm))) hw2 (fun x hx hy => by simp at hy; subst hy; exact hgi j hj hx)
/-- A new row, of structs that reach nothing. -/
theorem OwG.made {z : α} {zc : Nat → Value} (hz : ∀ w, P w zc z []) {base n : Nat} (h : w.ownsRow base e sz v n (rowsK n sz (fun _ j => zc j))) : OwG e sz P w v (List.replicate n z) (blk v) := by
  refine ⟨fun _ j => zc j, List.replicate n [], by simp, by rw [List.length_replicate]; exact own_base h (Nat.zero_le _), fun i hi => ?_, ?_⟩
  · rw [List.length_replicate] at hi
    have e2 : (List.replicate n ([] : List Nat)).getD i [] = [] := by simp [hi]
    rw [e2, List.getElem_replicate]
    exact hz w
  · have : (List.replicate n ([] : List Nat)).flatten = [] := by simp
    rw [this, List.append_nil]
end

end Go.Proofs.Ytkefpjbdkhifhaa
