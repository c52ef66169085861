/-
  TreeG, TreeGA, Between, LevSpec, CoefPure, FrameSpec, GeoSpec, RegionInv, GeoRegion, GeoImpl2, GeoImpl3, GeoImpl4.
-/
import Derived.Test.YtibgldanmhckiaaRows
import Derived.Maps.AppendAt
import Derived.Deep.AppendLies
import Derived.Deep.RegionHeld3
import Derived.Orders
import Derived.RegionTactic
import Derived.Deep.RegionHeld
import Derived.Test.YtibgldanmhckiaaMWc

namespace Go.Proofs.Ytibgldanmhckiaa
open Go.RowKit

/-- A list of blocks in which one part is another one. -/
theorem parts_set {B : List Nat} {Fs : List (List Nat)} (h : (B ++ Fs.flatten).Nodup) {i : Nat} (hi : i < Fs.length) {Fi : List Nat} (hn : Fi.Nodup) (hd : ∀ x ∈ Fi, x ∈ Fs.getD i [] ∨ x ∉ B ++ Fs.flatten) :
    (B ++ (Fs.set i Fi).flatten).Nodup ∧ ∀ x ∈ B ++ (Fs.set i Fi).flatten, x ∈ B ++ Fs.flatten ∨ x ∈ Fi := by
  have hp := List.nodup_append.1 h
  have hmem : ∀ x, x ∈ (Fs.set i Fi).flatten → x ∈ Fs.flatten ∨ x ∈ Fi := by
    intro x hx
    obtain ⟨l, hl, hxl⟩ := List.mem_flatten.1 hx
    rcases List.mem_or_eq_of_mem_set hl with hl | rfl
    · exact .inl (List.mem_flatten.2 ⟨l, hl, hxl⟩)
    · exact .inr hxl
  have hdj : ∀ j, j < Fs.length → j ≠ i → ∀ x ∈ Fi, x ∉ Fs.getD j [] := fun j hj hji x hx hx2 => by
    rcases hd x hx with h5 | h5
    · exact flat_apart hp.2.1 hi hj (fun e => hji e.symm) x h5 hx2
    · exact h5 (by simp [flat_in hj x hx2])
  refine ⟨List.nodup_append.2 ⟨hp.1, List.pairwise_flatten.2 ⟨fun l hl => ?_, ?_⟩, fun a ha b hb => ?_⟩, fun x hx => ?_⟩
  · rcases List.mem_or_eq_of_mem_set hl with hl | rfl
    · exact (List.pairwise_flatten.1 hp.2.1).1 l hl
    · exact hn
  · rw [List.pairwise_iff_getElem]
    intro p q hp1 hq1 hpq x hx y hy
    rw [List.length_set] at hp1 hq1
    rintro rfl
    have hin : ∀ r (hr : r < Fs.length), x ∈ (Fs.set i Fi)[r]'(by simpa using hr) → (r = i ∧ x ∈ Fi) ∨ (r ≠ i ∧ x ∈ Fs.getD r []) := by
      intro r hr hxr
      by_cases e9 : i = r
      · subst e9; simp at hxr; exact .inl ⟨rfl, hxr⟩
      · rw [List.getElem_set_ne e9] at hxr
        exact .inr ⟨fun e => e9 e.symm, by simpa [hr] using hxr⟩
    rcases hin p hp1 hx with ⟨e1, x1⟩ | ⟨e1, x1⟩ <;> rcases hin q hq1 hy with ⟨e2, x2⟩ | ⟨e2, x2⟩
    · omega
    · exact hdj q hq1 e2 x x1 x2
    · exact hdj p hp1 e1 x x2 x1
    · exact flat_apart hp.2.1 hp1 hq1 (by omega) x x1 x2
  · rintro rfl
    rcases hmem a hb with h5 | h5
    · exact hp.2.2 a ha a h5 rfl
    · rcases hd a h5 with h6 | h6
      · exact hp.2.2 a ha a (flat_in hi a h6) rfl
      · exact h6 (by simp [ha])
  · rcases List.mem_append.1 hx with hx | hx
    · exact .inl (by simp [hx])
    · rcases hmem x hx with h5 | h5
      · exact .inl (by simp [h5])
      · exact .inr h5

/-- An element of a row that is owned becomes another value, which may reach what the old one reached. -/
theorem OwR.swap {α : Type} {e : TypeId} {P : World → Value → α → List Nat → Prop} {w : World} {v : Value} {L : List α} {F : List Nat} (hP : OwOk P) (h : OwR e P w v L F) (hF : F.Nodup) (i : Nat) (hi : i < L.length) : ∃ g cap u Fi, v = .slice (some ⟨g, 0, none⟩) L.length cap ∧ g ∈ F ∧ g ∉ Fi ∧ w.cell? ⟨g, i, none⟩ = some u ∧ (∀ w1, Wr Fi w w1 → w1.frozen? ⟨g, i, none⟩ = false ∧ w1.cell? ⟨g, i, none⟩ = some u) ∧ P w u L[i] Fi ∧ Fi.Nodup ∧ (∀ x ∈ Fi, x ∈ F) ∧
    ∀ w1 u' a' Fi', Wr Fi w w1 → P w1 u' a' Fi' → Fi'.Nodup → (∀ x ∈ Fi', x ∈ Fi ∨ x ∉ F) → ∃ F', OwR e P (w1.setCell ⟨g, i, none⟩ u') v (L.set i a') F' ∧ F'.Nodup ∧ ∀ x ∈ F', x ∈ F ∨ x ∈ Fi' := by
  obtain ⟨us, Fs, h1, h2, h3, h4, rfl⟩ := h
  obtain ⟨ao, cap, rfl⟩ := own_form h3
  obtain ⟨g, rfl, _, _⟩ := own_at h3 (by omega)
  have hn := List.nodup_append.1 hF
  have hgb : g ∈ blk (Value.slice (some ⟨g, 0, none⟩) L.length cap) := mem_blk.2 rfl
  have hgi : ∀ j, j < L.length → g ∉ Fs.getD j [] := fun j hj hx => hn.2.2 g hgb g (flat_in (by omega) g hx) rfl
  have hil : i < Fs.length := by omega
  have hown : ∀ w1, Wr (Fs.getD i []) w w1 → w1.ownsRow 0 e 1 (.slice (some ⟨g, 0, none⟩) L.length cap) L.length us := fun w1 hw => own_sameAt h3 (fun x hx => hw.block x (h3.lt x hx).2 (by have e9 : g = x := Option.some.inj hx; subst e9; exact hgi i hi))
  have hce : ∀ w1, Wr (Fs.getD i []) w w1 → w1.cell? ⟨g, i, none⟩ = some (us.getD i (.slice none 0 0)) := fun w1 hw => by
    rw [(hown w1 hw).cellAt i (by omega)]
    simp [show i < us.length by omega]
  refine ⟨g, cap, us.getD i (.slice none 0 0), Fs.getD i [], rfl, by simp [hgb], hgi i hi, hce w (Wr.refl _ _), fun w1 hw => ⟨(hown w1 hw).frozenAt i, hce w1 hw⟩, h4 i hi, ?_, fun x hx => by simp [flat_in hil x hx], fun w1 u' a' Fi' hw hp hn' hd => ?_⟩
  · exact (List.pairwise_flatten.1 hn.2.1).1 (Fs.getD i []) (by rw [List.getD_eq_getElem?_getD, List.getElem?_eq_getElem hil]; simp)
  · obtain ⟨p1, p2⟩ := parts_set hF hil hn' hd
    have st := ((hown w1 hw).stored i u')
    have hgF : g ∉ Fi' := fun hx => by
      rcases hd g hx with h5 | h5
      · exact hgi i hi h5
      · exact h5 (by simp [hgb])
    have hw2 : Wr [g] w1 (w1.setCell ⟨g, i, none⟩ u') := Wr.ofRow st.2 (fun x hx => by have := Option.some.inj hx; simp [this])
    refine ⟨_, ⟨us.set i u', Fs.set i Fi', by simp [h1], by simp [h2], by rw [List.length_set]; exact st.1, fun j hj => ?_, rfl⟩, p1, p2⟩
    rw [List.length_set] at hj
    by_cases e9 : i = j
    · subst e9
      have eu : (us.set i u').getD i (.slice none 0 0) = u' := by simp [show i < us.length by omega]
      have ef : (Fs.set i Fi').getD i [] = Fi' := by simp [hil]
      rw [eu, ef]
      simp only [List.getElem_set_self]
      exact hP.wr hp hw2 (fun x hx e => by simp at e; subst e; exact hgF hx)
    · have eu : (us.set i u').getD j (.slice none 0 0) = us.getD j (.slice none 0 0) := by simp [e9]
      have ef : (Fs.set i Fi').getD j [] = Fs.getD j [] := by simp [e9]
      rw [eu, ef, List.getElem_set_ne e9]
      exact hP.wr (hP.wr (h4 j hj) hw (flat_apart hn.2.1 (by omega) (by omega) (fun e => e9 e.symm))) hw2 (fun x hx e => by simp at e; subst e; exact hgi j hj hx)

/-- What is read of a row of structs: each has sz cells. -/
def RdG {α : Type} (sz : Nat) (P : World → (Nat → Value) → α → Prop) (w : World) (v : Value) (L : List α) : Prop :=
  ∃ ao cap, v = .slice ao L.length cap ∧ ∀ i (h : i < L.length), ∃ b off c, ao = some ⟨b, off, none⟩ ∧ (∀ j, j < sz → w.cell? ⟨b, off + i * sz + j, none⟩ = some (c j)) ∧ P w c L[i]
def StG {α : Type} (P : World → (Nat → Value) → α → Prop) : Prop := ∀ w w' c a, P w c a → w.grownBy w' none → P w' c a
theorem RdG.st {α : Type} {sz : Nat} {P : World → (Nat → Value) → α → Prop} (hP : StG P) : StR (RdG sz P) := fun _ _ _ _ ⟨ao, cap, e, h⟩ g =>
  ⟨ao, cap, e, fun i hi => by obtain ⟨b, off, c, e1, h1, h2⟩ := h i hi; exact ⟨b, off, c, e1, fun j hj => g.cell (h1 j hj) (by simp), hP _ _ _ _ h2 g⟩⟩

/-- Who owns a row of structs. -/
def OwG {α : Type} (e : TypeId) (sz : Nat) (P : World → (Nat → Value) → α → List Nat → Prop) (w : World) (v : Value) (L : List α) (F : List Nat) : Prop :=
  ∃ (U : Nat → Nat → Value) (Fs : List (List Nat)), Fs.length = L.length ∧ w.ownsRow 0 e sz v L.length (rowsK L.length sz U) ∧ (∀ i (h : i < L.length), P w (U i) L[i] (Fs.getD i [])) ∧ F = blk v ++ Fs.flatten
structure OkG {α : Type} (P : World → (Nat → Value) → α → List Nat → Prop) : Prop where
  same : ∀ w w' c a F, P w c a F → (∀ g ∈ F, w'.heap[g]? = w.heap[g]?) → P w' c a F
  lt : ∀ w c a F, P w c a F → ∀ g ∈ F, g < w.heap.size

section
variable {α : Type} {e : TypeId} {sz : Nat} {P : World → (Nat → Value) → α → List Nat → Prop} {w : World} {v : Value} {L : List α} {F : List Nat}
theorem OkG.wr (hP : OkG P) {w w' : World} {c : Nat → Value} {a : α} {F G : List Nat} (h : P w c a F) (g : Wr G w w') (hd : ∀ x ∈ F, x ∉ G) : P w' c a F :=
  hP.same w w' c a F h (fun x hx => g.block x (hP.lt w c a F h x hx) (hd x hx))
theorem OkG.keep (hP : OkG P) {w w' : World} {c : Nat → Value} {a : α} {F : List Nat} (h : P w c a F) (g : w.grownBy w' none) : P w' c a F :=
  hP.wr h (Wr.ofNone (F := []) g) (fun x _ => by simp)
theorem OwG.ok (hP : OkG P) : OwOk (OwG e sz P) := by
  refine ⟨?_, ?_, ?_⟩
  · rintro w w' u a F ⟨U, Fs, h2, h3, h4, rfl⟩ hs
    refine ⟨U, Fs, h2, own_sameAt h3 (fun g hg => hs g (by simp [mem_blk.2 hg])), fun i hi => ?_, rfl⟩
    exact hP.same w w' _ _ _ (h4 i hi) (fun g hg => hs g (by have := flat_in (by omega) g hg; simp [this]))
  · rintro w u a F ⟨U, Fs, h2, h3, h4, rfl⟩ g hg
    rcases List.mem_append.1 hg with hg | hg
    · exact (h3.lt g (mem_blk.1 hg)).2
    · obtain ⟨l, hl, hgl⟩ := List.mem_flatten.1 hg
      obtain ⟨i, hi, rfl⟩ := List.mem_iff_getElem.1 hl
      exact hP.lt w _ _ _ (h4 i (by omega)) g (by simpa [hi] using hgl)
  · rintro w u a F ⟨U, Fs, h2, h3, h4, rfl⟩
    obtain ⟨ao, cap, rfl⟩ := own_form h3
    exact ⟨_, _, _, rfl⟩
theorem OwG.form (h : OwG e sz P w v L F) : ∃ ao cap, v = .slice ao L.length cap := by
  obtain ⟨U, Fs, _, h3, _⟩ := h
  exact own_form h3
theorem OwG.nil (e : TypeId) (sz : Nat) (P : World → (Nat → Value) → α → List Nat → Prop) (w : World) : OwG e sz P w (.slice none 0 0) [] [] := ⟨fun _ _ => .slice none 0 0, [], rfl, ⟨by rw [rowsK_len], .inl ⟨rfl, rfl⟩⟩, fun i hi => absurd hi (by simp), rfl⟩
theorem cellG {g cap n : Nat} {U : Nat → Nat → Value} {base : Nat} (h : w.ownsRow base e sz (.slice (some ⟨g, 0, none⟩) n cap) n (rowsK n sz U)) (i j : Nat) (hi : i < n) (hj : j < sz) : w.cell? ⟨g, i * sz + j, none⟩ = some (U i j) := by
  have hlt : i * sz + j < n * sz := Nat.lt_of_lt_of_le (Nat.add_lt_add_left hj _) (by rw [← Nat.succ_mul]; exact Nat.mul_le_mul_right _ hi)
  rw [h.cellAt _ hlt]
  exact rowsK_get n sz U i j hi hj
theorem OwG.rd {Q : World → (Nat → Value) → α → Prop} (hPQ : ∀ w c a F, P w c a F → Q w c a) (h : OwG e sz P w v L F) : RdG sz Q w v L := by
  obtain ⟨U, Fs, h2, h3, h4, rfl⟩ := h
  obtain ⟨ao, cap, rfl⟩ := own_form h3
  refine ⟨ao, cap, rfl, fun i hi => ?_⟩
  obtain ⟨g, rfl, _, _⟩ := own_at h3 (by omega)
  exact ⟨g, 0, U i, rfl, fun j hj => by rw [Nat.zero_add]; exact cellG h3 i j hi hj, hPQ _ _ _ _ (h4 i hi)⟩
/-- An element, and what becomes of the row when what the element reaches becomes another thing. -/
theorem OwG.turn (hP : OkG P) (h : OwG e sz P w v L F) (hF : F.Nodup) (i : Nat) (hi : i < L.length) : ∃ g cap c Fi, v = .slice (some ⟨g, 0, none⟩) L.length cap ∧ g ∈ F ∧ g ∉ Fi ∧ (∀ j, j < sz → w.cell? ⟨g, i * sz + j, none⟩ = some (c j)) ∧ (∀ j, w.frozen? ⟨g, j, none⟩ = false) ∧ P w c L[i] Fi ∧ Fi.Nodup ∧ (∀ x ∈ Fi, x ∈ F) ∧
    (∀ w' a' Fi', Wr Fi w w' → P w' c a' Fi' → Fi'.Nodup → (∀ x ∈ Fi', x ∈ Fi ∨ x ∉ F) → ∃ F', OwG e sz P w' v (L.set i a') F' ∧ F'.Nodup ∧ ∀ x ∈ F', x ∈ F ∨ x ∈ Fi') ∧
    (∀ w' (c' : Nat → Value) a' Fi', Wr (g :: Fi) w w' → (∀ U, w.ownsRow 0 e sz v L.length (rowsK L.length sz U) → w'.ownsRow 0 e sz v L.length (rowsK L.length sz (fun p q => if p = i then c' q else U p q))) → P w' c' a' Fi' → Fi'.Nodup → (∀ x ∈ Fi', x ∈ Fi ∨ x ∉ F) → ∃ F', OwG e sz P w' v (L.set i a') F' ∧ F'.Nodup ∧ ∀ x ∈ F', x ∈ F ∨ x ∈ Fi') := by
  obtain ⟨U, Fs, h2, h3, h4, rfl⟩ := h
  obtain ⟨ao, cap, rfl⟩ := own_form h3
  obtain ⟨g, rfl, _, _⟩ := own_at h3 (by omega)
  have hn := List.nodup_append.1 hF
  have hgb : g ∈ blk (Value.slice (some ⟨g, 0, none⟩) L.length cap) := mem_blk.2 rfl
  have hgi : ∀ j, j < L.length → g ∉ Fs.getD j [] := fun j hj hx => hn.2.2 g hgb g (flat_in (by omega) g hx) rfl
  have hil : i < Fs.length := by omega
  refine ⟨g, cap, U i, Fs.getD i [], rfl, by simp [hgb], hgi i hi, fun j hj => cellG h3 i j hi hj, fun j => h3.frozenAt j, h4 i hi, ?_, fun x hx => by simp [flat_in hil x hx], fun w' a' Fi' hw hp hn' hd => ?_, fun w' c' a' Fi' hw ho hp hn' hd => ?_⟩
  · exact (List.pairwise_flatten.1 hn.2.1).1 (Fs.getD i []) (by rw [List.getD_eq_getElem?_getD, List.getElem?_eq_getElem hil]; simp)
  · obtain ⟨p1, p2⟩ := parts_set hF hil hn' hd
    refine ⟨_, ⟨U, Fs.set i Fi', by simp [h2], ?_, fun j hj => ?_, rfl⟩, p1, p2⟩
    · rw [List.length_set]
      exact own_sameAt h3 (fun x hx => hw.block x (h3.lt x hx).2 (by have e9 : g = x := Option.some.inj hx; subst e9; exact hgi i hi))
    · rw [List.length_set] at hj
      by_cases e9 : i = j
      · subst e9
        have ef : (Fs.set i Fi').getD i [] = Fi' := by simp [hil]
        rw [ef]
        simp only [List.getElem_set_self]
        exact hp
      · have ef : (Fs.set i Fi').getD j [] = Fs.getD j [] := by simp [e9]
        rw [ef, List.getElem_set_ne e9]
        exact hP.wr (h4 j hj) hw (flat_apart hn.2.1 (by omega) (by omega) (fun e => e9 e.symm))
  · obtain ⟨p1, p2⟩ := parts_set hF hil hn' hd
    refine ⟨_, ⟨_, Fs.set i Fi', by simp [h2], by rw [List.length_set]; exact ho U h3, fun j hj => ?_, rfl⟩, p1, p2⟩
    rw [List.length_set] at hj
    by_cases e9 : i = j
    · subst e9
      have ef : (Fs.set i Fi').getD i [] = Fi' := by simp [hil]
      rw [ef]
      simp only [List.getElem_set_self, if_true]
      exact hp
    · have ef : (Fs.set i Fi').getD j [] = Fs.getD j [] := by simp [e9]
      rw [ef, List.getElem_set_ne e9]
      have ec : (fun q => if j = i then c' q else U j q) = U j := by funext q; rw [if_neg (fun e => e9 e.symm)]
      rw [ec]
      exact hP.wr (h4 j hj) hw (fun x hx hy => by
        rcases List.mem_cons.1 hy with rfl | hy
        · exact hgi j hj hx
        · exact flat_apart hn.2.1 (by omega) (by omega) (fun e => e9 e.symm) x hx hy)
/-- An element, and what becomes of the row when it is written anew in its own blocks. -/
theorem OwG.at (hP : OkG P) (h : OwG e sz P w v L F) (hF : F.Nodup) (i : Nat) (hi : i < L.length) : ∃ g cap c Fi, v = .slice (some ⟨g, 0, none⟩) L.length cap ∧ g ∈ F ∧ g ∉ Fi ∧ (∀ w1, Wr Fi w w1 → (∀ j, j < sz → w1.cell? ⟨g, i * sz + j, none⟩ = some (c j)) ∧ (∀ j, w1.frozen? ⟨g, j, none⟩ = false)) ∧ P w c L[i] Fi ∧ Fi.Nodup ∧ (∀ x ∈ Fi, x ∈ F) ∧
    ∀ w1 w' (c' : Nat → Value) a', Wr Fi w w1 → Wr [g] w1 w' → (∀ U, w1.ownsRow 0 e sz v L.length (rowsK L.length sz U) → (∀ j, j < sz → U i j = c j) → w'.ownsRow 0 e sz v L.length (rowsK L.length sz (fun p q => if p = i then c' q else U p q))) → P w' c' a' Fi → OwG e sz P w' v (L.set i a') F := by
  obtain ⟨U, Fs, h2, h3, h4, rfl⟩ := h
  obtain ⟨ao, cap, rfl⟩ := own_form h3
  obtain ⟨g, rfl, _, _⟩ := own_at h3 (by omega)
  have hn := List.nodup_append.1 hF
  have hgb : g ∈ blk (Value.slice (some ⟨g, 0, none⟩) L.length cap) := mem_blk.2 rfl
  have hgi : ∀ j, j < L.length → g ∉ Fs.getD j [] := fun j hj hx => hn.2.2 g hgb g (flat_in (by omega) g hx) rfl
  have hil : i < Fs.length := by omega
  have hown : ∀ w1, Wr (Fs.getD i []) w w1 → w1.ownsRow 0 e sz (.slice (some ⟨g, 0, none⟩) L.length cap) L.length (rowsK L.length sz U) := fun w1 hw => own_sameAt h3 (fun x hx => hw.block x (h3.lt x hx).2 (by have e9 : g = x := Option.some.inj hx; subst e9; exact hgi i hi))
  refine ⟨g, cap, U i, Fs.getD i [], rfl, by simp [hgb], hgi i hi, fun w1 hw => ⟨fun j hj => cellG (hown w1 hw) i j hi hj, fun j => (hown w1 hw).frozenAt j⟩, h4 i hi, ?_, fun x hx => by simp [flat_in hil x hx], fun w1 w' c' a' hw hw2 ho hp => ?_⟩
  · exact (List.pairwise_flatten.1 hn.2.1).1 (Fs.getD i []) (by rw [List.getD_eq_getElem?_getD, List.getElem?_eq_getElem hil]; simp)
  · refine ⟨_, Fs, by simp [h2], by rw [List.length_set]; exact ho U (hown w1 hw) (fun _ _ => rfl), fun j hj => ?_, rfl⟩
    rw [List.length_set] at hj
    by_cases e9 : i = j
    · subst e9
      simp only [List.getElem_set_self, if_true]
      exact hp
    · rw [List.getElem_set_ne e9]
      have ec : (fun q => if j = i then c' q else U j q) = U j := by funext q; rw [if_neg (fun e => e9 e.symm)]
      rw [ec]
      exact hP.wr (hP.wr (h4 j hj) hw (flat_apart hn.2.1 (by omega) (by omega) (fun e => e9 e.symm))) hw2 (fun x hx hy => by simp at hy; subst hy; exact hgi j hj hx)
/-- A new row, of structs that reach nothing. -/
theorem OwG.made {z : α} {zc : Nat → Value} (hz : ∀ w, P w zc z []) {base n : Nat} (h : w.ownsRow base e sz v n (rowsK n sz (fun _ j => zc j))) : OwG e sz P w v (List.replicate n z) (blk v) := by
  refine ⟨fun _ j => zc j, List.replicate n [], by simp, by rw [List.length_replicate]; exact own_base h (Nat.zero_le _), fun i hi => ?_, ?_⟩
  · rw [List.length_replicate] at hi
    have e2 : (List.replicate n ([] : List Nat)).getD i [] = [] := by simp [hi]
    rw [e2, List.getElem_replicate]
    exact hz w
  · have : (List.replicate n ([] : List Nat)).flatten = [] := by simp
    rw [this, List.append_nil]
end

end Go.Proofs.Ytibgldanmhckiaa

namespace Go.Proofs.Ytibgldanmhckiaa
open Go.RowKit

theorem rowsK_append (n m k : Nat) (hk : 0 < k) (U V : Nat → Nat → Value) : rowsK n k U ++ rowsK m k V = rowsK (n + m) k (fun i j => if i < n then U i j else V (i - n) j) := by
  apply List.ext_getElem?
  intro c
  by_cases h1 : c < n * k
  · rw [List.getElem?_append_left (by rw [rowsK_len]; exact h1)]
    have hi' : c / k < n := Nat.div_lt_of_lt_mul (by rw [Nat.mul_comm]; exact h1)
    have hm : c % k < k := Nat.mod_lt _ hk
    have hd : c = (c / k) * k + c % k := by have := Nat.div_add_mod c k; rw [Nat.mul_comm] at this; omega
    rw [hd, rowsK_get n k U _ _ hi' hm, rowsK_get (n + m) k _ _ _ (by omega) hm, if_pos hi']
  · obtain ⟨d, rfl⟩ : ∃ d, c = n * k + d := ⟨c - n * k, by omega⟩
    rw [List.getElem?_append_right (by rw [rowsK_len]; omega), rowsK_len, Nat.add_sub_cancel_left]
    have hd : d = (d / k) * k + d % k := by have := Nat.div_add_mod d k; rw [Nat.mul_comm] at this; omega
    have hm : d % k < k := Nat.mod_lt _ hk
    have hc : n * k + d = (n + d / k) * k + d % k := by rw [Nat.add_mul]; omega
    by_cases h2 : d < m * k
    · have hi' : d / k < m := Nat.div_lt_of_lt_mul (by rw [Nat.mul_comm]; exact h2)
      rw [hc, rowsK_get (n + m) k _ _ _ (Nat.add_lt_add_left hi' n) hm, if_neg (Nat.not_lt.2 (Nat.le_add_right _ _)), Nat.add_sub_cancel_left]
      have e9 := rowsK_get m k V (d / k) (d % k) hi' hm
      rw [← hd] at e9
      exact e9
    · rw [List.getElem?_eq_none (by rw [rowsK_len]; omega), List.getElem?_eq_none (by rw [rowsK_len, Nat.add_mul]; omega)]

theorem append_rowsG {α : Type} {P : World → (Nat → Value) → α → List Nat → Prop} (hP : OkG P) {e T : TypeId} {sz bytes : Nat} {z : Value} (hT : Try.prog.underlying T = some (.slice e)) (hI : (Try.prog.info? e).map (fun i => (i.zero, i.size, i.bytes)) = some (some z, sz, bytes)) (hzs : z.cells.size = sz) (hsz : 0 < sz) (hbt : bytes ≤ 1000)
    {w : World} {ops : Array Oper} {rest : List Oper} {o : Oper} {a : Act} {Q : Exit → Act → World → Prop} (hgd : o.guard = none) (s x : Operand)
    (ho : o.op = .call { callee := .builtin .append, args := #[s, x], argTypes := #[T, T] })
    (v : Value) (L : List α) (F : List Nat) (hs : a.eval s = v) (hown : OwG e sz P w v L F) (hF : F.Nodup)
    (cs : Array Value) (m : Nat) (V : Nat → Nat → Value) (hcs : cs.toList = rowsK m sz V) (M : List α) (hM : M.length = m) (Gs : List (List Nat)) (hGs : Gs.length = m) (hu : ∀ i (h : i < M.length), P w (V i) M[i] (Gs.getD i [])) (hG : Gs.flatten.Nodup) (hd : ∀ x ∈ Gs.flatten, x ∉ F) (h1c : ∀ u ∈ cs.toList, u.oneCell' = true)
    (H : Nat) (hH : w.heap.size = H) (hx : a.eval x = .slice (some ⟨H, 0, none⟩) m m) (hb : L.length + m ≤ 1000000) (R : List α) (hR : L ++ M = R)
    (h : ∀ v' w' F', OwG e sz P w' v' R F' → F'.Nodup → (∀ x ∈ F', x ∈ F ∨ x ∈ Gs.flatten ∨ w.heap.size ≤ x) → Wr (blk v) w w' → wpList Try.prog ops Q rest (a.put o.dst v') w') :
    wpList Try.prog ops Q (o :: rest) a (w.alloc (.cells cs e)) := by
  subst hR
  subst hH
  obtain ⟨i0, hi, hz0, hz1, hz2⟩ := info_parts hI
  obtain ⟨U, Fs, l2, o1, els, rfl⟩ := hown
  have hn := List.nodup_append.1 hF
  have hbb : (L.length + m) * bytes ≤ 1000000 * 1000 := Nat.mul_le_mul hb hbt
  refine wpList_append_own_at _ hgd s x T ho 0 e i0 _ sz bytes hT hi hz0 hz1 hz2 hzs hsz v L.length _ hs (o1.alloc _) ⟨w.heap.size, 0, none⟩ m m cs.toList hx (by rw [hcs, rowsK_len]) (World.news_of_block (cs := cs) (t := e) (fr := (0, 0)) (heap_alloc_new w _)) h1c (by unfold maxLen; omega) (by omega) (Nat.zero_le _) ?_
  intro v' w' h1 h2 _ h4
  have hga : w.grownBy w' v.ownBlock := ⟨h2.os, h2.tape, h2.output, by have h := h2.size; simp at h; omega, fun k hk hr => (h2.block k (by simp; omega) hr).trans (Below.heap_alloc _ _ _ hk)⟩
  have hw : Wr (blk v) w w' := Wr.ofRow hga (fun g e => mem_blk.2 e)
  have hvb : ∀ y, y ∈ blk v' → y ∈ blk v ∨ w.heap.size ≤ y := fun y hy => by
    rcases h4 with h4 | h4
    · exact .inl (mem_blk.2 (by rw [← h4]; exact mem_blk.1 hy))
    · have e1 := mem_blk.1 hy
      rw [h4] at e1
      have e2 : (w.alloc (.cells cs e)).heap.size = y := Option.some.inj e1
      exact .inr (by simp at e2; omega)
  have hfl : (Fs ++ Gs).flatten = Fs.flatten ++ Gs.flatten := by simp
  have hlt : ∀ y ∈ Fs.flatten, y < w.heap.size := fun y hy => by
    obtain ⟨l, hl, hyl⟩ := List.mem_flatten.1 hy
    obtain ⟨i, hi, rfl⟩ := List.mem_iff_getElem.1 hl
    exact hP.lt w _ _ _ (els i (by omega)) y (by simpa [hi] using hyl)
  have hltG : ∀ y ∈ Gs.flatten, y < w.heap.size := fun y hy => by
    obtain ⟨l, hl, hyl⟩ := List.mem_flatten.1 hy
    obtain ⟨i, hi, rfl⟩ := List.mem_iff_getElem.1 hl
    exact hP.lt w _ _ _ (hu i (by omega)) y (by simpa [hi] using hyl)
  refine h v' w' (blk v' ++ (Fs ++ Gs).flatten) ⟨fun i j => if i < L.length then U i j else V (i - L.length) j, Fs ++ Gs, by simp [l2, hGs, hM], ?_, fun i hi => ?_, rfl⟩ ?_ ?_ hw
  · rw [List.length_append, hM, ← rowsK_append L.length m sz hsz, ← hcs]; exact h1
  · by_cases hil : i < L.length
    · have e1 : (fun j => if i < L.length then U i j else V (i - L.length) j) = U i := by funext j; rw [if_pos hil]
      have e2 : (Fs ++ Gs).getD i [] = Fs.getD i [] := by simp [List.getElem?_append_left (show i < Fs.length by omega)]
      dsimp only
      rw [e1, e2, List.getElem_append_left hil]
      exact hP.wr (els i hil) hw (fun y hy hy2 => hn.2.2 y hy2 y (flat_in (by omega) y hy) rfl)
    · have him : i - L.length < M.length := by rw [List.length_append] at hi; omega
      have e1 : (fun j => if i < L.length then U i j else V (i - L.length) j) = V (i - L.length) := by funext j; rw [if_neg hil]
      have e2 : (Fs ++ Gs).getD i [] = Gs.getD (i - L.length) [] := by simp [List.getElem?_append_right (show Fs.length ≤ i by omega), l2]
      dsimp only
      rw [e1, e2, List.getElem_append_right (by omega)]
      exact hP.wr (hu (i - L.length) him) hw (fun y hy hy2 => hd y (flat_in (by omega) y hy) (by simp [hy2]))
  · rw [hfl]
    refine List.nodup_append.2 ⟨blk_nodup v', List.nodup_append.2 ⟨hn.2.1, hG, fun y hy z hz => ?_⟩, fun y hy z hz => ?_⟩
    · rintro rfl
      exact hd y hz (by simp [hy])
    · rintro rfl
      rcases List.mem_append.1 hz with hz | hz
      · rcases hvb y hy with h5 | h5
        · exact hn.2.2 y h5 y hz rfl
        · have := hlt y hz; omega
      · rcases hvb y hy with h5 | h5
        · exact hd y hz (by simp [h5])
        · have := hltG y hz; omega
  · intro y hy
    rw [hfl] at hy
    rcases List.mem_append.1 hy with hy | hy
    · rcases hvb y hy with h5 | h5
      · exact .inl (by simp [h5])
      · exact .inr (.inr h5)
    · rcases List.mem_append.1 hy with hy | hy
      · exact .inl (by simp [hy])
      · exact .inr (.inl hy)

end Go.Proofs.Ytibgldanmhckiaa

namespace Go.Proofs.Ytibgldanmhckiaa
open Go.RowKit

theorem between (n lo hi : Int) (t : Bool) (ht : Hid (decide (lo ≤ n ∧ n ≤ hi) = t)) (w : World) :
    Calls Try.prog 84 #[.int .i64 n, .int .i64 lo, .int .i64 hi] w fun e w' => e = .returned (.bool t) ∧ w' = w := by
  by_cases h1 : lo ≤ n
  · by_cases h2 : n ≤ hi
    · have e : t = true := by rw [← unhide ht]; simp [h1, h2]
      subst e
      go_enter Try.func84, Try.ntmps84
      go_wp2
      go_ret
      exact ⟨by simp, rfl⟩
    · have e : t = false := by rw [← unhide ht]; simp [h2]
      subst e
      go_enter Try.func84, Try.ntmps84
      go_wp2
      go_ret
      exact ⟨by simp, rfl⟩
  · have e : t = false := by rw [← unhide ht]; simp [h1]
    subst e
    have hd : decide (lo ≤ n) = false := by simpa using h1
    go_enter Try.func84, Try.ntmps84
    go_wp2
    go_ret
    exact ⟨rfl, rfl⟩

end Go.Proofs.Ytibgldanmhckiaa

namespace Go.Proofs.Ytibgldanmhckiaa
open Go.RowKit

def levB (lo hi : Int) (zs : List Int) : Bool := decide (zs.length = 64) && zs.all (fun n => decide (lo ≤ n ∧ n ≤ hi))

theorem lev_all {lo hi : Int} {zs : List Int} (hz : zs.length = 64) (h : ∀ j, j < 64 → lo ≤ zs.getD j 0 ∧ zs.getD j 0 ≤ hi) : levB lo hi zs = true := by
  simp only [levB, hz, decide_true, Bool.true_and, List.all_eq_true, decide_eq_true_eq]
  intro n hn
  obtain ⟨i, hi', rfl⟩ := List.getElem_of_mem hn
  have h2 : zs.getD i 0 = zs[i] := by simp [hi']
  rw [← h2]
  exact h i (by omega)
theorem lev_at {lo hi : Int} {zs : List Int} (h : levB lo hi zs = true) : zs.length = 64 ∧ ∀ j, j < 64 → lo ≤ zs.getD j 0 ∧ zs.getD j 0 ≤ hi := by
  simp only [levB, Bool.and_eq_true, decide_eq_true_eq, List.all_eq_true] at h
  refine ⟨h.1, fun j hj => ?_⟩
  have hj' : j < zs.length := by omega
  have h2 : zs.getD j 0 = zs[j] := by simp [hj']
  rw [h2]
  exact h.2 _ (List.getElem_mem hj')

set_option maxHeartbeats 800000 in
theorem specLev (ao : Option Addr) (n cap : Nat) (zs : List Int) (lo hi : Int) (w : World) (hr : Rd .i64 w ao n zs) (b : Bool) (hb : Hid (levB lo hi zs = b)) :
    Calls Try.prog 83 #[.slice ao n cap, .int .i64 lo, .int .i64 hi] w fun e w' => e = .returned (.bool b) ∧ w.grownBy w' none := by
  by_cases h : n = 64
  · subst h
    have HR := hide hr
    have HZ := hide hr.1
    clear hr
    go_enter Try.func83, Try.ntmps83
    go_wp2
    go_loopw [7] (fun i wr => ∃ k : Nat, k ≤ 64 ∧ i = .int .i64 k ∧ (Hid (∀ j, j < k → lo ≤ zs.getD j 0 ∧ zs.getD j 0 ≤ hi)) ∧ w.grownBy wr none) (fun i _ => 64 - (intOf i).toNat)
    case atStart => exact ⟨0, Nat.zero_le _, rfl, fun j hj => absurd hj (by omega), World.grownBy.refl _ _⟩
    case round =>
      obtain ⟨k, hk, rfl, HK, hgk⟩ := hrel
      by_cases hlt : k < 64
      · obtain ⟨bb, off, rfl, hc⟩ := (unhide HR).2 k hlt
        have hcell := hgk.cell hc (by simp)
        obtain ⟨t, HT⟩ : ∃ t, Hid (decide (lo ≤ zs.getD k 0 ∧ zs.getD k 0 ≤ hi) = t) := ⟨_, rfl⟩
        clear hc
        obtain ⟨z, HX⟩ : ∃ z, Hid (zs.getD k 0 = z) := ⟨_, rfl⟩
        rw [unhide HX] at hcell HT
        go_wp2_with fail
        refine (between z lo hi t HT wr).mono ?_
        rintro e w2 ⟨rfl, rfl⟩
        cases t with
        | true =>
          go_wp2
          go_roundw
          case rel =>
            refine ⟨k + 1, by omega, by go_num, fun j hj => ?_, hgk⟩
            by_cases e : j = k
            · subst e; rw [unhide HX]; have := unhide HT; simpa using this
            · exact unhide HK j (by omega)
          case measure => simp [intOf]; omega
        | false =>
          have hf : b = false := by
            cases hbb : b with
            | false => rfl
            | true =>
              have h1 := (lev_at ((unhide hb).trans hbb)).2 k hlt
              rw [unhide HX] at h1
              have := unhide HT
              simp at this
              omega
          subst hf
          go_wp2
          go_ret
          exact ⟨rfl, hgk⟩
      · obtain rfl : k = 64 := by omega
        have ht : b = true := by rw [← unhide hb]; exact lev_all (unhide HZ) (unhide HK)
        subst ht
        go_wp2
        go_ret
        exact ⟨rfl, hgk⟩
  · have hb' : b = false := by rw [← unhide hb]; simp [levB, hr.1, h]
    subst hb'
    have hne : ((n : Int) != 64) = true := by simp; omega
    clear hr hb
    go_enter Try.func83, Try.ntmps83
    go_wp2
    go_ret
    exact ⟨rfl, World.grownBy.refl _ _⟩

end Go.Proofs.Ytibgldanmhckiaa

namespace Go.Proofs.Ytibgldanmhckiaa

/-- How many blocks a component's plane has beside and below one another, and how many of them are needed. -/
def bwG (wd : Int) (n : Nat) (C : Nat → Nat → Int) (c : Nat) : Nat := (upI wd (8 * mostA 1 C 1 n) * C c 1).toNat
def bhG (ht : Int) (n : Nat) (C : Nat → Nat → Int) (c : Nat) : Nat := (upI ht (8 * mostA 1 C 2 n) * C c 2).toNat
def nwG (wd : Int) (n : Nat) (C : Nat → Nat → Int) (c : Nat) : Nat := (upI (upI (wd * C c 1) (mostA 1 C 1 n)) 8).toNat
def nhG (ht : Int) (n : Nat) (C : Nat → Nat → Int) (c : Nat) : Nat := (upI (upI (ht * C c 2) (mostA 1 C 2 n)) 8).toNat
theorem up_le32 {n d : Int} (hn : 1 ≤ n ∧ n ≤ 256) (hd : 1 ≤ d ∧ d ≤ 4) : 1 ≤ upI n (8 * d) ∧ upI n (8 * d) ≤ 32 := by
  unfold upI
  rw [Int.tdiv_eq_ediv_of_nonneg (by omega)]
  have : d = 1 ∨ d = 2 ∨ d = 3 ∨ d = 4 := by omega
  rcases this with rfl | rfl | rfl | rfl <;> omega
theorem mul_in {a b : Int} (ha : 1 ≤ a ∧ a ≤ 32) (hb : 1 ≤ b ∧ b ≤ 4) : 1 ≤ a * b ∧ a * b ≤ 128 := by
  obtain ⟨b0, b1⟩ := hb
  have : b = 1 ∨ b = 2 ∨ b = 3 ∨ b = 4 := by omega
  rcases this with rfl | rfl | rfl | rfl <;> omega
structure Dims (wd ht : Int) (n : Nat) (C : Nat → Nat → Int) (c : Nat) : Prop where
  bw : upI wd (8 * mostA 1 C 1 n) * C c 1 = (bwG wd n C c : Int)
  bh : upI ht (8 * mostA 1 C 2 n) * C c 2 = (bhG ht n C c : Int)
  bw1 : 1 ≤ bwG wd n C c ∧ bwG wd n C c ≤ 128
  bh1 : 1 ≤ bhG ht n C c ∧ bhG ht n C c ≤ 128
  sw : 1 ≤ upI (wd * C c 1) (mostA 1 C 1 n) ∧ upI (wd * C c 1) (mostA 1 C 1 n) ≤ 1024
  sh : 1 ≤ upI (ht * C c 2) (mostA 1 C 2 n) ∧ upI (ht * C c 2) (mostA 1 C 2 n) ≤ 1024
  nw : upI (upI (wd * C c 1) (mostA 1 C 1 n)) 8 = (nwG wd n C c : Int)
  nh : upI (upI (ht * C c 2) (mostA 1 C 2 n)) 8 = (nhG ht n C c : Int)
  nw1 : nwG wd n C c ≤ 1024
  nh1 : nhG ht n C c ≤ 1024
theorem side_mul {a b : Int} (ha : 1 ≤ a ∧ a ≤ 256) (hb : 1 ≤ b ∧ b ≤ 4) : 1 ≤ a * b ∧ a * b ≤ 1024 := by
  obtain ⟨b0, b1⟩ := hb
  have : b = 1 ∨ b = 2 ∨ b = 3 ∨ b = 4 := by omega
  rcases this with rfl | rfl | rfl | rfl <;> omega
theorem dims_of {wd ht : Int} {n : Nat} {C : Nat → Nat → Int} (hg : Geo wd ht n C (mostA 1 C 1 n) (mostA 1 C 2 n)) (c : Nat) (hc : c < n) : Dims wd ht n C c := by
  have h1 := mul_in (up_le32 hg.wd hg.hb) (hg.ch c hc)
  have h2 := mul_in (up_le32 hg.ht hg.vb) (hg.cv c hc)
  have h3 := side_mul hg.wd (hg.ch c hc)
  have h4 := side_mul hg.ht (hg.cv c hc)
  have h5 := upI_pos h3.1 hg.hb.1
  have h6 := upI_pos h4.1 hg.vb.1
  have h7 := upI_pos h5.1 (show (1 : Int) ≤ 8 by omega)
  have h8 := upI_pos h6.1 (show (1 : Int) ≤ 8 by omega)
  refine ⟨?_, ?_, ?_, ?_, ⟨h5.1, by omega⟩, ⟨h6.1, by omega⟩, ?_, ?_, ?_, ?_⟩
  · unfold bwG; omega
  · unfold bhG; omega
  · unfold bwG; omega
  · unfold bhG; omega
  · unfold nwG; omega
  · unfold nhG; omega
  · unfold nwG; omega
  · unfold nhG; omega

/-- Blocks of noughts, and what is so of coefficients that are ok. -/
def noughts : List Int := List.replicate 64 0
def emptyG (n : Nat) (bn : Nat → Nat) : List (List (List Int)) := (List.range n).map fun c => List.replicate (bn c) noughts
def emptyF (b : Bool) (wd ht : Int) (n : Nat) (C : Nat → Nat → Int) : List (List (List Int)) := if b then emptyG n (fun c => bwG wd n C c * bhG ht n C c) else []
def zeroB (xs : List Int) : Bool := xs.all (fun x => x == 0)
def hidB (bw nw nh k : Nat) : Bool := decide (nh ≤ k / bw) || decide (nw ≤ k % bw)
def blockB (hid : Bool) (xs : List Int) : Bool := levB (-16383) 16383 xs && (!hid || zeroB xs)
def planeB (bw bh nw nh : Nat) (P : List (List Int)) : Bool := decide (P.length = bw * bh) && (List.range P.length).all (fun k => blockB (hidB bw nw nh k) (P.getD k []))
def coefsOkB (wd ht : Int) (n : Nat) (C : Nat → Nat → Int) (X : List (List (List Int))) : Bool := decide (X.length = n) && (List.range X.length).all (fun c => planeB (bwG wd n C c) (bhG ht n C c) (nwG wd n C c) (nhG ht n C c) (X.getD c []))
def coefsOkF (b : Bool) (wd ht : Int) (n : Nat) (C : Nat → Nat → Int) (X : List (List (List Int))) : Bool := b && coefsOkB wd ht n C X
/-- Where a place lies in its plane, if it is one. -/
def placeO (wd ht : Int) (n : Nat) (C : Nat → Nat → Int) (co ro cl : Int) : Option Nat :=
  if 0 ≤ co ∧ co ≤ (n : Int) - 1 then (if (0 ≤ ro ∧ ro ≤ (bhG ht n C co.toNat : Int) - 1) ∧ 0 ≤ cl ∧ cl ≤ (bwG wd n C co.toNat : Int) - 1 then some (ro.toNat * bwG wd n C co.toNat + cl.toNat) else none) else none
def hiddenI (wd ht : Int) (n : Nat) (C : Nat → Nat → Int) (c : Nat) (ro cl : Int) : Bool := decide ((nhG ht n C c : Int) ≤ ro) || decide ((nwG wd n C c : Int) ≤ cl)
def blockAtF (b : Bool) (wd ht : Int) (n : Nat) (C : Nat → Nat → Int) (X : List (List (List Int))) (co ro cl : Int) : List Int :=
  if coefsOkF b wd ht n C X then (match placeO wd ht n C co ro cl with | some k => (X.getD co.toNat []).getD k [] | none => []) else []
def withBlockF (b : Bool) (wd ht : Int) (n : Nat) (C : Nat → Nat → Int) (X : List (List (List Int))) (co ro cl : Int) (bl : List Int) : List (List (List Int)) :=
  if coefsOkF b wd ht n C X && levB (-16383) 16383 bl then (match placeO wd ht n C co ro cl with | some k => if hiddenI wd ht n C co.toNat ro cl then [] else X.set co.toNat ((X.getD co.toNat []).set k bl) | none => []) else []

end Go.Proofs.Ytibgldanmhckiaa

namespace Go.Proofs.Ytibgldanmhckiaa
open Go.RowKit

set_option maxRecDepth 100000 in
set_option maxHeartbeats 3200000 in
theorem specFrameOk (p wd ht rs : Int) (ao : Option Addr) (n cap : Nat) (C : Nat → Nat → Int) (w : World) (hr : RdC w ao n C) (t : Bool) (HFB : Hid (frameB p wd ht rs n C = t)) :
    Calls Try.prog 50 #[.agg #[.int .i64 p, .int .i64 wd, .int .i64 ht, .int .i64 rs, .slice ao n cap]] w fun e w' => e = .returned (.bool t) ∧ w.grownBy w' none := by
  have HR := hide hr
  clear hr
  have G0 : Hid (w.grownBy (w.alloc (.cells #[.int .i64 p, .int .i64 wd, .int .i64 ht, .int .i64 rs, .slice ao n cap] 26)) none) := grown_alloc (World.grownBy.refl _ _) _
  have HB := hide (heap_alloc_new w (.cells #[.int .i64 p, .int .i64 wd, .int .i64 ht, .int .i64 rs, .slice ao n cap] 26))
  have hgs : w.heap.size < (w.alloc (.cells #[.int .i64 p, .int .i64 wd, .int .i64 ht, .int .i64 rs, .slice ao n cap] 26)).heap.size := by simp
  have hcase : (p = 8 ∨ p = 12) ∨ ((p != 8) = true ∧ (p != 12) = true ∧ (p == 8) = false ∧ (p == 12) = false) := by
    by_cases e8 : p = 8
    · exact .inl (.inl e8)
    · by_cases e12 : p = 12
      · exact .inl (.inr e12)
      · exact .inr (by simp [e8, e12])
  rcases hcase with hp | ⟨n8, n12, m8, m12⟩
  · obtain ⟨t1, HT1⟩ : ∃ t1, Hid (decide (1 ≤ wd ∧ wd ≤ 256) = t1) := ⟨_, rfl⟩
    obtain ⟨t2, HT2⟩ : ∃ t2, Hid (decide (1 ≤ ht ∧ ht ≤ 256) = t2) := ⟨_, rfl⟩
    obtain ⟨t4, HT4⟩ : ∃ t4, Hid (decide (0 ≤ rs ∧ rs ≤ 255) = t4) := ⟨_, rfl⟩
    obtain ⟨t5, HT5⟩ : ∃ t5, Hid (decide (1 ≤ (n : Int) ∧ (n : Int) ≤ 4) = t5) := ⟨_, rfl⟩
    have HP : Hid (t = ((t1 && (t2 && (decide (wd * ht ≤ 16384) && t4))) && (t5 && (okTo C n && decide (sumHV C n ≤ 10))))) := by
      have e : (p == 8 || p == 12) = true := by rcases hp with rfl | rfl <;> rfl
      unfold Hid; rw [← unhide HFB, frameB, compsB, headB, e, unhide HT1, unhide HT2, unhide HT4, unhide HT5, Bool.true_and]
    clear HFB
    cases t1
    · have HF : Hid (t = false) := by unfold Hid; rw [unhide HP]; rfl
      rcases hp with rfl | rfl
      all_goals
        go_enter Try.func50, Try.ntmps50
        go_wp2_with fail
        refine (between wd 1 256 _ HT1 _).mono ?_
        rintro e w1 ⟨rfl, rfl⟩
        go_wp2
        go_ret
        exact ⟨ret_bool (by rw [unhide HF]), unhide G0⟩
    · cases t2
      · have HF : Hid (t = false) := by unfold Hid; rw [unhide HP]; rfl
        rcases hp with rfl | rfl
        all_goals
          go_enter Try.func50, Try.ntmps50
          go_wp2_with fail
          refine (between wd 1 256 _ HT1 _).mono ?_
          rintro e w1 ⟨rfl, rfl⟩
          go_wp2_with fail
          refine (between ht 1 256 _ HT2 _).mono ?_
          rintro e w1 ⟨rfl, rfl⟩
          go_wp2
          go_ret
          exact ⟨ret_bool (by rw [unhide HF]), unhide G0⟩
      · have hb1 := of_decide_eq_true (unhide HT1)
        have hb2 := of_decide_eq_true (unhide HT2)
        have hm := mul_side hb1 hb2
        have hwr := i64_in (wd * ht) (by omega)
        clear hm hb1 hb2
        by_cases hle : wd * ht ≤ 16384
        · have HLE := hide hle
          have hdm : decide (16384 < wd * ht) = false := decide_eq_false (by omega)
          rw [decide_eq_true hle] at HP
          clear hle
          cases t4
          · have HF : Hid (t = false) := by unfold Hid; rw [unhide HP]; rfl
            rcases hp with rfl | rfl
            all_goals
              go_enter Try.func50, Try.ntmps50
              go_wp2_with fail
              refine (between wd 1 256 _ HT1 _).mono ?_
              rintro e w1 ⟨rfl, rfl⟩
              go_wp2_with fail
              refine (between ht 1 256 _ HT2 _).mono ?_
              rintro e w1 ⟨rfl, rfl⟩
              go_wp2_with fail
              refine (between rs 0 255 _ HT4 _).mono ?_
              rintro e w1 ⟨rfl, rfl⟩
              go_wp2
              go_ret
              exact ⟨ret_bool (by rw [unhide HF]), unhide G0⟩
          · cases t5
            · have HF : Hid (t = false) := by unfold Hid; rw [unhide HP]; rfl
              rcases hp with rfl | rfl
              all_goals
                go_enter Try.func50, Try.ntmps50
                go_wp2_with fail
                refine (between wd 1 256 _ HT1 _).mono ?_
                rintro e w1 ⟨rfl, rfl⟩
                go_wp2_with fail
                refine (between ht 1 256 _ HT2 _).mono ?_
                rintro e w1 ⟨rfl, rfl⟩
                go_wp2_with fail
                refine (between rs 0 255 _ HT4 _).mono ?_
                rintro e w1 ⟨rfl, rfl⟩
                go_wp2_with fail
                refine (between n 1 4 _ HT5 _).mono ?_
                rintro e w1 ⟨rfl, rfl⟩
                go_wp2
                go_ret
                exact ⟨ret_bool (by rw [unhide HF]), unhide G0⟩
            · have hn4 : n ≤ 4 := by have := of_decide_eq_true (unhide HT5); omega
              have HR2 : Hid (t = (okTo C n && decide (sumHV C n ≤ 10))) := by unfold Hid; rw [unhide HP]; rfl
              clear HP
              rcases hp with rfl | rfl
              all_goals
                go_enter Try.func50, Try.ntmps50
                go_wp2_with fail
                refine (between wd 1 256 _ HT1 _).mono ?_
                rintro e w1 ⟨rfl, rfl⟩
                go_wp2_with fail
                refine (between ht 1 256 _ HT2 _).mono ?_
                rintro e w1 ⟨rfl, rfl⟩
                go_wp2_with fail
                refine (between rs 0 255 _ HT4 _).mono ?_
                rintro e w1 ⟨rfl, rfl⟩
                go_wp2_with fail
                refine (between n 1 4 _ HT5 _).mono ?_
                rintro e w1 ⟨rfl, rfl⟩
                go_wp2
                clear hwr hdm
                generalize (w.alloc (.cells #[.int .i64 _, .int .i64 wd, .int .i64 ht, .int .i64 rs, .slice ao n cap] 26)) = wx at *
                go_loopw [3, 4] (fun b i wr => ∃ k : Nat, k ≤ n ∧ i = .int .i64 k ∧ b = .int .i64 (sumHV C k) ∧ okTo C k = true ∧ wx.grownBy wr none) (fun _ i _ => n - (intOf i).toNat)
                case atStart => exact ⟨0, Nat.zero_le _, rfl, rfl, rfl, World.grownBy.refl _ _⟩
                case round =>
                  obtain ⟨k, hk, rfl, rfl, hok, hgk⟩ := hrel
                  have hBf := (hgk.block w.heap.size hgs (by simp)).trans (unhide HB)
                  have c4 : wr.cell? ⟨w.heap.size, 4, none⟩ = some (.slice ao n cap) := by rw [cell_of_row wr _ 4 _ _ (0, 0) hBf]; rfl
                  clear hBf
                  by_cases hlt : k < n
                  · obtain ⟨b, off, rfl, hc⟩ := (unhide HR) k hlt
                    have hc' := fun j hj => (grown_trans (unhide G0) hgk).cell (hc j hj) (by simp)
                    have h0 := hc' 0 (by omega)
                    have h1 := hc' 1 (by omega)
                    have h2 := hc' 2 (by omega)
                    have h3 := hc' 3 (by omega)
                    rw [Nat.add_zero] at h0
                    clear hc hc'
                    have HRW := hide ((unhide HR).grown (grown_trans (unhide G0) hgk))
                    have HOK := hide hok
                    have HSB := hide (sumHV_bounds k hok)
                    obtain ⟨u1, HU1⟩ : ∃ u, Hid (decide (0 ≤ C k 0 ∧ C k 0 ≤ 255) = u) := ⟨_, rfl⟩
                    obtain ⟨u2, HU2⟩ : ∃ u, Hid (decide (1 ≤ C k 1 ∧ C k 1 ≤ 4) = u) := ⟨_, rfl⟩
                    obtain ⟨u3, HU3⟩ : ∃ u, Hid (decide (1 ≤ C k 2 ∧ C k 2 ≤ 4) = u) := ⟨_, rfl⟩
                    obtain ⟨u4, HU4⟩ : ∃ u, Hid (decide (0 ≤ C k 3 ∧ C k 3 ≤ 3) = u) := ⟨_, rfl⟩
                    have HS1 : Hid (okTo C (k + 1) = (okTo C k && ((u1 && (u2 && (u3 && u4))) && !idIn C k k))) := by unfold Hid; rw [okTo, compB, unhide HU1, unhide HU2, unhide HU3, unhide HU4]
                    have HS2 : Hid (sumHV C (k + 1) = sumHV C k + C k 1 * C k 2) := rfl
                    have STOP : Hid (((u1 && (u2 && (u3 && u4))) && !idIn C k k) = false → t = false) := fun h => by rw [unhide HR2, okTo_false (k := k + 1) (by rw [unhide HS1, h, Bool.and_false]) n hlt]; rfl
                    have HCK := hide (heap_alloc_new wr (.cells #[.int .i64 (C k 0), .int .i64 (C k 1), .int .i64 (C k 2), .int .i64 (C k 3)] 70))
                    have GK : Hid (wr.grownBy (wr.alloc (.cells #[.int .i64 (C k 0), .int .i64 (C k 1), .int .i64 (C k 2), .int .i64 (C k 3)] 70)) none) := grown_alloc (World.grownBy.refl _ _) _
                    have hgz : wr.heap.size < (wr.alloc (.cells #[.int .i64 (C k 0), .int .i64 (C k 1), .int .i64 (C k 2), .int .i64 (C k 3)] 70)).heap.size := by simp
                    have GR : Hid (w.grownBy wr none) := grown_trans (unhide G0) hgk
                    have GX := hide hgk
                    clear hok hgk
                    cases u1
                    · go_wp2_with fail
                      refine (between (C k 0) 0 255 _ HU1 _).mono ?_
                      rintro e w2 ⟨rfl, rfl⟩
                      go_wp2
                      go_ret
                      exact ⟨ret_bool (by rw [unhide STOP rfl]), grown_trans (unhide GR) (unhide GK)⟩
                    · go_wp2_with fail
                      refine (between (C k 0) 0 255 _ HU1 _).mono ?_
                      rintro e w2 ⟨rfl, rfl⟩
                      go_wp2_with fail
                      refine (between (C k 1) 1 4 _ HU2 _).mono ?_
                      rintro e w2 ⟨rfl, rfl⟩
                      cases u2
                      · go_wp2
                        go_ret
                        exact ⟨ret_bool (by rw [unhide STOP rfl]), grown_trans (unhide GR) (unhide GK)⟩
                      · go_wp2_with fail
                        refine (between (C k 2) 1 4 _ HU3 _).mono ?_
                        rintro e w2 ⟨rfl, rfl⟩
                        cases u3
                        · go_wp2
                          go_ret
                          exact ⟨ret_bool (by rw [unhide STOP rfl]), grown_trans (unhide GR) (unhide GK)⟩
                        · go_wp2_with fail
                          refine (between (C k 3) 0 3 _ HU4 _).mono ?_
                          rintro e w2 ⟨rfl, rfl⟩
                          cases u4
                          · go_wp2
                            go_ret
                            exact ⟨ret_bool (by rw [unhide STOP rfl]), grown_trans (unhide GR) (unhide GK)⟩
                          · go_wp2
                            have d4 := (unhide GK).cell c4 (by simp)
                            clear c4 h0 h1 h2 h3
                            generalize (wr.alloc (.cells #[.int .i64 (C k 0), .int .i64 (C k 1), .int .i64 (C k 2), .int .i64 (C k 3)] 70)) = wy at *
                            obtain ⟨wo, rfl⟩ : ∃ wo, wo = wr := ⟨_, rfl⟩
                            go_loopw [6] (fun i wi => ∃ m : Nat, m ≤ k ∧ i = .int .i64 m ∧ idIn C k m = false ∧ wy.grownBy wi none) (fun i _ => k - (intOf i).toNat)
                            case atStart => exact ⟨0, Nat.zero_le _, rfl, rfl, World.grownBy.refl _ _⟩
                            case round =>
                              obtain ⟨m, hm, rfl, hid, hgi⟩ := hrel
                              have hBx := (hgi.block wo.heap.size hgz (by simp)).trans (unhide HCK)
                              by_cases hml : m < k
                              · have i4 := hgi.cell d4 (by simp)
                                have cx : wr.cell? ⟨wo.heap.size, 0, none⟩ = some (.int .i64 (C k 0)) := by rw [cell_of_row wr _ 0 _ _ (0, 0) hBx]; rfl
                                obtain ⟨b', off', e', hcm⟩ := (unhide HRW) m (by omega)
                                simp only [Option.some.injEq, Addr.mk.injEq] at e'
                                obtain ⟨rfl, rfl, _⟩ := e'
                                have cm := (grown_trans (unhide GK) hgi).cell (hcm 0 (by omega)) (by simp)
                                rw [Nat.add_zero] at cm
                                have HST : Hid (idIn C k (m + 1) = (idIn C k m || (C m 0 == C k 0))) := rfl
                                have HTR : Hid ((C m 0 == C k 0) = true → t = false) := fun h => unhide STOP (by rw [idIn_true h k hml]; rfl)
                                have HID := hide hid
                                have hmn : (m : Int) < (n : Int) := by omega
                                clear hBx hcm hid d4
                                generalize C m 0 = x at *
                                generalize C k 0 = y at *
                                cases hxy : (x == y) with
                                | false =>
                                  have HXY := hide hxy
                                  go_wp2
                                  go_quiet (fail)
                                  go_wp2
                                  go_roundw
                                  case rel => exact ⟨m + 1, by omega, by go_num, by rw [unhide HST, unhide HID, unhide HXY]; rfl, grown_drewN hgi _⟩
                                  case measure => simp [intOf]; omega
                                | true =>
                                  have HXY := hide hxy
                                  go_wp2
                                  go_quiet (fail)
                                  go_wp2
                                  go_ret
                                  exact ⟨ret_bool (by rw [unhide HTR (unhide HXY)]), grown_trans (unhide GR) (grown_trans (unhide GK) (grown_drewN hgi _))⟩
                              · have hmk : m = k := by omega
                                subst hmk
                                have c1 : wr.cell? ⟨wo.heap.size, 1, none⟩ = some (.int .i64 (C m 1)) := by rw [cell_of_row wr _ 1 _ _ (0, 0) hBx]; rfl
                                have c2 : wr.cell? ⟨wo.heap.size, 2, none⟩ = some (.int .i64 (C m 2)) := by rw [cell_of_row wr _ 2 _ _ (0, 0) hBx]; rfl
                                have hmul := mul_small (of_decide_eq_true (unhide HU2)) (of_decide_eq_true (unhide HU3))
                                have hsb := unhide HSB
                                have HID := hide hid
                                clear hBx hid d4
                                generalize C m 1 = x at *
                                generalize C m 2 = y at *
                                generalize hxy : x * y = z at *
                                have HXY := hide hxy
                                clear hxy
                                generalize sumHV C m = sm at *
                                clear hml hm
                                go_wp2
                                go_roundw
                                case rel => exact ⟨m + 1, by omega, by go_num, by rw [unhide HXY, IntWalk.wrap64_in z (by omega), IntWalk.wrap64_in (sm + z) (by omega), unhide HS2], by rw [unhide HS1, unhide HOK, unhide HID]; rfl, grown_trans (unhide GX) (grown_trans (unhide GK) hgi)⟩
                                case measure => simp [intOf]; omega
                  · have hkn : k = n := by omega
                    subst hkn
                    have HF : Hid (t = decide (sumHV C k ≤ 10)) := by unfold Hid; rw [unhide HR2, hok, Bool.true_and]
                    have hsb := sumHV_bounds k hok
                    clear hok
                    go_wp2
                    go_ret
                    exact ⟨ret_bool (by rw [unhide HF]), grown_trans (unhide G0) hgk⟩
        · have hdm : decide (16384 < wd * ht) = true := decide_eq_true (by omega)
          have HF : Hid (t = false) := by unfold Hid; rw [unhide HP, decide_eq_false hle]; rfl
          clear hle
          rcases hp with rfl | rfl
          all_goals
            go_enter Try.func50, Try.ntmps50
            go_wp2_with fail
            refine (between wd 1 256 _ HT1 _).mono ?_
            rintro e w1 ⟨rfl, rfl⟩
            go_wp2_with fail
            refine (between ht 1 256 _ HT2 _).mono ?_
            rintro e w1 ⟨rfl, rfl⟩
            go_wp2
            go_ret
            exact ⟨ret_bool (by rw [unhide HF]), unhide G0⟩
  · have HF : Hid (t = false) := by unfold Hid; rw [← unhide HFB, frameB, headB, m8, m12]; rfl
    clear HFB m8 m12
    go_enter Try.func50, Try.ntmps50
    go_wp2
    go_ret
    exact ⟨ret_bool (by rw [unhide HF]), unhide G0⟩

end Go.Proofs.Ytibgldanmhckiaa

namespace Go.Proofs.Ytibgldanmhckiaa
open Go.RowKit

theorem specUp (n d u : Int) (hn : 1 ≤ n ∧ n ≤ 1000000) (hd : 1 ≤ d ∧ d ≤ 1000000) (hu : Hid (upI n d = u)) (w : World) :
    Calls Try.prog 108 #[.int .i64 n, .int .i64 d] w fun e w' => e = .returned (.int .i64 u) ∧ w = w' := by
  have hd0 : (d == 0) = false := by simp; omega
  have hm1 : (d == -1) = false := by simp; omega
  have he : Hid ((n + d - 1) / d = u) := by rw [← unhide hu, upI, Int.tdiv_eq_ediv_of_nonneg (by omega)]; rfl
  go_enter Try.func108, Try.ntmps108
  go_wp2
  go_ret
  exact ⟨by simp [unhide he], rfl⟩

theorem frameCells' {w : World} {g : Nat} {a b c d v : Value} {t : TypeId} (hb : w.heap[g]? = some (.cells #[a, b, c, d, v] t (0, 0))) :
    w.cell? ⟨g, 0, none⟩ = some a ∧ w.cell? ⟨g, 1, none⟩ = some b ∧ w.cell? ⟨g, 2, none⟩ = some c ∧ w.cell? ⟨g, 3, none⟩ = some d ∧ w.cell? ⟨g, 4, none⟩ = some v :=
  ⟨by rw [cell_of_row w _ 0 _ _ (0, 0) hb]; rfl, by rw [cell_of_row w _ 1 _ _ (0, 0) hb]; rfl, by rw [cell_of_row w _ 2 _ _ (0, 0) hb]; rfl, by rw [cell_of_row w _ 3 _ _ (0, 0) hb]; rfl, by rw [cell_of_row w _ 4 _ _ (0, 0) hb]; rfl⟩

set_option maxHeartbeats 1600000 in
theorem specMost (p wd ht rs : Int) (ao : Option Addr) (n cap : Nat) (C : Nat → Nat → Int) (w : World) (hr : RdC w ao n C) (hn : n ≤ 4194304) (mh mv : Int) (HH : Hid (mostA 1 C 1 n = mh)) (HV : Hid (mostA 1 C 2 n = mv)) :
    Calls Try.prog 109 #[.agg #[.int .i64 p, .int .i64 wd, .int .i64 ht, .int .i64 rs, .slice ao n cap]] w fun e w' => e = .returned (.tuple #[.int .i64 mh, .int .i64 mv]) ∧ w.grownBy w' none := by
  have G0 : Hid (w.grownBy (w.alloc (.cells #[.int .i64 p, .int .i64 wd, .int .i64 ht, .int .i64 rs, .slice ao n cap] 26)) none) := grown_alloc (World.grownBy.refl _ _) _
  have HB := hide (heap_alloc_new w (.cells #[.int .i64 p, .int .i64 wd, .int .i64 ht, .int .i64 rs, .slice ao n cap] 26))
  have HR := hide (hr.grown (unhide G0))
  clear hr
  go_enter Try.func109, Try.ntmps109
  go_wp2
  generalize (w.alloc (.cells #[.int .i64 p, .int .i64 wd, .int .i64 ht, .int .i64 rs, .slice ao n cap] 26)) = wx at *
  have cf := frameCells' (unhide HB)
  go_loopw [4, 5, 6] (fun h v i wr => ∃ k : Nat, k ≤ n ∧ i = .int .i64 k ∧ h = .int .i64 (mostA 1 C 1 k) ∧ v = .int .i64 (mostA 1 C 2 k) ∧ wr = wx) (fun _ _ i _ => n - (intOf i).toNat)
  case atStart => exact ⟨0, Nat.zero_le _, rfl, rfl, rfl, rfl⟩
  case round =>
    obtain ⟨k, hk, rfl, rfl, rfl, rfl⟩ := hrel
    by_cases hlt : k < n
    · obtain ⟨bb, off, rfl, hc⟩ := (unhide HR) k hlt
      have c1 := hc 1 (by omega)
      have c2 := hc 2 (by omega)
      clear hc
      have S1 : Hid (mostA 1 C 1 (k + 1) = max (mostA 1 C 1 k) (C k 1)) := rfl
      have S2 : Hid (mostA 1 C 2 (k + 1) = max (mostA 1 C 2 k) (C k 2)) := rfl
      generalize mostA 1 C 1 k = m1 at *
      generalize mostA 1 C 2 k = m2 at *
      generalize C k 1 = x1 at *
      generalize C k 2 = x2 at *
      by_cases q1 : m1 < x1 <;> by_cases q2 : m2 < x2
      all_goals
        go_wp2
        go_roundw
        case rel => exact ⟨k + 1, by omega, by go_num, by rw [unhide S1]; first | rw [Int.max_eq_right (by omega)] | rw [Int.max_eq_left (by omega)], by rw [unhide S2]; first | rw [Int.max_eq_right (by omega)] | rw [Int.max_eq_left (by omega)], trivial⟩
        case measure => simp [intOf]; omega
    · have hkn : k = n := by omega
      subst hkn
      rw [unhide HH, unhide HV]
      go_wp2
      refine bodyPost_ret (v := .tuple #[.int .i64 mh, .int .i64 mv]) (by simp [results, Try.results109, go_sem]) rfl ⟨rfl, unhide G0⟩

end Go.Proofs.Ytibgldanmhckiaa

namespace Go.Proofs.Ytibgldanmhckiaa
open Go.RowKit

section
variable {P : Program} {md : Region.Mode} {Q : Exit → Act → World → Prop} {l : List Oper}

/-- Whether operation k is done. -/
def doneAt (listed : Array Bool) (k : Nat) : Prop := listed.getD k false = true
theorem doneAt_set {listed : Array Bool} {i k : Nat} (hi : i < listed.size) : doneAt (listed.setIfInBounds i true) k ↔ k = i ∨ doneAt listed k := by
  unfold doneAt
  rw [Array.getD_eq_getD_getElem?, Array.getElem?_setIfInBounds, Array.getD_eq_getD_getElem?]
  by_cases e : i = k
  · subst e; simp [hi]
  · rw [if_neg e]
    constructor
    · intro h; exact .inr h
    · rintro (h | h)
      · exact absurd h.symm e
      · exact h

/-- How many are not done. -/
def undone (listed : Array Bool) : Nat := listed.toList.countP (fun b => !b)
theorem undone_set {listed : Array Bool} {i : Nat} (h : listed.getD i true = false) : undone (listed.setIfInBounds i true) + 1 = undone listed := by
  have hi : i < listed.size := by
    rcases Nat.lt_or_ge i listed.size with h1 | h1
    · exact h1
    · rw [Array.getD_eq_getD_getElem?, Array.getElem?_eq_none h1] at h; simp at h
  have hb : listed.toList[i]? = some false := by
    rw [Array.getD_eq_getD_getElem?, Array.getElem?_eq_getElem hi] at h
    rw [Array.getElem?_toList, Array.getElem?_eq_getElem hi]
    simpa using h
  have key : ∀ (xs : List Bool) (i : Nat), xs[i]? = some false → (xs.set i true).countP (fun b => !b) + 1 = xs.countP (fun b => !b) := by
    intro xs
    induction xs with
    | nil => intro i h; simp at h
    | cons x xs ih =>
      intro i h
      cases i with
      | zero => simp at h; subst h; simp
      | succ i =>
        have := ih i (by simpa using h)
        rw [List.set_cons_succ, List.countP_cons, List.countP_cons]
        omega
  unfold undone
  rw [Array.toList_setIfInBounds]
  exact key _ _ hb

theorem ready_mem {listed : Array Bool} {i : Nat} (h : i ∈ Region.ready md l.toArray listed) : ∃ o, l[i]? = some o ∧ listed.getD i true = false ∧ ∀ e ∈ o.after, Region.binds md e = true → doneAt listed e.on := by
  unfold Region.ready at h
  rw [List.mem_filter] at h
  obtain ⟨_, h2⟩ := h
  rw [Bool.and_eq_true] at h2
  obtain ⟨h2, h3⟩ := h2
  cases ho : l[i]? with
  | none => simp [ho] at h3
  | some o =>
    refine ⟨o, rfl, by simpa using h2, fun e he hb => ?_⟩
    have h4 : o.after.all (fun e => !Region.binds md e || listed.getD e.on false) = true := by simpa [ho] using h3
    have h5 := (Array.all_eq_true_iff_forall_mem.1 h4) e he
    rw [hb] at h5
    simpa [doneAt] using h5

/-- Where every operation waits for earlier ones alone, none is ready only when all are done. -/
theorem all_done {listed : Array Bool} (hsz : listed.size = l.length) (hfw : ∀ (i : Nat) (o : Oper), l[i]? = some o → ∀ e ∈ o.after, e.on < i) (hr : Region.ready md l.toArray listed = []) : ∀ i, i < l.length → doneAt listed i := by
  intro i
  induction i using Nat.strongRecOn with
  | _ i ih =>
    intro hi
    by_cases hd : doneAt listed i
    · exact hd
    · exfalso
      have hmem : i ∈ Region.ready md l.toArray listed := by
        unfold Region.ready
        rw [List.mem_filter]
        refine ⟨by simpa using hi, ?_⟩
        have ho : l[i]? = some l[i] := List.getElem?_eq_getElem hi
        have hf : listed.getD i true = false := by
          unfold doneAt at hd
          rw [Array.getD_eq_getD_getElem?, Array.getElem?_eq_getElem (by omega)] at hd ⊢
          simpa using hd
        rw [Bool.and_eq_true]
        refine ⟨by simp [hf], ?_⟩
        have h4 : (l[i]).after.all (fun e => !Region.binds md e || listed.getD e.on false) = true := by
          rw [Array.all_eq_true_iff_forall_mem]
          intro e he
          have hlt := hfw i _ ho e he
          have := ih e.on hlt (by omega)
          unfold doneAt at this
          rw [this, Bool.or_true]
        simpa [ho] using h4
      rw [hr] at hmem
      simp at hmem

theorem any_inv (I : Array Bool → Act → World → Prop)
    (step : ∀ (i : Nat) (o : Oper) (listed : Array Bool) (a : Act) (w : World), l[i]? = some o → listed.size = l.length → i < listed.size → ¬ doneAt listed i → (∀ e ∈ o.after, Region.binds md e = true → doneAt listed e.on) → I listed a w →
      ∀ K' : Act → World → Prop, Shut (∀ a' w', I (listed.setIfInBounds i true) a' w' → K' a' w') → if Region.wanted o (yielded l.toArray a.tmps) = true then Oper.wp P o a w K' Q else K' (a.put o.dst undef) w)
    (done : ∀ listed a w, listed.size = l.length → Region.ready md l.toArray listed = [] → I listed a w → Q .normal a w) :
    ∀ (fuel : Nat) (listed : Array Bool) (a : Act) (w : World), listed.size = l.length → undone listed ≤ fuel → I listed a w → wpAny P md l.toArray Q fuel listed a w := by
  have lt_of : ∀ {listed : Array Bool} {i : Nat}, listed.getD i true = false → i < listed.size := by
    intro listed i h
    rcases Nat.lt_or_ge i listed.size with h1 | h1
    · exact h1
    · rw [Array.getD_eq_getD_getElem?, Array.getElem?_eq_none h1] at h; simp at h
  intro fuel
  induction fuel with
  | zero =>
    intro listed a w hsz hu hI
    have hr : Region.ready md l.toArray listed = [] := by
      apply List.eq_nil_iff_forall_not_mem.2
      intro i hi
      obtain ⟨o, _, hf, _⟩ := ready_mem hi
      have := undone_set hf
      omega
    exact ⟨hr, done listed a w hsz hr hI⟩
  | succ fuel ih =>
    intro listed a w hsz hu hI
    refine ⟨fun hr => done listed a w hsz hr hI, fun i hi => ?_⟩
    obtain ⟨o, ho, hf, hdep⟩ := ready_mem hi
    have hlt := lt_of hf
    have hnd : ¬ doneAt listed i := by
      unfold doneAt
      rw [Array.getD_eq_getD_getElem?, Array.getElem?_eq_getElem hlt] at hf ⊢
      simpa using hf
    have hu2 := undone_set hf
    refine wpOp_step (by simpa using ho) (fun K' hK => step i o listed a w ho hsz hlt hnd hdep hI K' (fun a' w' hI' => hK a' w' (ih _ a' w' (by simpa using hsz) (by omega) hI')))
end

/-- A region that draws its order, by an invariant. -/
theorem wp_region_inv {P : Program} {id : Nat} {Q : Exit → Act → World → Prop} {a : Act} {w : World} {l : List Oper} (I : Array Bool → Act → World → Prop) (hm : P.follows .mixedOrders = true)
    (hfw : ∀ (i : Nat) (o : Oper), l[i]? = some o → ∀ e ∈ o.after, e.on < i)
    (start : I (Array.replicate l.length false) a w.drew)
    (step : ∀ (i : Nat) (o : Oper) (listed : Array Bool) (a : Act) (w : World), l[i]? = some o → listed.size = l.length → i < listed.size → ¬ doneAt listed i → (∀ e ∈ o.after, Region.binds .any e = true → doneAt listed e.on) → I listed a w →
      ∀ K' : Act → World → Prop, Shut (∀ a' w', I (listed.setIfInBounds i true) a' w' → K' a' w') → if Region.wanted o (yielded l.toArray a.tmps) = true then Oper.wp P o a w K' Q else K' (a.put o.dst undef) w)
    (done : ∀ listed a w, (∀ i, i < l.length → doneAt listed i) → I listed a w → Q .normal a w) : (Code.region id l.toArray true).wp P Q a w := by
  refine wp_region_any hm ?_
  have hu : undone (Array.replicate l.toArray.size false) ≤ l.toArray.size := by
    unfold undone
    exact Nat.le_trans List.countP_le_length (by simp)
  exact any_inv I step (fun listed a' w' hsz hr hI => done listed a' w' (all_done hsz hfw hr) hI) _ _ a _ (by simp) hu (by simpa using start)

/-- Every operation waits for earlier ones alone. -/
def fwB : Nat → List Oper → Bool
  | _, [] => true
  | k, o :: rest => o.after.all (fun e => decide (e.on < k)) && fwB (k + 1) rest
theorem fwB_get : ∀ (l : List Oper) (k : Nat), fwB k l = true → ∀ (i : Nat) (o : Oper), l[i]? = some o → ∀ e ∈ o.after, e.on < k + i
  | [], _, _, i, o, h => by simp at h
  | x :: l, k, hB, i, o, h => by
    rw [fwB, Bool.and_eq_true] at hB
    intro e he
    cases i with
    | zero =>
      simp at h; subst h
      exact of_decide_eq_true ((Array.all_eq_true_iff_forall_mem.1 hB.1) e he)
    | succ i =>
      have := fwB_get l (k + 1) hB.2 i o (by simpa using h) e he
      omega

def depsF (listed : Array Bool) : List Edge → Prop
  | [] => True
  | e :: es => (Region.binds .any e = true → doneAt listed e.on) ∧ depsF listed es
theorem depsF_of {listed : Array Bool} : ∀ (es : List Edge), (∀ e ∈ es, Region.binds .any e = true → doneAt listed e.on) → depsF listed es
  | [], _ => trivial
  | e :: es, h => ⟨h e (by simp), depsF_of es (fun e' he' => h e' (by simp [he']))⟩

theorem depsF_mem {listed : Array Bool} : ∀ {es : List Edge}, depsF listed es → ∀ e ∈ es, Region.binds .any e = true → doneAt listed e.on
  | [], _, e, he, _ => by simp at he
  | x :: es, h, e, he, hb => by
    rcases List.mem_cons.1 he with rfl | he
    · exact h.1 hb
    · exact depsF_mem h.2 e he hb

/-- One proof for each operation. -/
def stepsF (P : Program) (ops : Array Oper) (Q : Exit → Act → World → Prop) (I : Array Bool → Act → World → Prop) : List Oper → Nat → Prop
  | [], _ => True
  | o :: rest, k => (∀ (listed : Array Bool) (a : Act) (w : World), k < listed.size → ¬ doneAt listed k → depsF listed o.after.toList → I listed a w →
      ∀ K' : Act → World → Prop, Shut (∀ a' w', I (listed.setIfInBounds k true) a' w' → K' a' w') → if Region.wanted o (yielded ops a.tmps) = true then Oper.wp P o a w K' Q else K' (a.put o.dst undef) w) ∧ stepsF P ops Q I rest (k + 1)
theorem stepsF_get {P : Program} {ops : Array Oper} {Q : Exit → Act → World → Prop} {I : Array Bool → Act → World → Prop} : ∀ (l : List Oper) (k : Nat), stepsF P ops Q I l k → ∀ (i : Nat) (o : Oper), l[i]? = some o →
    ∀ (listed : Array Bool) (a : Act) (w : World), k + i < listed.size → ¬ doneAt listed (k + i) → depsF listed o.after.toList → I listed a w →
      ∀ K' : Act → World → Prop, Shut (∀ a' w', I (listed.setIfInBounds (k + i) true) a' w' → K' a' w') → if Region.wanted o (yielded ops a.tmps) = true then Oper.wp P o a w K' Q else K' (a.put o.dst undef) w
  | [], _, _, i, o, h => by simp at h
  | x :: l, k, hS, i, o, h => by
    cases i with
    | zero => simp at h; subst h; exact hS.1
    | succ i =>
      have := stepsF_get l (k + 1) hS.2 i o (by simpa using h)
      rw [show k + 1 + i = k + (i + 1) by omega] at this
      exact this

theorem wp_region_steps {P : Program} {id : Nat} {Q : Exit → Act → World → Prop} {a : Act} {w : World} {l : List Oper} (I : Array Bool → Act → World → Prop) (hm : P.follows .mixedOrders = true)
    (hfw : fwB 0 l = true) (start : I (Array.replicate l.length false) a w.drew) (steps : stepsF P l.toArray Q I l 0)
    (done : ∀ listed a w, (∀ i, i < l.length → doneAt listed i) → I listed a w → Q .normal a w) : (Code.region id l.toArray true).wp P Q a w :=
  wp_region_inv I hm (fun i o ho e he => by have := fwB_get l 0 hfw i o ho e he; omega) start
    (fun i o listed a w ho _ hi hnd hdep hI K' hK => by
      have := stepsF_get l 0 steps i o ho listed a w (by omega) (by rw [Nat.zero_add]; exact hnd) (depsF_of _ (fun e he => hdep e (by simpa using he))) hI K'
      rw [Nat.zero_add] at this
      exact this hK) done
theorem not_done_start (m k : Nat) : ¬ doneAt (Array.replicate m false) k := by
  unfold doneAt
  rw [Array.getD_eq_getD_getElem?, Array.getElem?_replicate]
  split <;> simp

end Go.Proofs.Ytibgldanmhckiaa

namespace Go.Proofs.Ytibgldanmhckiaa
open Go.RowKit

def updA (v : Nat → Value) (d : Nat) (x : Value) : Nat → Value := fun i => if i = d then x else v i
theorem updA_same (v : Nat → Value) (d : Nat) (x : Value) : updA v d x d = x := by simp [updA]
theorem updA_other (v : Nat → Value) {d i : Nat} (x : Value) (h : i ≠ d) : updA v d x i = v i := by simp [updA, h]

/-- A new cell with an area in it, which is (a, b) where it has been laid. -/
def CellA (wx w : World) (v : Value) (laid : Prop) (a b : Int) : Prop := ∃ g, v = .pointer (some ⟨g, 0, none⟩) ∧ wx.heap.size ≤ g ∧ ∃ x y : Int, w.heap[g]? = some (.cells #[.int .i64 x, .int .i64 y] 115 (0, 0)) ∧ (laid → x = a ∧ y = b)
theorem CellA.grown {wx w w' : World} {v : Value} {laid laid' : Prop} {a b : Int} (h : CellA wx w v laid a b) (hg : w.grownBy w' none) (hl : laid' → laid) : CellA wx w' v laid' a b := by
  obtain ⟨g, e, h1, x, y, h2, h3⟩ := h
  exact ⟨g, e, h1, x, y, (hg.block g (Array.getElem?_eq_some_iff.1 h2).1 (by simp)).trans h2, fun q => h3 (hl q)⟩

/-- What holds while the region goes. -/
structure InvA (wx : World) (X : Array Value) (c a b a' b' : Int) (v : Nat → Value) (listed : Array Bool) (w : World) : Prop where
  grown : wx.grownBy w none
  d0 : doneAt listed 0 → v 7 = .agg X
  d1 : doneAt listed 1 → v 8 = .int .i64 c
  d2 : doneAt listed 2 → v 9 = .agg #[.int .i64 a, .int .i64 b]
  d3 : doneAt listed 3 → v 10 = .agg X
  d4 : doneAt listed 4 → v 11 = .agg #[.int .i64 a', .int .i64 b']
  d5 : doneAt listed 5 → CellA wx w (v 5) (doneAt listed 7) a b
  d6 : doneAt listed 6 → CellA wx w (v 6) (doneAt listed 8) a' b'
  ne : doneAt listed 5 → doneAt listed 6 → v 5 ≠ v 6
  o7 : doneAt listed 7 → doneAt listed 5
  o8 : doneAt listed 8 → doneAt listed 6

section
variable {wx w w' : World} {X : Array Value} {c a b a' b' : Int} {v : Nat → Value} {listed : Array Bool} {k : Nat}

def yieldA (X : Array Value) (c a b a' b' : Int) (x : Value) : Nat → Prop
  | 0 => x = .agg X
  | 1 => x = .int .i64 c
  | 2 => x = .agg #[.int .i64 a, .int .i64 b]
  | 3 => x = .agg X
  | 4 => x = .agg #[.int .i64 a', .int .i64 b']
  | _ => False

theorem InvA.step (h : InvA wx X c a b a' b' v listed w) (hi : k < listed.size) (hg : w.grownBy w' none) {x : Value} (hx : yieldA X c a b a' b' x k) : InvA wx X c a b a' b' (updA v (k + 7) x) (listed.setIfInBounds k true) w' := by
  have hk : k ≤ 4 := by
    by_cases h : k ≤ 4
    · exact h
    · exfalso
      have : 5 ≤ k := by omega
      match k, this, hx with
      | k + 5, _, hx => exact hx
  have dn : ∀ j, doneAt (listed.setIfInBounds k true) j → j = k ∨ doneAt listed j := fun j h => (doneAt_set hi).1 h
  have one : ∀ (j : Nat) (P : Value → Prop), (j = k → P x) → (doneAt listed j → P (v (j + 7))) → doneAt (listed.setIfInBounds k true) j → P (updA v (k + 7) x (j + 7)) := by
    intro j P h1 h2 h3
    by_cases e : j = k
    · subst e; rw [updA_same]; exact h1 rfl
    · rw [updA_other v x (by omega)]
      rcases dn j h3 with h | h
      · exact absurd h e
      · exact h2 h
  have far : ∀ j, 5 ≤ j → doneAt (listed.setIfInBounds k true) j → doneAt listed j := fun j hj h3 => by
    rcases dn j h3 with h | h
    · omega
    · exact h
  refine ⟨grown_trans h.grown hg, one 0 (fun u => u = .agg X) (fun e => by rw [← e] at hx; exact hx) h.d0, one 1 (fun u => u = .int .i64 c) (fun e => by rw [← e] at hx; exact hx) h.d1, one 2 (fun u => u = .agg #[.int .i64 a, .int .i64 b]) (fun e => by rw [← e] at hx; exact hx) h.d2, one 3 (fun u => u = .agg X) (fun e => by rw [← e] at hx; exact hx) h.d3, one 4 (fun u => u = .agg #[.int .i64 a', .int .i64 b']) (fun e => by rw [← e] at hx; exact hx) h.d4, fun q => ?_, fun q => ?_, fun q q' => ?_, fun q => (doneAt_set hi).2 (.inr (h.o7 (far 7 (by omega) q))), fun q => (doneAt_set hi).2 (.inr (h.o8 (far 8 (by omega) q)))⟩
  · rw [updA_other v x (by omega)]; exact (h.d5 (far 5 (by omega) q)).grown hg (far 7 (by omega))
  · rw [updA_other v x (by omega)]; exact (h.d6 (far 6 (by omega) q)).grown hg (far 8 (by omega))
  · rw [updA_other v x (by omega), updA_other v x (by omega)]; exact h.ne (far 5 (by omega) q) (far 6 (by omega) q')

theorem CellA.lt {laid : Prop} {u : Value} (h : CellA wx w u laid a b) : ∃ g, u = .pointer (some ⟨g, 0, none⟩) ∧ g < w.heap.size := by
  obtain ⟨g, e, _, x, y, h2, _⟩ := h
  exact ⟨g, e, (Array.getElem?_eq_some_iff.1 h2).1⟩

theorem InvA.alloc (h : InvA wx X c a b a' b' v listed w) (hi : k < listed.size) (hk : k = 5 ∨ k = 6) (hnd : ¬ doneAt listed k) :
    InvA wx X c a b a' b' (updA v k (.pointer (some ⟨w.heap.size, 0, none⟩))) (listed.setIfInBounds k true) (w.alloc (.cells #[.int .i64 0, .int .i64 0] 115)) := by
  have dn : ∀ j, j ≠ k → doneAt (listed.setIfInBounds k true) j → doneAt listed j := fun j hj h => by
    rcases (doneAt_set hi).1 h with h | h
    · exact absurd h hj
    · exact h
  have hg : w.grownBy (w.alloc (.cells #[.int .i64 0, .int .i64 0] 115)) none := World.grownBy_alloc _ _ none
  have new : ∀ (laid : Prop) (a b : Int), ¬ laid → CellA wx (w.alloc (.cells #[.int .i64 0, .int .i64 0] 115)) (.pointer (some ⟨w.heap.size, 0, none⟩)) laid a b := fun laid a b hl => ⟨w.heap.size, rfl, h.grown.size, 0, 0, heap_alloc_new _ _, fun q => absurd q hl⟩
  have o7 : doneAt (listed.setIfInBounds k true) 7 → doneAt (listed.setIfInBounds k true) 5 := fun q => (doneAt_set hi).2 (.inr (h.o7 (dn 7 (by omega) q)))
  have o8 : doneAt (listed.setIfInBounds k true) 8 → doneAt (listed.setIfInBounds k true) 6 := fun q => (doneAt_set hi).2 (.inr (h.o8 (dn 8 (by omega) q)))
  have h7 : ¬ doneAt listed (k + 2) := by
    rcases hk with rfl | rfl
    · exact fun q => hnd (h.o7 q)
    · exact fun q => hnd (h.o8 q)
  rcases hk with rfl | rfl
  · refine ⟨grown_trans h.grown hg, fun q => ?_, fun q => ?_, fun q => ?_, fun q => ?_, fun q => ?_, fun q => ?_, fun q => ?_, fun q q' => ?_, o7, o8⟩
    · rw [updA_other v _ (by omega)]; exact h.d0 (dn 0 (by omega) q)
    · rw [updA_other v _ (by omega)]; exact h.d1 (dn 1 (by omega) q)
    · rw [updA_other v _ (by omega)]; exact h.d2 (dn 2 (by omega) q)
    · rw [updA_other v _ (by omega)]; exact h.d3 (dn 3 (by omega) q)
    · rw [updA_other v _ (by omega)]; exact h.d4 (dn 4 (by omega) q)
    · rw [updA_same]; exact new _ _ _ (fun q => h7 (dn 7 (by omega) q))
    · rw [updA_other v _ (by omega)]; exact (h.d6 (dn 6 (by omega) q)).grown hg (dn 8 (by omega))
    · rw [updA_same, updA_other v _ (by omega)]
      obtain ⟨g, e, hlt⟩ := (h.d6 (dn 6 (by omega) q')).lt
      rw [e]; intro e'; simp at e'; first | done | omega
  · refine ⟨grown_trans h.grown hg, fun q => ?_, fun q => ?_, fun q => ?_, fun q => ?_, fun q => ?_, fun q => ?_, fun q => ?_, fun q q' => ?_, o7, o8⟩
    · rw [updA_other v _ (by omega)]; exact h.d0 (dn 0 (by omega) q)
    · rw [updA_other v _ (by omega)]; exact h.d1 (dn 1 (by omega) q)
    · rw [updA_other v _ (by omega)]; exact h.d2 (dn 2 (by omega) q)
    · rw [updA_other v _ (by omega)]; exact h.d3 (dn 3 (by omega) q)
    · rw [updA_other v _ (by omega)]; exact h.d4 (dn 4 (by omega) q)
    · rw [updA_other v _ (by omega)]; exact (h.d5 (dn 5 (by omega) q)).grown hg (dn 7 (by omega))
    · rw [updA_same]; exact new _ _ _ (fun q => h7 (dn 8 (by omega) q))
    · rw [updA_same, updA_other v _ (by omega)]
      obtain ⟨g, e, hlt⟩ := (h.d5 (dn 5 (by omega) q)).lt
      rw [e]; intro e'; simp at e'; first | done | omega

/-- Both cells of an area are written. -/
def putA (w : World) (g : Nat) (x y : Int) : World := (w.setCell ⟨g, 0, none⟩ (.int .i64 x)).setCell ⟨g, 1, none⟩ (.int .i64 y)
theorem putA_grown (w : World) (g : Nat) (x y : Int) : w.grownBy (putA w g x y) (some g) := grown_trans (grown_set _ _ _ _) (grown_set _ _ _ _)
theorem putA_at {g : Nat} {p q : Value} {t : TypeId} (x y : Int) (h : w.heap[g]? = some (.cells #[p, q] t (0, 0))) : (putA w g x y).heap[g]? = some (.cells #[.int .i64 x, .int .i64 y] t (0, 0)) :=
  heap_setCell_same _ _ 1 _ _ _ (heap_setCell_same _ _ 0 _ _ _ h)

theorem CellA.beside {u : Value} {laid laid' : Prop} {g : Nat} {x y : Int} (h : CellA wx w u laid a b) (hne : u ≠ .pointer (some ⟨g, 0, none⟩)) (hl : laid' → laid) : CellA wx (putA w g x y) u laid' a b := by
  obtain ⟨g', e, h1, p, q, h2, h3⟩ := h
  exact ⟨g', e, h1, p, q, ((putA_grown w g x y).block g' (Array.getElem?_eq_some_iff.1 h2).1 (by simp; intro e'; exact hne (by rw [e, e']))).trans h2, fun r => h3 (hl r)⟩

theorem InvA.store5 (h : InvA wx X c a b a' b' v listed w) (hi : 7 < listed.size) {g : Nat} (e : v 5 = .pointer (some ⟨g, 0, none⟩)) (h5 : doneAt listed 5) : InvA wx X c a b a' b' v (listed.setIfInBounds 7 true) (putA w g a b) := by
  have dn : ∀ j, j ≠ 7 → doneAt (listed.setIfInBounds 7 true) j → doneAt listed j := fun j hj h => by
    rcases (doneAt_set hi).1 h with h | h
    · exact absurd h hj
    · exact h
  obtain ⟨g', e', h1, p, q, h2, _⟩ := h.d5 h5
  obtain rfl : g = g' := by rw [e] at e'; simpa using e'
  refine ⟨grown_new h.grown (putA_grown w g a b) (fun g' e' => by simp at e'; omega), fun q => h.d0 (dn 0 (by omega) q), fun q => h.d1 (dn 1 (by omega) q), fun q => h.d2 (dn 2 (by omega) q), fun q => h.d3 (dn 3 (by omega) q), fun q => h.d4 (dn 4 (by omega) q),
    fun _ => ⟨g, e, h1, a, b, putA_at a b h2, fun _ => ⟨rfl, rfl⟩⟩, fun q => (h.d6 (dn 6 (by omega) q)).beside (fun e' => h.ne h5 (dn 6 (by omega) q) (by rw [e, e'])) (dn 8 (by omega)), fun q q' => h.ne (dn 5 (by omega) q) (dn 6 (by omega) q'), fun _ => (doneAt_set hi).2 (.inr h5), fun q => (doneAt_set hi).2 (.inr (h.o8 (dn 8 (by omega) q)))⟩

theorem InvA.store6 (h : InvA wx X c a b a' b' v listed w) (hi : 8 < listed.size) {g : Nat} (e : v 6 = .pointer (some ⟨g, 0, none⟩)) (h6 : doneAt listed 6) : InvA wx X c a b a' b' v (listed.setIfInBounds 8 true) (putA w g a' b') := by
  have dn : ∀ j, j ≠ 8 → doneAt (listed.setIfInBounds 8 true) j → doneAt listed j := fun j hj h => by
    rcases (doneAt_set hi).1 h with h | h
    · exact absurd h hj
    · exact h
  obtain ⟨g', e', h1, p, q, h2, _⟩ := h.d6 h6
  obtain rfl : g = g' := by rw [e] at e'; simpa using e'
  refine ⟨grown_new h.grown (putA_grown w g a' b') (fun g' e' => by simp at e'; omega), fun q => h.d0 (dn 0 (by omega) q), fun q => h.d1 (dn 1 (by omega) q), fun q => h.d2 (dn 2 (by omega) q), fun q => h.d3 (dn 3 (by omega) q), fun q => h.d4 (dn 4 (by omega) q),
    fun q => (h.d5 (dn 5 (by omega) q)).beside (fun e' => h.ne (dn 5 (by omega) q) h6 (by rw [e, e'])) (dn 7 (by omega)), fun _ => ⟨g, e, h1, a', b', putA_at a' b' h2, fun _ => ⟨rfl, rfl⟩⟩, fun q q' => h.ne (dn 5 (by omega) q) (dn 6 (by omega) q'), fun q => (doneAt_set hi).2 (.inr (h.o7 (dn 7 (by omega) q))), fun _ => (doneAt_set hi).2 (.inr h6)⟩
end

end Go.Proofs.Ytibgldanmhckiaa

namespace Go.Proofs.Ytibgldanmhckiaa
open Go.RowKit

def actP (X : Array Value) (c : Int) (rx : Nat) (v : Nat → Value) : Act := { tmps := #[.agg X, .int .i64 c, .pointer (some ⟨rx, 0, none⟩), undef, .pointer (some ⟨rx + 1, 0, none⟩), v 5, v 6, v 7, v 8, v 9, v 10, v 11, undef, undef, undef, undef, undef, undef, undef, undef, undef, undef, undef, undef, undef, undef, undef, undef, undef], defers := [] }

set_option maxRecDepth 20000 in
set_option maxHeartbeats 3200000 in
theorem plane (X : Array Value) (p wd ht rs : Int) (n : Nat) (C : Nat → Nat → Int) (hX : Fx X p wd ht rs n C) (mh mv : Int) (hg : Geo wd ht n C mh mv) (c : Nat) (hc : c < n) (u v : Int) (HU : Hid (upI (wd * C c 1) mh = u)) (HV : Hid (upI (ht * C c 2) mv = v)) (w : World) :
    Calls Try.prog 105 #[.agg X, .int .i64 c] w fun e w' => e = .returned (.agg #[.int .i64 u, .int .i64 v]) ∧ w.grownBy w' none := by
  have hs := hX.size
  have hn4 := hg.n4
  have F1 := hide (fun w => shares X p wd ht rs n C hX c (by omega) w)
  have F2 := hide (fun w => most X p wd ht rs n C hX hg.n4 mh mv hg.h0 hg.v0 w)
  have HX1 := hX.c1
  have HX2 := hX.c2
  obtain ⟨h1, h2⟩ : (1 ≤ C c 1 ∧ C c 1 ≤ 4) ∧ (1 ≤ C c 2 ∧ C c 2 ≤ 4) := ⟨hg.ch c hc, hg.cv c hc⟩
  have hmh := hg.hb
  have hmv := hg.vb
  have hwd := hg.wd
  have hht := hg.ht
  have P1 := mul_share (a := wd) ⟨hwd.1, by omega⟩ h1
  have P2 := mul_share (a := ht) ⟨hht.1, by omega⟩ h2
  obtain ⟨wx, hW0⟩ : ∃ wx, ((w.alloc (.cells X 73)).alloc (.cells #[.int .i64 0, .int .i64 0] 115)) = wx := ⟨_, rfl⟩
  have G0 : w.grownBy wx none := by rw [← hW0]; exact grown_alloc (grown_alloc (World.grownBy.refl _ _) _) _
  have b0 : wx.heap[w.heap.size]? = some (.cells X 73 (0, 0)) := by
    rw [← hW0, Below.heap_alloc _ _ _ (by simp)]
    exact heap_alloc_new w _
  have b1 : wx.heap[w.heap.size + 1]? = some (.cells #[.int .i64 0, .int .i64 0] 115 (0, 0)) := by
    rw [← hW0]
    have := heap_alloc_new (w.alloc (.cells X 73)) (.cells #[.int .i64 0, .int .i64 0] 115)
    simpa using this
  have hsz : wx.heap.size = w.heap.size + 2 := by rw [← hW0]; simp
  have HW := hide hW0
  have B0 := hide b0
  have B1 := hide b1
  have HG0 := hide G0
  clear hW0 b0 b1 G0
  clear hX hg
  go_enter Try.func105, Try.ntmps105
  go_wp2
  rw [unhide HW]
  clear HW
  generalize C c 1 = c1 at *
  generalize C c 2 = c2 at *
  have hw1 := i64_in (wd * c1) (by omega)
  have hw2 := i64_in (ht * c2) (by omega)
  refine wp_region_steps (fun listed a w' => ∃ v, a = actP X c w.heap.size v ∧ InvA wx X c c1 c2 mh mv v listed w') (by kernel_rfl) (by kernel_rfl) ?start ?steps ?done

  case start =>
    exact ⟨fun _ => undef, rfl, grown_drew (World.grownBy.refl _ _), fun h => absurd h (not_done_start _ _), fun h => absurd h (not_done_start _ _), fun h => absurd h (not_done_start _ _), fun h => absurd h (not_done_start _ _), fun h => absurd h (not_done_start _ _), fun h => absurd h (not_done_start _ _), fun h => absurd h (not_done_start _ _), fun h => absurd h (not_done_start _ _), fun h => absurd h (not_done_start _ _), fun h => absurd h (not_done_start _ _)⟩
  case steps =>
    have xB : ∀ w1, wx.grownBy w1 none → w1.heap[w.heap.size]? = some (.cells X 73 (0, 0)) := fun w1 g => (g.block w.heap.size (by omega) (by simp)).trans (unhide B0)
    refine ⟨?_, ?_⟩
    · rintro listed a w1 hi hnd hd ⟨v, rfl, hJ⟩ K hK
      unfold actP
      rw [if_pos (by rfl)]
      refine wp_load_mid 73 _ rfl w.heap.size 0 rfl X.toList _ (fun j u hu => by rw [cell_of_row w1 w.heap.size (0 + j) X _ (0, 0) (xB w1 hJ.grown)]; simpa using hu) Try.underlying73 rfl (by simp only [Array.length_toList]; rw [hs]; kernel_rfl) ?_
      exact hK.out _ _ ⟨_, rfl, hJ.step hi (World.grownBy.refl _ none) (x := .agg X) rfl⟩
    refine ⟨?_, ?_⟩
    · rintro listed a w1 hi hnd hd ⟨v, rfl, hJ⟩ K hK
      unfold actP
      go_simp
      exact hK.out _ _ ⟨_, rfl, hJ.step hi (World.grownBy.refl _ none) (x := .int .i64 c) rfl⟩
    refine ⟨?_, ?_⟩
    · rintro listed a w1 hi hnd hd ⟨v, rfl, hJ⟩ K hK
      have hd' : depsF listed [{ on := 0, ground := .data }, { on := 1, ground := .data }] := hd
      simp only [depsF, and_true] at hd'
      have e7 := hJ.d0 (hd'.1 (by rfl))
      have e8 := hJ.d1 (hd'.2 (by rfl))
      unfold actP
      rw [e7, e8]
      go_simp
      refine (unhide F1 w1).mono ?_
      rintro e w2 ⟨rfl, g2⟩
      exact hK.out _ _ ⟨updA v 9 _, (by simp [actP, updA, e7, e8]), hJ.step hi g2 rfl⟩
    refine ⟨?_, ?_⟩
    · rintro listed a w1 hi hnd hd ⟨v, rfl, hJ⟩ K hK
      unfold actP
      rw [if_pos (by rfl)]
      refine wp_load_mid 73 _ rfl w.heap.size 0 rfl X.toList _ (fun j u hu => by rw [cell_of_row w1 w.heap.size (0 + j) X _ (0, 0) (xB w1 hJ.grown)]; simpa using hu) Try.underlying73 rfl (by simp only [Array.length_toList]; rw [hs]; kernel_rfl) ?_
      exact hK.out _ _ ⟨_, rfl, hJ.step hi (World.grownBy.refl _ none) (x := .agg X) rfl⟩
    refine ⟨?_, ?_⟩
    · rintro listed a w1 hi hnd hd ⟨v, rfl, hJ⟩ K hK
      have hd' : depsF listed [{ on := 3, ground := .data }, { on := 2, ground := .chain }] := hd
      simp only [depsF, and_true] at hd'
      have e10 := hJ.d3 (hd'.1 (by rfl))
      unfold actP
      rw [e10]
      go_simp
      refine (unhide F2 w1).mono ?_
      rintro e w2 ⟨rfl, g2⟩
      exact hK.out _ _ ⟨updA v 11 _, (by simp [actP, updA, e10]), hJ.step hi g2 rfl⟩
    refine ⟨?_, ?_⟩
    · rintro listed a w1 hi hnd hd ⟨v, rfl, hJ⟩ K hK
      unfold actP
      go_simp
      exact hK.out _ _ ⟨_, rfl, hJ.alloc hi (.inl rfl) hnd⟩
    refine ⟨?_, ?_⟩
    · rintro listed a w1 hi hnd hd ⟨v, rfl, hJ⟩ K hK
      unfold actP
      go_simp
      exact hK.out _ _ ⟨_, rfl, hJ.alloc hi (.inr rfl) hnd⟩
    refine ⟨?_, ?_⟩
    · rintro listed a w1 hi hnd hd ⟨v, rfl, hJ⟩ K hK
      have d5 := depsF_mem hd { on := 5, ground := .data } (by simp) rfl
      have e9 := hJ.d2 (depsF_mem hd { on := 2, ground := .data } (by simp) rfl)
      obtain ⟨g, e5, hge, x, y, hb, _⟩ := hJ.d5 d5
      have cf := areaCells hb
      unfold actP
      rw [e5, e9]
      go_simp
      exact hK.out _ _ ⟨v, (by simp [actP, e5, e9]), hJ.store5 hi e5 d5⟩
    refine ⟨?_, trivial⟩
    · rintro listed a w1 hi hnd hd ⟨v, rfl, hJ⟩ K hK
      have d6 := depsF_mem hd { on := 6, ground := .data } (by simp) rfl
      have e11 := hJ.d4 (depsF_mem hd { on := 4, ground := .data } (by simp) rfl)
      obtain ⟨g, e6, hge, x, y, hb, _⟩ := hJ.d6 d6
      have cf := areaCells hb
      unfold actP
      rw [e6, e11]
      go_simp
      exact hK.out _ _ ⟨v, (by simp [actP, e6, e11]), hJ.store6 hi e6 d6⟩
  case done =>
    rintro listed a w1 hall ⟨v, rfl, hJ⟩
    obtain ⟨g5, e5, hge5, x5, y5, hb5, l5⟩ := hJ.d5 (hall 5 (by decide))
    obtain ⟨g6, e6, hge6, x6, y6, hb6, l6⟩ := hJ.d6 (hall 6 (by decide))
    obtain ⟨rfl, rfl⟩ := l5 (hall 7 (by decide))
    obtain ⟨rfl, rfl⟩ := l6 (hall 8 (by decide))
    have hB := (hJ.grown.block w.heap.size (by omega) (by simp)).trans (unhide B0)
    have hR := (hJ.grown.block (w.heap.size + 1) (by omega) (by simp)).trans (unhide B1)
    have gJ := hJ.grown
    have hne : g5 ≠ g6 := fun e => hJ.ne (hall 5 (by decide)) (hall 6 (by decide)) (by rw [e5, e6, e])
    unfold actP
    rw [e5, e6]
    clear hall hJ l5 l6 e5 e6
    generalize v 7 = v7
    generalize v 8 = v8
    generalize v 9 = v9
    generalize v 10 = v10
    generalize v 11 = v11
    clear v

    have cx1 : w1.cell? ⟨w.heap.size, 1, none⟩ = some (.int .i64 wd) := by rw [cell_of_row w1 _ 1 _ _ (0, 0) hB]; exact HX1
    have cx2 : w1.cell? ⟨w.heap.size, 2, none⟩ = some (.int .i64 ht) := by rw [cell_of_row w1 _ 2 _ _ (0, 0) hB]; exact HX2
    obtain ⟨c50, c51, _, _⟩ := areaCells hb5
    obtain ⟨c60, c61, _, _⟩ := areaCells hb6
    obtain ⟨cr0, cr1, f0, f1⟩ := areaCells hR
    clear hb5 hb6 hB F1 F2
    have KEEP : Hid (∀ u v, (putA w1 (w.heap.size + 1) u v).cell? ⟨w.heap.size, 1, none⟩ = some (.int .i64 wd) ∧ (putA w1 (w.heap.size + 1) u v).cell? ⟨w.heap.size, 2, none⟩ = some (.int .i64 ht) ∧ (putA w1 (w.heap.size + 1) u v).cell? ⟨g5, 0, none⟩ = some (.int .i64 x5) ∧ (putA w1 (w.heap.size + 1) u v).cell? ⟨g5, 1, none⟩ = some (.int .i64 y5) ∧ (putA w1 (w.heap.size + 1) u v).cell? ⟨g6, 0, none⟩ = some (.int .i64 x6) ∧ (putA w1 (w.heap.size + 1) u v).cell? ⟨g6, 1, none⟩ = some (.int .i64 y6)) := fun u v => ⟨(putA_grown _ _ _ _).cell cx1 (by simp), (putA_grown _ _ _ _).cell cx2 (by simp), (putA_grown _ _ _ _).cell c50 (by simp; omega), (putA_grown _ _ _ _).cell c51 (by simp; omega), (putA_grown _ _ _ _).cell c60 (by simp; omega), (putA_grown _ _ _ _).cell c61 (by simp; omega)⟩
    go_wp2
    go_region_held3 (fun w' => w'.cell? ⟨w.heap.size, 1, none⟩ = some (.int .i64 wd) ∧ w'.cell? ⟨w.heap.size, 2, none⟩ = some (.int .i64 ht) ∧ w'.cell? ⟨g5, 0, none⟩ = some (.int .i64 x5) ∧ w'.cell? ⟨g5, 1, none⟩ = some (.int .i64 y5) ∧ w'.cell? ⟨g6, 0, none⟩ = some (.int .i64 x6) ∧ w'.cell? ⟨g6, 1, none⟩ = some (.int .i64 y6)) (first | exact ⟨cx1, cx2, c50, c51, c60, c61⟩ | exact unhide KEEP _ _) (first | (go_at_call_of 106 (Value.int .i64 (wd * x5)); refine (divUp _ _ u (by omega) (by omega) HU _).mono ?_; rintro e w2 ⟨rfl, rfl⟩) | (go_at_call_of 106 (Value.int .i64 (ht * y5)); refine (divUp _ _ v (by omega) (by omega) HV _).mono ?_; rintro e w2 ⟨rfl, rfl⟩))
    go_wp2
    refine bodyPost_ret (v := .agg #[.int .i64 u, .int .i64 v]) (by simp [results, Try.results105, go_sem, cr0, cr1]) rfl ⟨rfl, ?_⟩
    exact grown_drew (grown_setNew (grown_setNew (grown_trans (unhide HG0) gJ) _ _ _ (by omega)) _ _ _ (by omega))

/-- Two numbers rounded up, laid into the answer. -/
theorem unitsOf_bounds {a m : Int} (ha : 1 ≤ a ∧ a ≤ 256) (hm : 1 ≤ m ∧ m ≤ 4) : 1 ≤ upI a (8 * m) ∧ upI a (8 * m) ≤ a := upI_pos ha.1 (by omega)

set_option maxRecDepth 20000 in
set_option maxHeartbeats 3200000 in
theorem units (X : Array Value) (p wd ht rs : Int) (n : Nat) (C : Nat → Nat → Int) (hX : Fx X p wd ht rs n C) (mh mv : Int) (hg : Geo wd ht n C mh mv) (u v : Int) (HU : Hid (upI wd (8 * mh) = u)) (HV : Hid (upI ht (8 * mv) = v)) (w : World) :
    Calls Try.prog 111 #[.agg X] w fun e w' => e = .returned (.agg #[.int .i64 u, .int .i64 v]) ∧ w.grownBy w' none := by
  have hs := hX.size
  have F2 := hide (fun w => most X p wd ht rs n C hX hg.n4 mh mv hg.h0 hg.v0 w)
  have HX1 := hX.c1
  have HX2 := hX.c2
  have hmh := hg.hb
  have hmv := hg.vb
  have hwd := hg.wd
  have hht := hg.ht
  obtain ⟨wx, hW0⟩ : ∃ wx, ((w.alloc (.cells X 73)).alloc (.cells #[.int .i64 0, .int .i64 0] 115)) = wx := ⟨_, rfl⟩
  have G0 : w.grownBy wx none := by rw [← hW0]; exact grown_alloc (grown_alloc (World.grownBy.refl _ _) _) _
  have b0 : wx.heap[w.heap.size]? = some (.cells X 73 (0, 0)) := by
    rw [← hW0, Below.heap_alloc _ _ _ (by simp)]
    exact heap_alloc_new w _
  have b1 : wx.heap[w.heap.size + 1]? = some (.cells #[.int .i64 0, .int .i64 0] 115 (0, 0)) := by
    rw [← hW0]
    have := heap_alloc_new (w.alloc (.cells X 73)) (.cells #[.int .i64 0, .int .i64 0] 115)
    simpa using this
  have hsz : wx.heap.size = w.heap.size + 2 := by rw [← hW0]; simp
  have HW := hide hW0
  have B0 := hide b0
  have B1 := hide b1
  have HG0 := hide G0
  clear hW0 b0 b1 G0
  clear hX hg
  have hw1 := i64_in (8 * mh) (by omega)
  have hw2 := i64_in (8 * mv) (by omega)
  have bB := unhide B0
  go_enter Try.func111, Try.ntmps111
  go_wp2_with (first | (rw [unhide HW]; refine wpList_load_row rfl 73 _ rfl w.heap.size rfl X 73 bB _ Try.underlying73 rfl (by rw [hs]; kernel_rfl) ?_))
  refine (unhide F2 wx).mono ?_
  rintro e w1 ⟨rfl, g1⟩
  obtain ⟨W2, hW2⟩ : ∃ W2, w1.alloc (.cells #[.int .i64 mh, .int .i64 mv] 115) = W2 := ⟨_, rfl⟩
  have g2 : wx.grownBy W2 none := by rw [← hW2]; exact grown_alloc g1 _
  have hb6 : W2.heap[w1.heap.size]? = some (.cells #[.int .i64 mh, .int .i64 mv] 115 (0, 0)) := by rw [← hW2]; exact heap_alloc_new _ _
  have hs1 := g1.size
  have hB := (g2.block w.heap.size (by omega) (by simp)).trans (unhide B0)
  have hR := (g2.block (w.heap.size + 1) (by omega) (by simp)).trans (unhide B1)
  have cx1 : W2.cell? ⟨w.heap.size, 1, none⟩ = some (.int .i64 wd) := by rw [cell_of_row W2 _ 1 _ _ (0, 0) hB]; exact HX1
  have cx2 : W2.cell? ⟨w.heap.size, 2, none⟩ = some (.int .i64 ht) := by rw [cell_of_row W2 _ 2 _ _ (0, 0) hB]; exact HX2
  obtain ⟨c60, c61, _, _⟩ := areaCells hb6
  obtain ⟨cr0, cr1, f0, f1⟩ := areaCells hR
  have KEEP : Hid (∀ u v, (putA W2 (w.heap.size + 1) u v).cell? ⟨w.heap.size, 1, none⟩ = some (.int .i64 wd) ∧ (putA W2 (w.heap.size + 1) u v).cell? ⟨w.heap.size, 2, none⟩ = some (.int .i64 ht) ∧ (putA W2 (w.heap.size + 1) u v).cell? ⟨w1.heap.size, 0, none⟩ = some (.int .i64 mh) ∧ (putA W2 (w.heap.size + 1) u v).cell? ⟨w1.heap.size, 1, none⟩ = some (.int .i64 mv)) := fun u v => ⟨(putA_grown _ _ _ _).cell cx1 (by simp), (putA_grown _ _ _ _).cell cx2 (by simp), (putA_grown _ _ _ _).cell c60 (by simp; omega), (putA_grown _ _ _ _).cell c61 (by simp; omega)⟩
  have HW2 := hide hW2
  clear hW2 hb6 hB F2 hR
  go_wp2
  rw [unhide HW2]
  clear HW2
  go_region_held3 (fun w' => w'.cell? ⟨w.heap.size, 1, none⟩ = some (.int .i64 wd) ∧ w'.cell? ⟨w.heap.size, 2, none⟩ = some (.int .i64 ht) ∧ w'.cell? ⟨w1.heap.size, 0, none⟩ = some (.int .i64 mh) ∧ w'.cell? ⟨w1.heap.size, 1, none⟩ = some (.int .i64 mv)) (first | exact ⟨cx1, cx2, c60, c61⟩ | exact unhide KEEP _ _) (first | (go_at_call_of 106 (Value.int .i64 wd); refine (divUp _ _ u (by omega) (by omega) HU _).mono ?_; rintro e w2 ⟨rfl, rfl⟩) | (go_at_call_of 106 (Value.int .i64 ht); refine (divUp _ _ v (by omega) (by omega) HV _).mono ?_; rintro e w2 ⟨rfl, rfl⟩))
  go_wp2
  refine bodyPost_ret (v := .agg #[.int .i64 u, .int .i64 v]) (by simp [results, Try.results111, go_sem, cr0, cr1]) rfl ⟨rfl, ?_⟩
  exact grown_drew (grown_setNew (grown_setNew (grown_trans (unhide HG0) g2) _ _ _ (by omega)) _ _ _ (by omega))

end Go.Proofs.Ytibgldanmhckiaa

namespace Go.Proofs.Ytibgldanmhckiaa
open Go.RowKit

def actB (X : Array Value) (c : Int) (rx : Nat) (v : Nat → Value) : Act := { tmps := #[.agg X, .int .i64 c, .pointer (some ⟨rx, 0, none⟩), undef, .pointer (some ⟨rx + 1, 0, none⟩), v 5, v 6, v 7, v 8, v 9, v 10, v 11, undef, undef, undef, undef, undef, undef, undef, undef, undef, undef, undef], defers := [] }

set_option maxRecDepth 20000 in
set_option maxHeartbeats 3200000 in
theorem needed (X : Array Value) (p wd ht rs : Int) (n : Nat) (C : Nat → Nat → Int) (hX : Fx X p wd ht rs n C) (mh mv : Int) (hg : Geo wd ht n C mh mv) (c : Nat) (hc : c < n) (a b u v : Int) (HA : Hid (upI (wd * C c 1) mh = a)) (HB : Hid (upI (ht * C c 2) mv = b)) (HU : Hid (upI a 8 = u)) (HV : Hid (upI b 8 = v)) (w : World) :
    Calls Try.prog 79 #[.agg X, .int .i64 c] w fun e w' => e = .returned (.agg #[.int .i64 u, .int .i64 v]) ∧ w.grownBy w' none := by
  have hs := hX.size
  have F2 := hide (fun w => plane X p wd ht rs n C hX mh mv hg c hc a b HA HB w)
  have ha : 1 ≤ a ∧ a ≤ 4096 := by
    have P1 := mul_share (a := wd) ⟨hg.wd.1, by have := hg.wd; omega⟩ (hg.ch c hc)
    have := upI_pos P1.1 hg.hb.1
    rw [unhide HA] at this; omega
  have hb : 1 ≤ b ∧ b ≤ 4096 := by
    have P1 := mul_share (a := ht) ⟨hg.ht.1, by have := hg.ht; omega⟩ (hg.cv c hc)
    have := upI_pos P1.1 hg.vb.1
    rw [unhide HB] at this; omega
  obtain ⟨wx, hW0⟩ : ∃ wx, ((w.alloc (.cells X 73)).alloc (.cells #[.int .i64 0, .int .i64 0] 115)) = wx := ⟨_, rfl⟩
  have G0 : w.grownBy wx none := by rw [← hW0]; exact grown_alloc (grown_alloc (World.grownBy.refl _ _) _) _
  have b0 : wx.heap[w.heap.size]? = some (.cells X 73 (0, 0)) := by
    rw [← hW0, Below.heap_alloc _ _ _ (by simp)]
    exact heap_alloc_new w _
  have b1 : wx.heap[w.heap.size + 1]? = some (.cells #[.int .i64 0, .int .i64 0] 115 (0, 0)) := by
    rw [← hW0]
    have := heap_alloc_new (w.alloc (.cells X 73)) (.cells #[.int .i64 0, .int .i64 0] 115)
    simpa using this
  have hsz : wx.heap.size = w.heap.size + 2 := by rw [← hW0]; simp
  have HW := hide hW0
  have B0 := hide b0
  have B1 := hide b1
  have HG0 := hide G0
  clear hW0 b0 b1 G0
  clear hX hg
  have bB := unhide B0
  go_enter Try.func79, Try.ntmps79
  go_wp2_with (first | (rw [unhide HW]; refine wpList_load_row rfl 73 _ rfl w.heap.size rfl X 73 bB _ Try.underlying73 rfl (by rw [hs]; kernel_rfl) ?_))
  refine (unhide F2 wx).mono ?_
  rintro e w1 ⟨rfl, g1⟩
  obtain ⟨W2, hW2⟩ : ∃ W2, w1.alloc (.cells #[.int .i64 a, .int .i64 b] 115) = W2 := ⟨_, rfl⟩
  have g2 : wx.grownBy W2 none := by rw [← hW2]; exact grown_alloc g1 _
  have hb6 : W2.heap[w1.heap.size]? = some (.cells #[.int .i64 a, .int .i64 b] 115 (0, 0)) := by rw [← hW2]; exact heap_alloc_new _ _
  have hs1 := g1.size
  have hR := (g2.block (w.heap.size + 1) (by omega) (by simp)).trans (unhide B1)
  obtain ⟨c60, c61, _, _⟩ := areaCells hb6
  obtain ⟨cr0, cr1, f0, f1⟩ := areaCells hR
  have KEEP : Hid (∀ u v, (putA W2 (w.heap.size + 1) u v).cell? ⟨w1.heap.size, 0, none⟩ = some (.int .i64 a) ∧ (putA W2 (w.heap.size + 1) u v).cell? ⟨w1.heap.size, 1, none⟩ = some (.int .i64 b)) := fun u v => ⟨(putA_grown _ _ _ _).cell c60 (by simp; omega), (putA_grown _ _ _ _).cell c61 (by simp; omega)⟩
  have HW2 := hide hW2
  clear hW2 hb6 F2 hR
  go_wp2
  rw [unhide HW2]
  clear HW2
  go_region_held3 (fun w' => w'.cell? ⟨w1.heap.size, 0, none⟩ = some (.int .i64 a) ∧ w'.cell? ⟨w1.heap.size, 1, none⟩ = some (.int .i64 b)) (first | exact ⟨c60, c61⟩ | exact unhide KEEP _ _) (first | (go_at_call_of 106 (Value.int .i64 a); refine (divUp _ _ u (by omega) (by omega) HU _).mono ?_; rintro e w2 ⟨rfl, rfl⟩) | (go_at_call_of 106 (Value.int .i64 b); refine (divUp _ _ v (by omega) (by omega) HV _).mono ?_; rintro e w2 ⟨rfl, rfl⟩))
  go_wp2
  refine bodyPost_ret (v := .agg #[.int .i64 u, .int .i64 v]) (by simp [results, Try.results79, go_sem, cr0, cr1]) rfl ⟨rfl, ?_⟩
  exact grown_drew (grown_setNew (grown_setNew (grown_trans (unhide HG0) g2) _ _ _ (by omega)) _ _ _ (by omega))

theorem hasComp (X : Array Value) (p wd ht rs : Int) (n : Nat) (C : Nat → Nat → Int) (hX : Fx X p wd ht rs n C) (hn : n ≤ 4) (c : Int) (t : Bool) (HT : Hid (decide (0 ≤ c ∧ c ≤ (n : Int) - 1) = t)) (w : World) :
    Calls Try.prog 78 #[.agg X, .int .i64 c] w fun e w' => e = .returned (.bool t) ∧ w.grownBy w' none := by
  have hs := hX.size
  have h4 := hX.c4
  have h4' : X[4] = .int .i64 n := by rw [Array.getElem?_eq_getElem (by omega)] at h4; simpa using h4
  have hw := i64_in ((n : Int) - 1) (by omega)
  clear h4 hX
  go_enter Try.func78, Try.ntmps78
  go_wp2_with fail
  refine (inRange c 0 ((n : Int) - 1) t HT _).mono ?_
  rintro e w1 ⟨rfl, rfl⟩
  go_wp2
  go_ret
  exact ⟨rfl, grown_alloc (World.grownBy.refl _ _) _⟩

theorem hasComp_none (c : Int) (w : World) :
    Calls Try.prog 78 #[.agg #[.int .i64 0, .int .i64 0, .int .i64 0, .int .i64 0, .int .i64 0, .int .i64 0, .int .i64 0, .int .i64 0, .int .i64 0, .int .i64 0, .int .i64 0, .int .i64 0, .int .i64 0, .int .i64 0, .int .i64 0, .int .i64 0, .int .i64 0, .int .i64 0, .int .i64 0, .int .i64 0, .int .i64 0], .int .i64 c] w fun e w' => e = .returned (.bool false) ∧ w.grownBy w' none := by
  have HT : Hid (decide (0 ≤ c ∧ c ≤ (-1 : Int)) = false) := decide_eq_false (by omega)
  go_enter Try.func78, Try.ntmps78
  go_wp2_with fail
  refine (inRange c 0 (-1) false HT _).mono ?_
  rintro e w1 ⟨rfl, rfl⟩
  go_wp2
  go_ret
  exact ⟨rfl, grown_alloc (World.grownBy.refl _ _) _⟩

set_option maxRecDepth 20000 in
set_option maxHeartbeats 3200000 in
theorem blocks (X : Array Value) (p wd ht rs : Int) (n : Nat) (C : Nat → Nat → Int) (hX : Fx X p wd ht rs n C) (mh mv : Int) (hg : Geo wd ht n C mh mv) (c : Nat) (hc : c < n) (a b : Int) (HA : Hid (upI wd (8 * mh) = a)) (HB : Hid (upI ht (8 * mv) = b)) (w : World) :
    Calls Try.prog 90 #[.agg X, .int .i64 c] w fun e w' => e = .returned (.agg #[.int .i64 (C c 1 * a), .int .i64 (C c 2 * b)]) ∧ w.grownBy w' none := by
  have hs := hX.size
  have hn4 := hg.n4
  have F1 := hide (fun w => shares X p wd ht rs n C hX c (by omega) w)
  have F2 := hide (fun w => units X p wd ht rs n C hX mh mv hg a b HA HB w)
  obtain ⟨h1, h2⟩ : (1 ≤ C c 1 ∧ C c 1 ≤ 4) ∧ (1 ≤ C c 2 ∧ C c 2 ≤ 4) := ⟨hg.ch c hc, hg.cv c hc⟩
  have ha : 1 ≤ a ∧ a ≤ 256 := by
    have := upI_pos (d := 8 * mh) hg.wd.1 (by have := hg.hb; omega)
    have := hg.wd
    rw [unhide HA] at *; omega
  have hb : 1 ≤ b ∧ b ≤ 256 := by
    have := upI_pos (d := 8 * mv) hg.ht.1 (by have := hg.vb; omega)
    have := hg.ht
    rw [unhide HB] at *; omega
  have P1 := mul_share (a := a) ⟨ha.1, by omega⟩ h1
  have P2 := mul_share (a := b) ⟨hb.1, by omega⟩ h2
  obtain ⟨wx, hW0⟩ : ∃ wx, ((w.alloc (.cells X 73)).alloc (.cells #[.int .i64 0, .int .i64 0] 115)) = wx := ⟨_, rfl⟩
  have G0 : w.grownBy wx none := by rw [← hW0]; exact grown_alloc (grown_alloc (World.grownBy.refl _ _) _) _
  have b0 : wx.heap[w.heap.size]? = some (.cells X 73 (0, 0)) := by
    rw [← hW0, Below.heap_alloc _ _ _ (by simp)]
    exact heap_alloc_new w _
  have b1 : wx.heap[w.heap.size + 1]? = some (.cells #[.int .i64 0, .int .i64 0] 115 (0, 0)) := by
    rw [← hW0]
    have := heap_alloc_new (w.alloc (.cells X 73)) (.cells #[.int .i64 0, .int .i64 0] 115)
    simpa using this
  have hsz : wx.heap.size = w.heap.size + 2 := by rw [← hW0]; simp
  have HW := hide hW0
  have B0 := hide b0
  have B1 := hide b1
  have HG0 := hide G0
  clear hW0 b0 b1 G0
  clear hX hg
  go_enter Try.func90, Try.ntmps90
  go_wp2
  rw [unhide HW]
  clear HW
  generalize hE1 : C c 1 = c1 at *
  generalize hE2 : C c 2 = c2 at *
  have E1 := hide hE1
  have E2 := hide hE2
  clear hE1 hE2
  rw [Int.mul_comm a c1] at P1
  rw [Int.mul_comm b c2] at P2
  have hw1 := i64_in (c1 * a) (by omega)
  have hw2 := i64_in (c2 * b) (by omega)
  refine wp_region_steps (fun listed a' w' => ∃ v, a' = actB X c w.heap.size v ∧ InvA wx X c c1 c2 a b v listed w') (by kernel_rfl) (by kernel_rfl) ?start ?steps ?done

  case start =>
    exact ⟨fun _ => undef, rfl, grown_drew (World.grownBy.refl _ _), fun h => absurd h (not_done_start _ _), fun h => absurd h (not_done_start _ _), fun h => absurd h (not_done_start _ _), fun h => absurd h (not_done_start _ _), fun h => absurd h (not_done_start _ _), fun h => absurd h (not_done_start _ _), fun h => absurd h (not_done_start _ _), fun h => absurd h (not_done_start _ _), fun h => absurd h (not_done_start _ _), fun h => absurd h (not_done_start _ _)⟩
  case steps =>
    have xB : ∀ w1, wx.grownBy w1 none → w1.heap[w.heap.size]? = some (.cells X 73 (0, 0)) := fun w1 g => (g.block w.heap.size (by omega) (by simp)).trans (unhide B0)
    refine ⟨?_, ?_⟩
    · rintro listed a w1 hi hnd hd ⟨v, rfl, hJ⟩ K hK
      unfold actB
      rw [if_pos (by rfl)]
      refine wp_load_mid 73 _ rfl w.heap.size 0 rfl X.toList _ (fun j u hu => by rw [cell_of_row w1 w.heap.size (0 + j) X _ (0, 0) (xB w1 hJ.grown)]; simpa using hu) Try.underlying73 rfl (by simp only [Array.length_toList]; rw [hs]; kernel_rfl) ?_
      exact hK.out _ _ ⟨_, rfl, hJ.step hi (World.grownBy.refl _ none) (x := .agg X) rfl⟩
    refine ⟨?_, ?_⟩
    · rintro listed a w1 hi hnd hd ⟨v, rfl, hJ⟩ K hK
      unfold actB
      go_simp
      exact hK.out _ _ ⟨_, rfl, hJ.step hi (World.grownBy.refl _ none) (x := .int .i64 c) rfl⟩
    refine ⟨?_, ?_⟩
    · rintro listed a w1 hi hnd hd ⟨v, rfl, hJ⟩ K hK
      have hd' : depsF listed [{ on := 0, ground := .data }, { on := 1, ground := .data }] := hd
      simp only [depsF, and_true] at hd'
      have e7 := hJ.d0 (hd'.1 (by rfl))
      have e8 := hJ.d1 (hd'.2 (by rfl))
      unfold actB
      rw [e7, e8]
      go_simp
      refine (unhide F1 w1).mono ?_
      rintro e w2 ⟨rfl, g2⟩
      exact hK.out _ _ ⟨updA v 9 _, (by simp [actB, updA, e7, e8]), hJ.step hi g2 rfl⟩
    refine ⟨?_, ?_⟩
    · rintro listed a w1 hi hnd hd ⟨v, rfl, hJ⟩ K hK
      unfold actB
      rw [if_pos (by rfl)]
      refine wp_load_mid 73 _ rfl w.heap.size 0 rfl X.toList _ (fun j u hu => by rw [cell_of_row w1 w.heap.size (0 + j) X _ (0, 0) (xB w1 hJ.grown)]; simpa using hu) Try.underlying73 rfl (by simp only [Array.length_toList]; rw [hs]; kernel_rfl) ?_
      exact hK.out _ _ ⟨_, rfl, hJ.step hi (World.grownBy.refl _ none) (x := .agg X) rfl⟩
    refine ⟨?_, ?_⟩
    · rintro listed a w1 hi hnd hd ⟨v, rfl, hJ⟩ K hK
      have hd' : depsF listed [{ on := 3, ground := .data }, { on := 2, ground := .chain }] := hd
      simp only [depsF, and_true] at hd'
      have e10 := hJ.d3 (hd'.1 (by rfl))
      unfold actB
      rw [e10]
      go_simp
      refine (unhide F2 w1).mono ?_
      rintro e w2 ⟨rfl, g2⟩
      exact hK.out _ _ ⟨updA v 11 _, (by simp [actB, updA, e10]), hJ.step hi g2 rfl⟩
    refine ⟨?_, ?_⟩
    · rintro listed a w1 hi hnd hd ⟨v, rfl, hJ⟩ K hK
      unfold actB
      go_simp
      exact hK.out _ _ ⟨_, rfl, hJ.alloc hi (.inl rfl) hnd⟩
    refine ⟨?_, ?_⟩
    · rintro listed a w1 hi hnd hd ⟨v, rfl, hJ⟩ K hK
      unfold actB
      go_simp
      exact hK.out _ _ ⟨_, rfl, hJ.alloc hi (.inr rfl) hnd⟩
    refine ⟨?_, ?_⟩
    · rintro listed a w1 hi hnd hd ⟨v, rfl, hJ⟩ K hK
      have d5 := depsF_mem hd { on := 5, ground := .data } (by simp) rfl
      have e9 := hJ.d2 (depsF_mem hd { on := 2, ground := .data } (by simp) rfl)
      obtain ⟨g, e5, hge, x, y, hb, _⟩ := hJ.d5 d5
      have cf := areaCells hb
      unfold actB
      rw [e5, e9]
      go_simp
      exact hK.out _ _ ⟨v, (by simp [actB, e5, e9]), hJ.store5 hi e5 d5⟩
    refine ⟨?_, trivial⟩
    · rintro listed a w1 hi hnd hd ⟨v, rfl, hJ⟩ K hK
      have d6 := depsF_mem hd { on := 6, ground := .data } (by simp) rfl
      have e11 := hJ.d4 (depsF_mem hd { on := 4, ground := .data } (by simp) rfl)
      obtain ⟨g, e6, hge, x, y, hb, _⟩ := hJ.d6 d6
      have cf := areaCells hb
      unfold actB
      rw [e6, e11]
      go_simp
      exact hK.out _ _ ⟨v, (by simp [actB, e6, e11]), hJ.store6 hi e6 d6⟩
  case done =>
    rintro listed a w1 hall ⟨v, rfl, hJ⟩
    obtain ⟨g5, e5, hge5, x5, y5, hb5, l5⟩ := hJ.d5 (hall 5 (by decide))
    obtain ⟨g6, e6, hge6, x6, y6, hb6, l6⟩ := hJ.d6 (hall 6 (by decide))
    obtain ⟨rfl, rfl⟩ := l5 (hall 7 (by decide))
    obtain ⟨rfl, rfl⟩ := l6 (hall 8 (by decide))
    have hB := (hJ.grown.block w.heap.size (by omega) (by simp)).trans (unhide B0)
    have hR := (hJ.grown.block (w.heap.size + 1) (by omega) (by simp)).trans (unhide B1)
    have gJ := hJ.grown
    have hne : g5 ≠ g6 := fun e => hJ.ne (hall 5 (by decide)) (hall 6 (by decide)) (by rw [e5, e6, e])
    unfold actB
    rw [e5, e6]
    clear hall hJ l5 l6 e5 e6
    generalize v 7 = v7
    generalize v 8 = v8
    generalize v 9 = v9
    generalize v 10 = v10
    generalize v 11 = v11
    clear v

    obtain ⟨c50, c51, _, _⟩ := areaCells hb5
    obtain ⟨c60, c61, _, _⟩ := areaCells hb6
    obtain ⟨cr0, cr1, f0, f1⟩ := areaCells hR
    clear hb5 hb6 hB F1 F2
    go_wp2
    refine bodyPost_ret (v := .agg #[.int .i64 (x5 * x6), .int .i64 (y5 * y6)]) (by simp [results, Try.results90, go_sem, cr0, cr1]) rfl ⟨by rw [unhide E1, unhide E2], ?_⟩
    exact grown_setNew (grown_setNew (grown_trans (unhide HG0) gJ) _ _ _ (by omega)) _ _ _ (by omega)

end Go.Proofs.Ytibgldanmhckiaa

namespace Go.Proofs.Ytibgldanmhckiaa
open Go.RowKit

theorem fzOne : (#[.int .i64 0, .int .i64 0, .int .i64 0, .int .i64 0, .int .i64 0, .int .i64 0, .int .i64 0, .int .i64 0, .int .i64 0, .int .i64 0, .int .i64 0, .int .i64 0, .int .i64 0, .int .i64 0, .int .i64 0, .int .i64 0, .int .i64 0, .int .i64 0, .int .i64 0, .int .i64 0, .int .i64 0] : Array Value).all (·.oneCell') = true := by simp [Value.oneCell']

/-- The size of a component's plane, as both sides tell it. -/
def sizeG (b : Bool) (wd ht : Int) (n : Nat) (C : Nat → Nat → Int) (c : Int) : Int × Int :=
  if b && decide (0 ≤ c ∧ c ≤ (n : Int) - 1) then (upI (wd * C c.toNat 1) (mostA 1 C 1 n), upI (ht * C c.toNat 2) (mostA 1 C 2 n)) else (0, 0)
def blocksG (b : Bool) (wd ht : Int) (n : Nat) (C : Nat → Nat → Int) (c : Int) : Int × Int :=
  if b && decide (0 ≤ c ∧ c ≤ (n : Int) - 1) then (upI wd (8 * mostA 1 C 1 n) * C c.toNat 1, upI ht (8 * mostA 1 C 2 n) * C c.toNat 2) else (0, 0)

end Go.Proofs.Ytibgldanmhckiaa
