/-
  Values with depth: rows of rows, what is read of them, and who owns them.
-/
import Derived.Test.YtgknninkfdgebaaKit
import Derived.Test.YtgknninkfdgebaaRowsK
namespace Go.Proofs.Ytgknninkfdgebaa
open Go.RowKit

theorem grown_atT {a b : World} {g : Nat} {o : Obj} {row : Option Nat} (h : a.grownBy b row) (hg : a.heap[g]? = some o) (hne : row ≠ some g) : b.heap[g]? = some o :=
  (h.block g (Array.getElem?_eq_some_iff.1 hg).1 (fun e => hne e.symm)).trans hg

/-- What may be another one: the blocks of a list, and new ones. -/
structure Wr (F : List Nat) (w w' : World) : Prop where
  os : w'.os = w.os
  tape : w'.tape = w.tape
  output : w'.output = w.output
  size : w.heap.size ≤ w'.heap.size
  block : ∀ k, k < w.heap.size → k ∉ F → w'.heap[k]? = w.heap[k]?
theorem Wr.refl (F : List Nat) (w : World) : Wr F w w := ⟨rfl, rfl, rfl, Nat.le_refl _, fun _ _ _ => rfl⟩
theorem Wr.trans {F : List Nat} {a b c : World} (h : Wr F a b) (g : Wr F b c) : Wr F a c :=
  ⟨g.os.trans h.os, g.tape.trans h.tape, g.output.trans h.output, Nat.le_trans h.size g.size, fun k hk hn => (g.block k (Nat.lt_of_lt_of_le hk h.size) hn).trans (h.block k hk hn)⟩
theorem Wr.mono {F G : List Nat} {a b : World} (h : Wr F a b) (hs : ∀ x ∈ F, x ∈ G) : Wr G a b := ⟨h.os, h.tape, h.output, h.size, fun k hk hn => h.block k hk (fun e => hn (hs k e))⟩
theorem Wr.ofNone {F : List Nat} {a b : World} (h : a.grownBy b none) : Wr F a b := ⟨h.os, h.tape, h.output, h.size, fun k hk _ => h.block k hk (by simp)⟩
theorem Wr.ofRow {F : List Nat} {a b : World} {row : Option Nat} (h : a.grownBy b row) (hr : ∀ g, row = some g → g ∈ F) : Wr F a b :=
  ⟨h.os, h.tape, h.output, h.size, fun k hk hn => h.block k hk (fun e => hn (hr k e.symm))⟩
theorem Wr.toNone {a b : World} (h : Wr [] a b) : a.grownBy b none := ⟨h.os, h.tape, h.output, h.size, fun k hk _ => h.block k hk (by simp)⟩
/-- Seen from a world in which the blocks were not yet. -/
theorem Wr.new {F : List Nat} {B a b : World} (hB : B.grownBy a none) (h : Wr F a b) (hF : ∀ g ∈ F, B.heap.size ≤ g) : B.grownBy b none :=
  ⟨h.os.trans hB.os, h.tape.trans hB.tape, h.output.trans hB.output, Nat.le_trans hB.size h.size, fun k hk _ => (h.block k (Nat.lt_of_lt_of_le hk hB.size) (fun e => by have := hF k e; omega)).trans (hB.block k hk (by simp))⟩

/-- What is read of a row of numbers, and of a row of rows. -/
def RdI (k : IntKind) (w : World) (u : Value) (xs : List Int) : Prop := ∃ ao cap, u = .slice ao xs.length cap ∧ Rd k w ao xs.length xs
def RdR {α : Type} (P : World → Value → α → Prop) (w : World) (v : Value) (L : List α) : Prop :=
  ∃ ao cap, v = .slice ao L.length cap ∧ ∀ i (h : i < L.length), ∃ b off u, ao = some ⟨b, off, none⟩ ∧ w.cell? ⟨b, off + i, none⟩ = some u ∧ P w u L[i]
def StR {α : Type} (P : World → Value → α → Prop) : Prop := ∀ w w' u a, P w u a → w.grownBy w' none → P w' u a
theorem RdI.st (k : IntKind) : StR (RdI k) := fun _ _ _ _ ⟨ao, cap, e, h⟩ g => ⟨ao, cap, e, h.grown g⟩
theorem RdR.st {α : Type} {P : World → Value → α → Prop} (hP : StR P) : StR (RdR P) := fun _ _ _ _ ⟨ao, cap, e, h⟩ g =>
  ⟨ao, cap, e, fun i hi => by obtain ⟨b, off, u, e1, h1, h2⟩ := h i hi; exact ⟨b, off, u, e1, g.cell h1 (by simp), hP _ _ _ _ h2 g⟩⟩

/-- Who owns a row of numbers, and a row of rows: the blocks that they lie in. -/
def blk (v : Value) : List Nat := v.ownBlock.toList
theorem mem_blk {v : Value} {g : Nat} : g ∈ blk v ↔ v.ownBlock = some g := by unfold blk; simp
def OwI (k : IntKind) (e : TypeId) (w : World) (u : Value) (xs : List Int) (F : List Nat) : Prop := w.ownsRow 0 e 1 u xs.length (xs.map (Value.int k)) ∧ F = blk u
def OwR {α : Type} (e : TypeId) (P : World → Value → α → List Nat → Prop) (w : World) (v : Value) (L : List α) (F : List Nat) : Prop :=
  ∃ (us : List Value) (Fs : List (List Nat)), us.length = L.length ∧ Fs.length = L.length ∧ w.ownsRow 0 e 1 v L.length us ∧ (∀ i (h : i < L.length), P w (us.getD i (.slice none 0 0)) L[i] (Fs.getD i [])) ∧ F = blk v ++ Fs.flatten
structure OwOk {α : Type} (P : World → Value → α → List Nat → Prop) : Prop where
  same : ∀ w w' u a F, P w u a F → (∀ g ∈ F, w'.heap[g]? = w.heap[g]?) → P w' u a F
  lt : ∀ w u a F, P w u a F → ∀ g ∈ F, g < w.heap.size
  form : ∀ w u a F, P w u a F → ∃ ao n cap, u = .slice ao n cap
theorem OwOk.wr {α : Type} {P : World → Value → α → List Nat → Prop} (hP : OwOk P) {w w' : World} {u : Value} {a : α} {F G : List Nat} (h : P w u a F) (g : Wr G w w') (hd : ∀ x ∈ F, x ∉ G) : P w' u a F :=
  hP.same w w' u a F h (fun x hx => g.block x (hP.lt w u a F h x hx) (hd x hx))
theorem OwOk.keep {α : Type} {P : World → Value → α → List Nat → Prop} (hP : OwOk P) {w w' : World} {u : Value} {a : α} {F : List Nat} (h : P w u a F) (g : w.grownBy w' none) : P w' u a F :=
  hP.wr h (Wr.ofNone (F := []) g) (fun x _ => by simp)

theorem OwI.ok (k : IntKind) (e : TypeId) : OwOk (OwI k e) :=
  ⟨fun w w' u a F h hs => ⟨own_sameAt h.1 (fun g hg => hs g (by rw [h.2]; exact mem_blk.2 hg)), h.2⟩,
   fun w u a F h g hg => (h.1.lt g (mem_blk.1 (by rw [← h.2]; exact hg))).2,
   fun w u a F h => by obtain ⟨ao, cap, rfl⟩ := own_form h.1; exact ⟨_, _, _, rfl⟩⟩
theorem OwI.rd {k : IntKind} {e : TypeId} {w : World} {u : Value} {xs : List Int} {F : List Nat} (h : OwI k e w u xs F) : RdI k w u xs := by
  obtain ⟨ao, cap, rfl⟩ := own_form h.1
  exact ⟨ao, cap, rfl, own_rd h.1⟩
theorem OwI.nodup {k : IntKind} {e : TypeId} {w : World} {u : Value} {xs : List Int} {F : List Nat} (h : OwI k e w u xs F) : F.Nodup := by
  rw [h.2]; unfold blk; cases u.ownBlock <;> simp
theorem OwI.of {k : IntKind} {e : TypeId} {w : World} {u : Value} {xs : List Int} {base : Nat} (h : w.ownsRow base e 1 u xs.length (xs.map (Value.int k))) : OwI k e w u xs (blk u) := ⟨own_base h (Nat.zero_le _), rfl⟩
theorem OwI.nil (k : IntKind) (e : TypeId) (w : World) : OwI k e w (.slice none 0 0) [] [] := ⟨⟨rfl, .inl ⟨rfl, rfl⟩⟩, rfl⟩

section
variable {α : Type} {e : TypeId} {P : World → Value → α → List Nat → Prop} {w : World} {v : Value} {L : List α} {F : List Nat}
theorem flat_in {Fs : List (List Nat)} {i : Nat} (h : i < Fs.length) : ∀ x ∈ Fs.getD i [], x ∈ Fs.flatten := fun x hx =>
  List.mem_flatten.2 ⟨Fs[i], List.getElem_mem h, by simpa [h] using hx⟩
theorem flat_apart {Fs : List (List Nat)} (h : Fs.flatten.Nodup) {i j : Nat} (hi : i < Fs.length) (hj : j < Fs.length) (hne : i ≠ j) : ∀ x ∈ Fs.getD i [], x ∉ Fs.getD j [] := by
  intro x hx hy
  have hp := (List.pairwise_flatten.1 h).2
  rw [List.pairwise_iff_getElem] at hp
  have hx' : x ∈ Fs[i] := by simpa [hi] using hx
  have hy' : x ∈ Fs[j] := by simpa [hj] using hy
  rcases Nat.lt_or_gt_of_ne hne with hlt | hlt
  · exact hp i j hi hj hlt x hx' x hy' rfl
  · exact hp j i hj hi hlt x hy' x hx' rfl
theorem OwR.ok (hP : OwOk P) : OwOk (OwR e P) := by
  refine ⟨?_, ?_, ?_⟩
  · rintro w w' u a F ⟨us, Fs, h1, h2, h3, h4, rfl⟩ hs
    refine ⟨us, Fs, h1, h2, own_sameAt h3 (fun g hg => hs g (by simp [mem_blk.2 hg])), fun i hi => ?_, rfl⟩
    exact hP.same w w' _ _ _ (h4 i hi) (fun g hg => hs g (by have := flat_in (by omega) g hg; simp [this]))
  · rintro w u a F ⟨us, Fs, h1, h2, h3, h4, rfl⟩ g hg
    rcases List.mem_append.1 hg with hg | hg
    · exact (h3.lt g (mem_blk.1 hg)).2
    · obtain ⟨l, hl, hgl⟩ := List.mem_flatten.1 hg
      obtain ⟨i, hi, rfl⟩ := List.mem_iff_getElem.1 hl
      exact hP.lt w _ _ _ (h4 i (by omega)) g (by simpa [hi] using hgl)
  · rintro w u a F ⟨us, Fs, h1, h2, h3, h4, rfl⟩
    obtain ⟨ao, cap, rfl⟩ := own_form h3
    exact ⟨_, _, _, rfl⟩
theorem OwR.form (h : OwR e P w v L F) : ∃ ao cap, v = .slice ao L.length cap := by
  obtain ⟨us, Fs, _, _, h3, _⟩ := h
  exact own_form h3
theorem OwR.rd {Q : World → Value → α → Prop} (hPQ : ∀ w u a F, P w u a F → Q w u a) (h : OwR e P w v L F) : RdR Q w v L := by
  obtain ⟨us, Fs, h1, h2, h3, h4, rfl⟩ := h
  obtain ⟨ao, cap, rfl⟩ := own_form h3
  refine ⟨ao, cap, rfl, fun i hi => ?_⟩
  obtain ⟨g, rfl, _, _⟩ := own_at h3 (by omega)
  refine ⟨g, 0, us.getD i (.slice none 0 0), rfl, ?_, hPQ _ _ _ _ (h4 i hi)⟩
  rw [Nat.zero_add, h3.cellAt i (by omega)]
  simp [show i < us.length by omega]
theorem OwR.nil (e : TypeId) (P : World → Value → α → List Nat → Prop) (w : World) : OwR e P w (.slice none 0 0) [] [] := ⟨[], [], rfl, rfl, ⟨rfl, .inl ⟨rfl, rfl⟩⟩, fun i hi => absurd hi (by simp), rfl⟩
/-- An element of a row that is owned, and what becomes of the row when the element becomes another one. -/
theorem OwR.at (hP : OwOk P) (h : OwR e P w v L F) (hF : F.Nodup) (i : Nat) (hi : i < L.length) : ∃ g cap u Fi, v = .slice (some ⟨g, 0, none⟩) L.length cap ∧ g ∈ F ∧ w.cell? ⟨g, i, none⟩ = some u ∧ P w u L[i] Fi ∧ Fi.Nodup ∧ g ∉ Fi ∧ (∀ x ∈ Fi, x ∈ F) ∧
    ∀ w' a', Wr Fi w w' → P w' u a' Fi → OwR e P w' v (L.set i a') F := by
  obtain ⟨us, Fs, h1, h2, h3, h4, rfl⟩ := h
  obtain ⟨ao, cap, rfl⟩ := own_form h3
  obtain ⟨g, rfl, _, _⟩ := own_at h3 (by omega)
  have hn := List.nodup_append.1 hF
  have hgb : g ∈ blk (Value.slice (some ⟨g, 0, none⟩) L.length cap) := mem_blk.2 rfl
  have hgi : ∀ j, j < L.length → g ∉ Fs.getD j [] := fun j hj hx => hn.2.2 g hgb g (flat_in (by omega) g hx) rfl
  refine ⟨g, cap, us.getD i (.slice none 0 0), Fs.getD i [], rfl, by simp [hgb], ?_, h4 i hi, ?_, hgi i hi, fun x hx => by simp [flat_in (show i < Fs.length by omega) x hx], fun w' a' hw hp => ?_⟩
  · rw [h3.cellAt i (by omega)]
    simp [show i < us.length by omega]
  · have := (List.pairwise_flatten.1 hn.2.1).1 (Fs.getD i []) (by rw [List.getD_eq_getElem?_getD, List.getElem?_eq_getElem (by omega)]; simp)
    exact this
  · refine ⟨us, Fs, by simp [h1], by simp [h2], ?_, fun j hj => ?_, rfl⟩
    · rw [List.length_set]
      exact own_sameAt h3 (fun x hx => hw.block x (h3.lt x hx).2 (by have e9 : g = x := Option.some.inj hx; subst e9; exact hgi i hi))
    · rw [List.length_set] at hj
      by_cases e9 : i = j
      · subst e9; simp; exact hp
      · rw [List.getElem_set_ne e9]
        exact hP.wr (h4 j hj) hw (flat_apart hn.2.1 (by omega) (by omega) (fun e => e9 e.symm))
/-- An element of a row that is owned, and what becomes of the row when the element becomes another one, in other blocks. -/
theorem OwR.turn (hP : OwOk P) (h : OwR e P w v L F) (hF : F.Nodup) (i : Nat) (hi : i < L.length) : ∃ g cap u Fi, v = .slice (some ⟨g, 0, none⟩) L.length cap ∧ w.cell? ⟨g, i, none⟩ = some u ∧ P w u L[i] Fi ∧ Fi.Nodup ∧ (∀ x ∈ Fi, x ∈ F) ∧
    ∀ w' a' Fi', Wr Fi w w' → P w' u a' Fi' → Fi'.Nodup → (∀ x ∈ Fi', x ∈ Fi ∨ x ∉ F) → ∃ F', OwR e P w' v (L.set i a') F' ∧ F'.Nodup ∧ ∀ x ∈ F', x ∈ F ∨ x ∈ Fi' := by
  obtain ⟨us, Fs, h1, h2, h3, h4, rfl⟩ := h
  obtain ⟨ao, cap, rfl⟩ := own_form h3
  obtain ⟨g, rfl, _, _⟩ := own_at h3 (by omega)
  have hn := List.nodup_append.1 hF
  have hgb : g ∈ blk (Value.slice (some ⟨g, 0, none⟩) L.length cap) := mem_blk.2 rfl
  have hgi : ∀ j, j < L.length → g ∉ Fs.getD j [] := fun j hj hx => hn.2.2 g hgb g (flat_in (by omega) g hx) rfl
  refine ⟨g, cap, us.getD i (.slice none 0 0), Fs.getD i [], rfl, ?_, h4 i hi, ?_, fun x hx => by simp [flat_in (show i < Fs.length by omega) x hx], fun w' a' Fi' hw hp hn' hd => ?_⟩
  · rw [h3.cellAt i (by omega)]
    simp [show i < us.length by omega]
  · have := (List.pairwise_flatten.1 hn.2.1).1 (Fs.getD i []) (by rw [List.getD_eq_getElem?_getD, List.getElem?_eq_getElem (by omega)]; simp)
    exact this
  · have hmem : ∀ x, x ∈ (Fs.set i Fi').flatten → x ∈ Fs.flatten ∨ x ∈ Fi' := by
      intro x hx
      obtain ⟨l, hl, hxl⟩ := List.mem_flatten.1 hx
      rcases List.mem_or_eq_of_mem_set hl with hl | rfl
      · exact .inl (List.mem_flatten.2 ⟨l, hl, hxl⟩)
      · exact .inr hxl
    have hdj : ∀ j, j < Fs.length → j ≠ i → ∀ x ∈ Fi', x ∉ Fs.getD j [] := fun j hj hji x hx hx2 => by
      rcases hd x hx with h5 | h5
      · exact flat_apart hn.2.1 (by omega) hj (fun e => hji e.symm) x h5 hx2
      · exact h5 (by simp [flat_in hj x hx2])
    have hgF : g ∉ Fi' := fun hx => by
      rcases hd g hx with h5 | h5
      · exact hgi i hi h5
      · exact h5 (by simp [hgb])
    refine ⟨blk (.slice (some ⟨g, 0, none⟩) L.length cap) ++ (Fs.set i Fi').flatten, ⟨us, Fs.set i Fi', by simp [h1], by simp [h2], ?_, fun j hj => ?_, rfl⟩, ?_, ?_⟩
    · rw [List.length_set]
      exact own_sameAt h3 (fun x hx => hw.block x (h3.lt x hx).2 (by have e9 : g = x := Option.some.inj hx; subst e9; exact hgi i hi))
    · rw [List.length_set] at hj
      by_cases e9 : i = j
      · subst e9
        have ef : (Fs.set i Fi').getD i [] = Fi' := by simp [show i < Fs.length by omega]
        rw [ef]
        simp only [List.getElem_set_self]
        exact hp
      · have ef : (Fs.set i Fi').getD j [] = Fs.getD j [] := by simp [e9]
        rw [ef, List.getElem_set_ne e9]
        exact hP.wr (h4 j hj) hw (flat_apart hn.2.1 (by omega) (by omega) (fun e => e9 e.symm))
    · refine List.nodup_append.2 ⟨hn.1, ?_, fun a ha b hb => ?_⟩
      · refine List.pairwise_flatten.2 ⟨fun l hl => ?_, ?_⟩
        · rcases List.mem_or_eq_of_mem_set hl with hl | rfl
          · exact (List.pairwise_flatten.1 hn.2.1).1 l hl
          · exact hn'
        · rw [List.pairwise_iff_getElem]
          intro p q hp1 hq1 hpq x hx y hy
          rw [List.length_set] at hp1 hq1
          rintro rfl
          have hin : ∀ r (hr : r < Fs.length), x ∈ (Fs.set i Fi')[r]'(by simpa using hr) → (r = i ∧ x ∈ Fi') ∨ (r ≠ i ∧ x ∈ Fs.getD r []) := by
            intro r hr hxr
            by_cases e9 : i = r
            · subst e9; simp at hxr; exact .inl ⟨rfl, hxr⟩
            · rw [List.getElem_set_ne e9] at hxr
              exact .inr ⟨fun e => e9 e.symm, by simpa [hr] using hxr⟩
          rcases hin p hp1 hx with ⟨e1, x1⟩ | ⟨e1, x1⟩ <;> rcases hin q hq1 hy with ⟨e2, x2⟩ | ⟨e2, x2⟩
          · omega
          · exact hdj q hq1 e2 x x1 x2
          · exact hdj p hp1 e1 x x2 x1
          · exact flat_apart hn.2.1 hp1 hq1 (by omega) x x1 x2
      · rintro rfl
        rcases hmem a hb with h5 | h5
        · exact hn.2.2 a ha a h5 rfl
        · have e9 : g = a := Option.some.inj (mem_blk.1 ha)
          subst e9
          exact hgF h5
    · intro x hx
      rcases List.mem_append.1 hx with hx | hx
      · exact .inl (by simp [hx])
      · rcases hmem x hx with h5 | h5
        · exact .inl (by simp [h5])
        · exact .inr h5
theorem OwR.slot (h : OwR e P w v L F) (i : Nat) (hi : i < L.length) : ∃ g cap u, v = .slice (some ⟨g, 0, none⟩) L.length cap ∧ w.cell? ⟨g, i, none⟩ = some u ∧ w.frozen? ⟨g, i, none⟩ = false := by
  obtain ⟨us, Fs, h1, h2, h3, h4, rfl⟩ := h
  obtain ⟨ao, cap, rfl⟩ := own_form h3
  obtain ⟨g, rfl, _, _⟩ := own_at h3 (by omega)
  refine ⟨g, cap, us.getD i (.slice none 0 0), rfl, ?_, h3.frozenAt i⟩
  rw [h3.cellAt i (by omega)]
  simp [show i < us.length by omega]
/-- An element of a row that is owned is another value. -/
theorem OwR.put (hP : OwOk P) (h : OwR e P w v L F) (hF : F.Nodup) (i : Nat) (hi : i < L.length) {g : Nat} (hg : v.ownBlock = some g) {u' : Value} {a' : α} {Fi' : List Nat} (hp : P w u' a' Fi') (hn' : Fi'.Nodup) (hd : ∀ x ∈ Fi', x ∉ F) :
    ∃ F', OwR e P (w.setCell ⟨g, i, none⟩ u') v (L.set i a') F' ∧ F'.Nodup ∧ ∀ x ∈ F', x ∈ F ∨ x ∈ Fi' := by
  obtain ⟨us, Fs, h1, h2, h3, h4, rfl⟩ := h
  obtain ⟨ao, cap, rfl⟩ := own_form h3
  obtain ⟨g0, rfl, _, _⟩ := own_at h3 (by omega)
  obtain rfl : g0 = g := Option.some.inj hg
  have hn := List.nodup_append.1 hF
  have hgb : g0 ∈ blk (Value.slice (some ⟨g0, 0, none⟩) L.length cap) := mem_blk.2 rfl
  have hgi : ∀ j, j < L.length → g0 ∉ Fs.getD j [] := fun j hj hx => hn.2.2 g0 hgb g0 (flat_in (by omega) g0 hx) rfl
  have s1 := h3.stored i u'
  have hgF : g0 ∉ Fi' := fun hx => hd g0 hx (by simp [hgb])
  have hw : Wr [g0] w (w.setCell ⟨g0, i, none⟩ u') := Wr.ofRow (grown_set w g0 i u') (fun x hx => by have := Option.some.inj hx; simp [this])
  have hmem : ∀ x, x ∈ (Fs.set i Fi').flatten → x ∈ Fs.flatten ∨ x ∈ Fi' := by
    intro x hx
    obtain ⟨l, hl, hxl⟩ := List.mem_flatten.1 hx
    rcases List.mem_or_eq_of_mem_set hl with hl | rfl
    · exact .inl (List.mem_flatten.2 ⟨l, hl, hxl⟩)
    · exact .inr hxl
  refine ⟨blk (.slice (some ⟨g0, 0, none⟩) L.length cap) ++ (Fs.set i Fi').flatten, ⟨us.set i u', Fs.set i Fi', by simp [h1], by simp [h2], ?_, fun j hj => ?_, rfl⟩, ?_, ?_⟩
  · rw [List.length_set]; exact s1.1
  · rw [List.length_set] at hj
    by_cases e9 : i = j
    · subst e9
      have eu : (us.set i u').getD i (.slice none 0 0) = u' := by simp [show i < us.length by omega]
      have ef : (Fs.set i Fi').getD i [] = Fi' := by simp [show i < Fs.length by omega]
      rw [eu, ef]
      simp only [List.getElem_set_self]
      exact hP.wr hp hw (fun x hx e => by simp at e; subst e; exact hgF hx)
    · have eu : (us.set i u').getD j (.slice none 0 0) = us.getD j (.slice none 0 0) := by simp [e9]
      have ef : (Fs.set i Fi').getD j [] = Fs.getD j [] := by simp [e9]
      rw [eu, ef, List.getElem_set_ne e9]
      exact hP.wr (h4 j hj) hw (fun x hx e => by simp at e; subst e; exact hgi j hj hx)
  · refine List.nodup_append.2 ⟨hn.1, ?_, fun a ha b hb => ?_⟩
    · refine List.pairwise_flatten.2 ⟨fun l hl => ?_, ?_⟩
      · rcases List.mem_or_eq_of_mem_set hl with hl | rfl
        · exact (List.pairwise_flatten.1 hn.2.1).1 l hl
        · exact hn'
      · rw [List.pairwise_iff_getElem]
        intro p q hp1 hq1 hpq x hx y hy
        rw [List.length_set] at hp1 hq1
        rintro rfl
        have hin : ∀ r (hr : r < Fs.length), x ∈ (Fs.set i Fi')[r]'(by simpa using hr) → (r = i ∧ x ∈ Fi') ∨ (r ≠ i ∧ x ∈ Fs.getD r []) := by
          intro r hr hxr
          by_cases e9 : i = r
          · subst e9; simp at hxr; exact .inl ⟨rfl, hxr⟩
          · rw [List.getElem_set_ne e9] at hxr
            exact .inr ⟨fun e => e9 e.symm, by simpa [hr] using hxr⟩
        rcases hin p hp1 hx with ⟨e1, x1⟩ | ⟨e1, x1⟩ <;> rcases hin q hq1 hy with ⟨e2, x2⟩ | ⟨e2, x2⟩
        · omega
        · exact hd x x1 (by simp [flat_in hq1 x x2])
        · exact hd x x2 (by simp [flat_in hp1 x x1])
        · exact flat_apart hn.2.1 hp1 hq1 (by omega) x x1 x2
    · rintro rfl
      rcases hmem a hb with h5 | h5
      · exact hn.2.2 a ha a h5 rfl
      · exact hd a h5 (by simp [ha])
  · intro x hx
    rcases List.mem_append.1 hx with hx | hx
    · exact .inl (by simp [hx])
    · rcases hmem x hx with h5 | h5
      · exact .inl (by simp [h5])
      · exact .inr h5
/-- A new row of rows that have nothing. -/
theorem OwR.made {β : Type} {P : World → Value → List β → List Nat → Prop} (hP : ∀ w, P w (.slice none 0 0) [] []) {w : World} {v : Value} {base n : Nat} {e : TypeId} (h : w.ownsRow base e 1 v n (List.replicate n (.slice none 0 0))) : OwR e P w v (List.replicate n []) (blk v) := by
  refine ⟨List.replicate n (.slice none 0 0), List.replicate n [], by simp, by simp, by rw [List.length_replicate]; exact own_base h (Nat.zero_le _), fun i hi => ?_, ?_⟩
  · rw [List.length_replicate] at hi
    have e1 : (List.replicate n (Value.slice none 0 0)).getD i (.slice none 0 0) = .slice none 0 0 := by simp [hi]
    have e2 : (List.replicate n ([] : List Nat)).getD i [] = [] := by simp [hi]
    rw [e1, e2, List.getElem_replicate]
    exact hP w
  · have : (List.replicate n ([] : List Nat)).flatten = [] := by simp
    rw [this, List.append_nil]
theorem blk_nodup (v : Value) : (blk v).Nodup := by unfold blk; cases v.ownBlock <;> simp
end

end Go.Proofs.Ytgknninkfdgebaa
