/-
  DeepA, TreeGA, AppIntS, LeftSpec, ToldImpl, ListsImpl, GiveLeft, LevSpec, CoefPure, ZeroSpec, LeftOk.
-/
import Derived.Maps.AppendAt
import Derived.Deep.AppendLies
import Derived.Test.YtnjcmlmgjoaeeaaRows
import Derived.Test.YtnjcmlmgjoaeeaaMSd

namespace Go.Proofs.Ytnjcmlmgjoaeeaa
open Go.RowKit

theorem append_rowR {α : Type} {P : World → Value → α → List Nat → Prop} (hP : OwOk P) {e T : TypeId} (hT : Try.prog.underlying T = some (.slice e)) (hI : (Try.prog.info? e).map (fun i => (i.zero, i.size, i.bytes)) = some (some (.slice none 0 0), 1, 24))
    {w : World} {ops : Array Oper} {rest : List Oper} {o : Oper} {a : Act} {Q : Exit → Act → World → Prop} (hgd : o.guard = none) (s x : Operand)
    (ho : o.op = .call { callee := .builtin .append, args := #[s, x], argTypes := #[T, T] })
    (v : Value) (L : List α) (F : List Nat) (hs : a.eval s = v) (hown : OwR e P w v L F) (hF : F.Nodup) (u : Value) (b : α) (Fb : List Nat) (hu : P w u b Fb) (hFb : Fb.Nodup) (hd : ∀ x ∈ Fb, x ∉ F) (hx : a.eval x = .slice (some ⟨w.heap.size, 0, none⟩) 1 1) (hb : L.length ≤ 1000000) (R : List α) (hR : L ++ [b] = R)
    (h : ∀ v' w' F', OwR e P w' v' R F' → F'.Nodup → (∀ x ∈ F', x ∈ F ∨ x ∈ Fb ∨ w.heap.size ≤ x) → Wr (blk v) w w' → wpList Try.prog ops Q rest (a.put o.dst v') w') :
    wpList Try.prog ops Q (o :: rest) a (w.alloc (.cells #[u] e)) := by
  subst hR
  obtain ⟨i0, hi, hz0, hz1, hz2⟩ := info_parts hI
  obtain ⟨us, Fs, l1, l2, o1, els, rfl⟩ := hown
  obtain ⟨uo, un, uc, rfl⟩ := hP.form _ _ _ _ hu
  have hn := List.nodup_append.1 hF
  refine wpList_append_own_at _ hgd s x T ho 0 e i0 _ 1 24 hT hi hz0 hz1 hz2 rfl (by decide) v L.length _ hs (o1.alloc _) ⟨w.heap.size, 0, none⟩ 1 1 [.slice uo un uc] hx rfl (World.news_of_block (cs := #[.slice uo un uc]) (t := e) (fr := (0, 0)) (heap_alloc_new w _)) (by intro y hy; simp at hy; subst hy; rfl) (by unfold maxLen; omega) (by omega) (Nat.zero_le _) ?_
  intro v' w' h1 h2 _ h4
  have hga : w.grownBy w' v.ownBlock := ⟨h2.os, h2.tape, h2.output, by have h := h2.size; simp at h; omega, fun k hk hr => (h2.block k (by simp; omega) hr).trans (Below.heap_alloc _ _ _ hk)⟩
  have hw : Wr (blk v) w w' := Wr.ofRow hga (fun g e => mem_blk.2 e)
  have hvb : ∀ y, y ∈ blk v' → y ∈ blk v ∨ w.heap.size ≤ y := fun y hy => by
    rcases h4 with h4 | h4
    · exact .inl (mem_blk.2 (by rw [← h4]; exact mem_blk.1 hy))
    · have e1 := mem_blk.1 hy
      rw [h4] at e1
      have e2 : (w.alloc (.cells #[.slice uo un uc] e)).heap.size = y := Option.some.inj e1
      exact .inr (by simp at e2; omega)
  have hfl : (Fs ++ [Fb]).flatten = Fs.flatten ++ Fb := by simp
  have hlt : ∀ y ∈ Fs.flatten, y < w.heap.size := fun y hy => by
    obtain ⟨l, hl, hyl⟩ := List.mem_flatten.1 hy
    obtain ⟨i, hi, rfl⟩ := List.mem_iff_getElem.1 hl
    exact hP.lt w _ _ _ (els i (by omega)) y (by simpa [hi] using hyl)
  refine h v' w' (blk v' ++ (Fs ++ [Fb]).flatten) ⟨us ++ [.slice uo un uc], Fs ++ [Fb], by simp [l1], by simp [l2], ?_, fun i hi => ?_, rfl⟩ ?_ ?_ hw
  · rw [List.length_append]; exact h1
  · by_cases hil : i < L.length
    · have e1 : (us ++ [Value.slice uo un uc]).getD i (.slice none 0 0) = us.getD i (.slice none 0 0) := by simp [List.getElem?_append_left (show i < us.length by omega)]
      have e2 : (Fs ++ [Fb]).getD i [] = Fs.getD i [] := by simp [List.getElem?_append_left (show i < Fs.length by omega)]
      rw [e1, e2, List.getElem_append_left hil]
      exact hP.wr (els i hil) hw (fun y hy hy2 => hn.2.2 y hy2 y (flat_in (by omega) y hy) rfl)
    · have hie : i = L.length := by rw [List.length_append] at hi; simp at hi; omega
      subst hie
      have e1 : (us ++ [Value.slice uo un uc]).getD L.length (.slice none 0 0) = .slice uo un uc := by rw [← l1]; simp
      have e2 : (Fs ++ [Fb]).getD L.length [] = Fb := by rw [← l2]; simp
      rw [e1, e2, List.getElem_append_right (Nat.le_refl _)]
      simp only [Nat.sub_self, List.getElem_cons_zero]
      exact hP.wr hu hw (fun y hy hy2 => hd y hy (by simp [hy2]))
  · rw [hfl]
    refine List.nodup_append.2 ⟨by unfold blk; cases v'.ownBlock <;> simp, List.nodup_append.2 ⟨hn.2.1, hFb, fun y hy z hz => ?_⟩, fun y hy z hz => ?_⟩
    · rintro rfl
      exact hd y hz (by simp [hy])
    · rintro rfl
      rcases List.mem_append.1 hz with hz | hz
      · rcases hvb y hy with h5 | h5
        · exact hn.2.2 y h5 y hz rfl
        · have := hlt y hz; omega
      · rcases hvb y hy with h5 | h5
        · exact hd y hz (by simp [h5])
        · have := hP.lt w _ _ _ hu y hz; omega
  · intro y hy
    rw [hfl] at hy
    rcases List.mem_append.1 hy with hy | hy
    · rcases hvb y hy with h5 | h5
      · exact .inl (by simp [h5])
      · exact .inr (.inr h5)
    · rcases List.mem_append.1 hy with hy | hy
      · exact .inl (by simp [hy])
      · exact .inr (.inl hy)

/-- The same, in a region that draws its order. -/
theorem step_append_rowR {α : Type} {P : World → Value → α → List Nat → Prop} (hP : OwOk P) {e T : TypeId} (hT : Try.prog.underlying T = some (.slice e)) (hI : (Try.prog.info? e).map (fun i => (i.zero, i.size, i.bytes)) = some (some (.slice none 0 0), 1, 24))
    {w : World} {ops : Array Oper} {o : Oper} {a : Act} {K : Act → World → Prop} {Q : Exit → Act → World → Prop} {E : Prop} (hgd : o.guard = none) (s x : Operand)
    (ho : o.op = .call { callee := .builtin .append, args := #[s, x], argTypes := #[T, T] })
    (v : Value) (L : List α) (F : List Nat) (hs : a.eval s = v) (hown : OwR e P w v L F) (hF : F.Nodup) (u : Value) (b : α) (Fb : List Nat) (hu : P w u b Fb) (hFb : Fb.Nodup) (hd : ∀ x ∈ Fb, x ∉ F) (hx : a.eval x = .slice (some ⟨w.heap.size, 0, none⟩) 1 1) (hb : L.length ≤ 1000000) (R : List α) (hR : L ++ [b] = R)
    (h : ∀ v' w' F', OwR e P w' v' R F' → F'.Nodup → (∀ x ∈ F', x ∈ F ∨ x ∈ Fb ∨ w.heap.size ≤ x) → Wr (blk v) w w' → K (a.put o.dst v') w') :
    if Region.wanted o (yielded ops a.tmps) = true then Oper.wp Try.prog o a (w.alloc (.cells #[u] e)) K Q else E := by
  subst hR
  obtain ⟨i0, hi, hz0, hz1, hz2⟩ := info_parts hI
  obtain ⟨us, Fs, l1, l2, o1, els, rfl⟩ := hown
  obtain ⟨uo, un, uc, rfl⟩ := hP.form _ _ _ _ hu
  have hn := List.nodup_append.1 hF
  refine step_append_lies _ hgd s x T ho 0 e i0 _ 1 24 hT hi hz0 hz1 hz2 rfl (by decide) v L.length _ hs (o1.alloc _) ⟨w.heap.size, 0, none⟩ 1 1 [.slice uo un uc] hx rfl (World.news_of_block (cs := #[.slice uo un uc]) (t := e) (fr := (0, 0)) (heap_alloc_new w _)) (by intro y hy; simp at hy; subst hy; rfl) (by omega) (by unfold maxLen; omega) (by omega) (Nat.zero_le _) _ rfl ?_
  intro g0 cap0 w' h1 h2 h4' _
  obtain ⟨v', hv'⟩ : ∃ v', Value.slice (some ⟨g0, 0, none⟩) (L.length + 1) cap0 = v' := ⟨_, rfl⟩
  have h4 : v'.ownBlock = v.ownBlock ∨ v'.ownBlock = some (w.alloc (.cells #[.slice uo un uc] e)).heap.size := by
    rcases h4' with h5 | h5
    · left; rw [← hv', h5]; rfl
    · right; rw [← hv', ← h5]; rfl
  rw [hv'] at h1 ⊢
  clear hv' h4'
  have hga : w.grownBy w' v.ownBlock := ⟨h2.os, h2.tape, h2.output, by have h := h2.size; simp at h; omega, fun k hk hr => (h2.block k (by simp; omega) hr).trans (Below.heap_alloc _ _ _ hk)⟩
  have hw : Wr (blk v) w w' := Wr.ofRow hga (fun g e => mem_blk.2 e)
  have hvb : ∀ y, y ∈ blk v' → y ∈ blk v ∨ w.heap.size ≤ y := fun y hy => by
    rcases h4 with h4 | h4
    · exact .inl (mem_blk.2 (by rw [← h4]; exact mem_blk.1 hy))
    · have e1 := mem_blk.1 hy
      rw [h4] at e1
      have e2 : (w.alloc (.cells #[.slice uo un uc] e)).heap.size = y := Option.some.inj e1
      exact .inr (by simp at e2; omega)
  have hfl : (Fs ++ [Fb]).flatten = Fs.flatten ++ Fb := by simp
  have hlt : ∀ y ∈ Fs.flatten, y < w.heap.size := fun y hy => by
    obtain ⟨l, hl, hyl⟩ := List.mem_flatten.1 hy
    obtain ⟨i, hi, rfl⟩ := List.mem_iff_getElem.1 hl
    exact hP.lt w _ _ _ (els i (by omega)) y (by simpa [hi] using hyl)
  refine h v' w' (blk v' ++ (Fs ++ [Fb]).flatten) ⟨us ++ [.slice uo un uc], Fs ++ [Fb], by simp [l1], by simp [l2], ?_, fun i hi => ?_, rfl⟩ ?_ ?_ hw
  · rw [List.length_append]; exact h1
  · by_cases hil : i < L.length
    · have e1 : (us ++ [Value.slice uo un uc]).getD i (.slice none 0 0) = us.getD i (.slice none 0 0) := by simp [List.getElem?_append_left (show i < us.length by omega)]
      have e2 : (Fs ++ [Fb]).getD i [] = Fs.getD i [] := by simp [List.getElem?_append_left (show i < Fs.length by omega)]
      rw [e1, e2, List.getElem_append_left hil]
      exact hP.wr (els i hil) hw (fun y hy hy2 => hn.2.2 y hy2 y (flat_in (by omega) y hy) rfl)
    · have hie : i = L.length := by rw [List.length_append] at hi; simp at hi; omega
      subst hie
      have e1 : (us ++ [Value.slice uo un uc]).getD L.length (.slice none 0 0) = .slice uo un uc := by rw [← l1]; simp
      have e2 : (Fs ++ [Fb]).getD L.length [] = Fb := by rw [← l2]; simp
      rw [e1, e2, List.getElem_append_right (Nat.le_refl _)]
      simp only [Nat.sub_self, List.getElem_cons_zero]
      exact hP.wr hu hw (fun y hy hy2 => hd y hy (by simp [hy2]))
  · rw [hfl]
    refine List.nodup_append.2 ⟨by unfold blk; cases v'.ownBlock <;> simp, List.nodup_append.2 ⟨hn.2.1, hFb, fun y hy z hz => ?_⟩, fun y hy z hz => ?_⟩
    · rintro rfl
      exact hd y hz (by simp [hy])
    · rintro rfl
      rcases List.mem_append.1 hz with hz | hz
      · rcases hvb y hy with h5 | h5
        · exact hn.2.2 y h5 y hz rfl
        · have := hlt y hz; omega
      · rcases hvb y hy with h5 | h5
        · exact hd y hz (by simp [h5])
        · have := hP.lt w _ _ _ hu y hz; omega
  · intro y hy
    rw [hfl] at hy
    rcases List.mem_append.1 hy with hy | hy
    · rcases hvb y hy with h5 | h5
      · exact .inl (by simp [h5])
      · exact .inr (.inr h5)
    · rcases List.mem_append.1 hy with hy | hy
      · exact .inl (by simp [hy])
      · exact .inr (.inl hy)

end Go.Proofs.Ytnjcmlmgjoaeeaa

namespace Go.Proofs.Ytnjcmlmgjoaeeaa
open Go.RowKit

theorem rowsK_append (n m k : Nat) (hk : 0 < k) (U V : Nat → Nat → Value) : rowsK n k U ++ rowsK m k V = rowsK (n + m) k (fun i j => if i < n then U i j else V (i - n) j) := by
  apply List.ext_getElem?
  intro c
  by_cases h1 : c < n * k
  · rw [List.getElem?_append_left (by rw [rowsK_len]; exact h1)]
    have hi' : c / k < n := Nat.div_lt_of_lt_mul (by rw [Nat.mul_comm]; exact h1)
    have hm : c % k < k := Nat.mod_lt _ hk
    have hd : c = (c / k) * k + c % k := by have := Nat.div_add_mod c k; rw [Nat.mul_comm] at this; omega
    rw [hd, rowsK_get n k U _ _ hi' hm, rowsK_get (n + m) k _ _ _ (by omega) hm, if_pos hi']
  · obtain ⟨d, rfl⟩ : ∃ d, c = n * k + d := ⟨c - n * k, by omega⟩
    rw [List.getElem?_append_right (by rw [rowsK_len]; omega), rowsK_len, Nat.add_sub_cancel_left]
    have hd : d = (d / k) * k + d % k := by have := Nat.div_add_mod d k; rw [Nat.mul_comm] at this; omega
    have hm : d % k < k := Nat.mod_lt _ hk
    have hc : n * k + d = (n + d / k) * k + d % k := by rw [Nat.add_mul]; omega
    by_cases h2 : d < m * k
    · have hi' : d / k < m := Nat.div_lt_of_lt_mul (by rw [Nat.mul_comm]; exact h2)
      rw [hc, rowsK_get (n + m) k _ _ _ (Nat.add_lt_add_left hi' n) hm, if_neg (Nat.not_lt.2 (Nat.le_add_right _ _)), Nat.add_sub_cancel_left]
      have e9 := rowsK_get m k V (d / k) (d % k) hi' hm
      rw [← hd] at e9
      exact e9
    · rw [List.getElem?_eq_none (by rw [rowsK_len]; omega), List.getElem?_eq_none (by rw [rowsK_len, Nat.add_mul]; omega)]

theorem append_rowsG {α : Type} {P : World → (Nat → Value) → α → List Nat → Prop} (hP : OkG P) {e T : TypeId} {sz bytes : Nat} {z : Value} (hT : Try.prog.underlying T = some (.slice e)) (hI : (Try.prog.info? e).map (fun i => (i.zero, i.size, i.bytes)) = some (some z, sz, bytes)) (hzs : z.cells.size = sz) (hsz : 0 < sz) (hbt : bytes ≤ 1000)
    {w : World} {ops : Array Oper} {rest : List Oper} {o : Oper} {a : Act} {Q : Exit → Act → World → Prop} (hgd : o.guard = none) (s x : Operand)
    (ho : o.op = .call { callee := .builtin .append, args := #[s, x], argTypes := #[T, T] })
    (v : Value) (L : List α) (F : List Nat) (hs : a.eval s = v) (hown : OwG e sz P w v L F) (hF : F.Nodup)
    (cs : Array Value) (m : Nat) (V : Nat → Nat → Value) (hcs : cs.toList = rowsK m sz V) (M : List α) (hM : M.length = m) (Gs : List (List Nat)) (hGs : Gs.length = m) (hu : ∀ i (h : i < M.length), P w (V i) M[i] (Gs.getD i [])) (hG : Gs.flatten.Nodup) (hd : ∀ x ∈ Gs.flatten, x ∉ F) (h1c : ∀ u ∈ cs.toList, u.oneCell' = true)
    (H : Nat) (hH : w.heap.size = H) (hx : a.eval x = .slice (some ⟨H, 0, none⟩) m m) (hb : L.length + m ≤ 1000000) (R : List α) (hR : L ++ M = R)
    (h : ∀ v' w' F', OwG e sz P w' v' R F' → F'.Nodup → (∀ x ∈ F', x ∈ F ∨ x ∈ Gs.flatten ∨ w.heap.size ≤ x) → Wr (blk v) w w' → wpList Try.prog ops Q rest (a.put o.dst v') w') :
    wpList Try.prog ops Q (o :: rest) a (w.alloc (.cells cs e)) := by
  subst hR
  subst hH
  obtain ⟨i0, hi, hz0, hz1, hz2⟩ := info_parts hI
  obtain ⟨U, Fs, l2, o1, els, rfl⟩ := hown
  have hn := List.nodup_append.1 hF
  have hbb : (L.length + m) * bytes ≤ 1000000 * 1000 := Nat.mul_le_mul hb hbt
  refine wpList_append_own_at _ hgd s x T ho 0 e i0 _ sz bytes hT hi hz0 hz1 hz2 hzs hsz v L.length _ hs (o1.alloc _) ⟨w.heap.size, 0, none⟩ m m cs.toList hx (by rw [hcs, rowsK_len]) (World.news_of_block (cs := cs) (t := e) (fr := (0, 0)) (heap_alloc_new w _)) h1c (by unfold maxLen; omega) (by omega) (Nat.zero_le _) ?_
  intro v' w' h1 h2 _ h4
  have hga : w.grownBy w' v.ownBlock := ⟨h2.os, h2.tape, h2.output, by have h := h2.size; simp at h; omega, fun k hk hr => (h2.block k (by simp; omega) hr).trans (Below.heap_alloc _ _ _ hk)⟩
  have hw : Wr (blk v) w w' := Wr.ofRow hga (fun g e => mem_blk.2 e)
  have hvb : ∀ y, y ∈ blk v' → y ∈ blk v ∨ w.heap.size ≤ y := fun y hy => by
    rcases h4 with h4 | h4
    · exact .inl (mem_blk.2 (by rw [← h4]; exact mem_blk.1 hy))
    · have e1 := mem_blk.1 hy
      rw [h4] at e1
      have e2 : (w.alloc (.cells cs e)).heap.size = y := Option.some.inj e1
      exact .inr (by simp at e2; omega)
  have hfl : (Fs ++ Gs).flatten = Fs.flatten ++ Gs.flatten := by simp
  have hlt : ∀ y ∈ Fs.flatten, y < w.heap.size := fun y hy => by
    obtain ⟨l, hl, hyl⟩ := List.mem_flatten.1 hy
    obtain ⟨i, hi, rfl⟩ := List.mem_iff_getElem.1 hl
    exact hP.lt w _ _ _ (els i (by omega)) y (by simpa [hi] using hyl)
  have hltG : ∀ y ∈ Gs.flatten, y < w.heap.size := fun y hy => by
    obtain ⟨l, hl, hyl⟩ := List.mem_flatten.1 hy
    obtain ⟨i, hi, rfl⟩ := List.mem_iff_getElem.1 hl
    exact hP.lt w _ _ _ (hu i (by omega)) y (by simpa [hi] using hyl)
  refine h v' w' (blk v' ++ (Fs ++ Gs).flatten) ⟨fun i j => if i < L.length then U i j else V (i - L.length) j, Fs ++ Gs, by simp [l2, hGs, hM], ?_, fun i hi => ?_, rfl⟩ ?_ ?_ hw
  · rw [List.length_append, hM, ← rowsK_append L.length m sz hsz, ← hcs]; exact h1
  · by_cases hil : i < L.length
    · have e1 : (fun j => if i < L.length then U i j else V (i - L.length) j) = U i := by funext j; rw [if_pos hil]
      have e2 : (Fs ++ Gs).getD i [] = Fs.getD i [] := by simp [List.getElem?_append_left (show i < Fs.length by omega)]
      dsimp only
      rw [e1, e2, List.getElem_append_left hil]
      exact hP.wr (els i hil) hw (fun y hy hy2 => hn.2.2 y hy2 y (flat_in (by omega) y hy) rfl)
    · have him : i - L.length < M.length := by rw [List.length_append] at hi; omega
      have e1 : (fun j => if i < L.length then U i j else V (i - L.length) j) = V (i - L.length) := by funext j; rw [if_neg hil]
      have e2 : (Fs ++ Gs).getD i [] = Gs.getD (i - L.length) [] := by simp [List.getElem?_append_right (show Fs.length ≤ i by omega), l2]
      dsimp only
      rw [e1, e2, List.getElem_append_right (by omega)]
      exact hP.wr (hu (i - L.length) him) hw (fun y hy hy2 => hd y (flat_in (by omega) y hy) (by simp [hy2]))
  · rw [hfl]
    refine List.nodup_append.2 ⟨blk_nodup v', List.nodup_append.2 ⟨hn.2.1, hG, fun y hy z hz => ?_⟩, fun y hy z hz => ?_⟩
    · rintro rfl
      exact hd y hz (by simp [hy])
    · rintro rfl
      rcases List.mem_append.1 hz with hz | hz
      · rcases hvb y hy with h5 | h5
        · exact hn.2.2 y h5 y hz rfl
        · have := hlt y hz; omega
      · rcases hvb y hy with h5 | h5
        · exact hd y hz (by simp [h5])
        · have := hltG y hz; omega
  · intro y hy
    rw [hfl] at hy
    rcases List.mem_append.1 hy with hy | hy
    · rcases hvb y hy with h5 | h5
      · exact .inl (by simp [h5])
      · exact .inr (.inr h5)
    · rcases List.mem_append.1 hy with hy | hy
      · exact .inl (by simp [hy])
      · exact .inr (.inl hy)

end Go.Proofs.Ytnjcmlmgjoaeeaa

namespace Go.Proofs.Ytnjcmlmgjoaeeaa
open Go.RowKit

theorem info_iS : (Try.prog.info? 3).map (fun i => (i.zero, i.size, i.bytes)) = some (some (.int .i64 0), 1, 8) := by kernel_rfl
theorem append_intS {w : World} {ops : Array Oper} {rest : List Oper} {o : Oper} {a : Act} {Q : Exit → Act → World → Prop} (hgd : o.guard = none) (s x : Operand)
    (ho : o.op = .call { callee := .builtin .append, args := #[s, x], argTypes := #[36, 36] })
    (base : Nat) (v : Value) (L : List Int) (hs : a.eval s = v) (hown : w.ownsRow base 3 1 v L.length (L.map (Value.int .i64))) (t : Int) (hx : a.eval x = .slice (some ⟨w.heap.size, 0, none⟩) 1 1) (hb : L.length ≤ 2000000) (hbase : base ≤ w.heap.size) (R : List Int) (hR : L ++ [t] = R)
    (hK : ∀ v' w', w'.ownsRow base 3 1 v' R.length (R.map (Value.int .i64)) → w.grownBy w' v.ownBlock → (v'.ownBlock = v.ownBlock ∨ ∀ g, v'.ownBlock = some g → w.heap.size ≤ g) → wpList Try.prog ops Q rest (a.put o.dst v') w') :
    wpList Try.prog ops Q (o :: rest) a (w.alloc (.cells #[.int .i64 t] 3)) := by
  subst hR
  obtain ⟨i0, hi, hz0, hz1, hz2⟩ := info_parts info_iS
  refine wpList_append_own_at _ hgd s x 36 ho base 3 i0 _ 1 8 Try.underlying36 hi hz0 hz1 hz2 rfl (by decide) v L.length _ hs (hown.alloc _) ⟨w.heap.size, 0, none⟩ 1 1 [.int .i64 t] hx rfl (World.news_of_block (cs := #[.int .i64 t]) (t := 3) (fr := (0, 0)) (heap_alloc_new w _)) (by intro u hu; simp at hu; subst hu; rfl) (by unfold maxLen; omega) (by omega) (by simp; omega) ?_
  intro v' w' h1 h2 _ h4
  refine hK v' w' ?_ ⟨h2.os, h2.tape, h2.output, by have h := h2.size; simp at h; omega, fun k hk hr => (h2.block k (by simp; omega) hr).trans (Below.heap_alloc _ _ _ hk)⟩ ?_
  · rw [List.map_append, List.length_append]; exact h1
  · rcases h4 with h4 | h4
    · exact .inl h4
    · refine .inr fun g e => ?_
      rw [h4] at e
      have e2 : (w.alloc (.cells #[.int .i64 t] 3)).heap.size = g := Option.some.inj e
      simp at e2; omega

end Go.Proofs.Ytnjcmlmgjoaeeaa

namespace Go.Proofs.Ytnjcmlmgjoaeeaa
open Go.RowKit

/-- Rows while they are made, or written: beside the frame. -/
structure Lf (w wr : World) (fx : Array Value) (u : Value) (X : List (List Int)) (F : List Nat) : Prop where
  fr : wr.heap[w.heap.size]? = some (.cells fx 26 (0, 0))
  own : Ow2 wr u X F
  nd : F.Nodup
  lo : ∀ g ∈ F, w.heap.size + 1 ≤ g
  grown : w.grownBy wr none
theorem Lf.new {w wr w' : World} {fx : Array Value} {u : Value} {X : List (List Int)} {F : List Nat} (h : Lf w wr fx u X F) (g : wr.grownBy w' none) : Lf w w' fx u X F :=
  ⟨at_rowS g h.fr (by simp), ok2.keep h.own g, h.nd, h.lo, grown_trans h.grown g⟩
theorem Lf.size {w wr : World} {fx : Array Value} {u : Value} {X : List (List Int)} {F : List Nat} (h : Lf w wr fx u X F) : w.heap.size + 1 ≤ wr.heap.size := (Array.getElem?_eq_some_iff.1 h.fr).1
theorem nothing_next (i : Nat) : nothing i ++ [List.replicate 64 (-1)] = nothing (i + 1) := by
  unfold nothing
  generalize List.replicate 64 (-1 : Int) = r
  rw [List.replicate_succ']
theorem minus_next (k : Nat) : List.replicate k (-1 : Int) ++ [-1] = List.replicate (k + 1) (-1) := by rw [List.replicate_succ']
theorem leftL_row2 {w : World} {u : Value} {X : List (List Int)} {F : List Nat} (h : Ow2 w u X F) (hF : F.Nodup) (c : Nat) (hc : c < X.length) (k : Nat) (hk : k < (X.getD c []).length) : ∃ g cap gi ci, u = .slice (some ⟨g, 0, none⟩) X.length cap ∧ w.cell? ⟨g, c, none⟩ = some (.slice (some ⟨gi, 0, none⟩) (X.getD c []).length ci) ∧ w.cell? ⟨gi, k, none⟩ = some (.int .i64 ((X.getD c []).getD k 0)) ∧ w.frozen? ⟨gi, k, none⟩ = false ∧ gi ∈ F ∧
    ∀ z : Int, Ow2 (w.setCell ⟨gi, k, none⟩ (.int .i64 z)) u (X.set c ((X.getD c []).set k z)) F := by
  have e : X.getD c [] = X[c] := by simp [hc]
  rw [e] at hk ⊢
  obtain ⟨g, cap, ui, Fi, rfl, hg, cu, hP, hn, hgi, hsub, hset⟩ := OwR.at ok1 h hF c hc
  obtain ⟨ho, rfl⟩ := hP
  obtain ⟨ao, ci, rfl⟩ := own_form ho
  obtain ⟨gi, rfl, _, _⟩ := own_at ho (by omega)
  refine ⟨g, cap, gi, ci, rfl, cu, ?_, ho.frozenAt k, hsub gi (mem_blk.2 rfl), fun z => ?_⟩
  · rw [ho.cellAt k (by omega)]
    simp [hk]
  · have st := ho.stored k (.int .i64 z)
    refine hset _ _ (Wr.ofRow st.2 (fun x hx => by have := Option.some.inj hx; subst this; exact mem_blk.2 rfl)) ⟨?_, rfl⟩
    rw [List.length_set, List.map_set]
    exact st.1

theorem OwR.headL {α : Type} {e : TypeId} {P : World → Value → α → List Nat → Prop} {w : World} {g n cap : Nat} {L : List α} {F : List Nat} (h : OwR e P w (.slice (some ⟨g, 0, none⟩) n cap) L F) : g ∈ F := by
  obtain ⟨us, Fs, _, _, _, _, rfl⟩ := h
  exact List.mem_append_left _ (mem_blk.2 rfl)
/-- A new row of numbers beside the rows. -/
structure Lr (w wr : World) (F : List Nat) (rv : Value) (A : List Int) : Prop where
  own : wr.ownsRow (w.heap.size + 1) 3 1 rv A.length (A.map (Value.int .i64))
  na : ∀ g, rv.ownBlock = some g → g ∉ F

set_option maxRecDepth 20000 in
set_option maxHeartbeats 6400000 in
theorem specLeft (p wd ht rs : Int) (fo : Option Addr) (n fc : Nat) (C : Nat → Nat → Int) (w : World) (hr : RdC w fo n C) (hn : n ≤ 4194304) (v : Value) (S : List Scn) (hS : RdSs w v S) (hcs : ∀ a ∈ S, a.cs.length ≤ 4194304) (fb : Bool) (HFB : Hid (frameB p wd ht rs n C = fb)) (L : List (List Int)) (b : Bool) (HL : Hid (leftG fb n S = L)) (HB : Hid ((leftO fb n S).isSome = b)) :
    Calls Try.prog 51 #[.agg #[.int .i64 p, .int .i64 wd, .int .i64 ht, .int .i64 rs, .slice fo n fc], v] w fun e w' => ∃ u F, e = .returned (.tuple #[u, .bool b]) ∧ Ow2 w' u L F ∧ F.Nodup ∧ (∀ g ∈ F, w.heap.size ≤ g) ∧ w.grownBy w' none := by
  have hn4 : fb = true → n ≤ 4 := fun e => by have := unhide HFB; rw [e] at this; exact (geo_of this).n4
  obtain ⟨vo, vc, rfl, hSr⟩ := hS
  obtain ⟨W2, HW2⟩ : ∃ W2, Hid ((w.alloc (.cells #[.int .i64 p, .int .i64 wd, .int .i64 ht, .int .i64 rs, .slice fo n fc] 26)).alloc (.cells #[] 36) = W2) := ⟨_, rfl⟩
  have G0 : w.grownBy W2 none := by rw [← unhide HW2]; exact grown_alloc (grown_alloc (World.grownBy.refl _ _) _) _
  have B0 : W2.heap[w.heap.size]? = some (.cells #[.int .i64 p, .int .i64 wd, .int .i64 ht, .int .i64 rs, .slice fo n fc] 26 (0, 0)) := by
    rw [← unhide HW2]
    exact at_rowS (World.grownBy_alloc _ _ none) (heap_alloc_new w _) (by simp)
  have O0 : W2.ownsRow (w.heap.size + 1) 36 1 (.slice (some ⟨w.heap.size + 1, 0, none⟩) 0 0) 0 [] := by
    rw [← unhide HW2]
    have := World.ownsRow_lit (w.alloc (.cells #[.int .i64 p, .int .i64 wd, .int .i64 ht, .int .i64 rs, .slice fo n fc] 26)) (e := 36) (size := 1) (base := w.heap.size + 1) #[] 0 (by simp) (by unfold maxLen; omega) rfl
    simpa using this
  have HRC := hide hr
  have HFR := hide (specFrameOk p wd ht rs fo n fc C W2 (hr.grown G0) fb HFB)
  have HL0 : Hid (Lf w W2 #[.int .i64 p, .int .i64 wd, .int .i64 ht, .int .i64 rs, .slice fo n fc] (.slice (some ⟨w.heap.size + 1, 0, none⟩) 0 0) (nothing 0) [w.heap.size + 1]) := ⟨B0, ⟨[], [], rfl, rfl, own_base O0 (Nat.zero_le _), fun i hi => absurd hi (by simp [nothing]), rfl⟩, by simp, fun g hg => by simp at hg; omega, G0⟩
  rw [← unhide HW2] at B0
  obtain ⟨f0, f1, f2, f3, f4⟩ := frameCells' B0
  have HN4 := hide hn4
  have HSR := hide hSr
  have HCS := hide hcs
  clear hr G0 B0 O0 hn4 hSr hcs
  go_enter Try.func51, Try.ntmps51
  go_wp2_with fail
  rw [unhide HW2]
  clear HW2 f0 f1 f2 f3 f4
  refine (unhide HFR).mono ?_
  rintro e w3 ⟨rfl, g3⟩
  have HL3 := hide ((unhide HL0).new g3)
  clear g3 HFR HL0
  have NIL : Hid (leftO fb n S = none → b = false ∧ L = []) := fun e => ⟨by rw [← unhide HB, e]; rfl, by rw [← unhide HL, leftG, e]; rfl⟩
  cases fb with
  | false =>
    obtain ⟨rfl, rfl⟩ := unhide NIL (by unfold leftO; rfl)
    go_wp2
    refine bodyPost_ret (v := .tuple #[.slice (some ⟨w.heap.size + 1, 0, none⟩) 0 0, .bool false]) (by simp [results, Try.results51, go_sem]) rfl ?_
    exact ⟨_, _, rfl, (unhide HL3).own, (unhide HL3).nd, fun g hg => by have := (unhide HL3).lo g hg; omega, (unhide HL3).grown⟩
  | true =>
    have hn4 := unhide HN4 rfl
    by_cases h40 : S.length ≤ 40
    · have hgt : decide ((S.length : Int) > 40) = false := decide_eq_false (by omega)
      have hle : ¬ ((40 : Int) < (S.length : Int)) := by omega
      have LE : Hid (leftO true n S = leftAll true n S (nothing n)) := by unfold Hid leftO; rw [decide_eq_true h40]; rfl
      have EMP : Hid (∀ wq : World, w.grownBy wq none → b = false ∧ L = [] → ∃ u F, (Ending.returned (.tuple #[.slice (some ⟨wq.heap.size, 0, none⟩) 0 0, .bool false])) = .returned (.tuple #[u, .bool b]) ∧ Ow2 (wq.alloc (.cells #[] 36)) u L F ∧ F.Nodup ∧ (∀ g ∈ F, w.heap.size ≤ g) ∧ w.grownBy (wq.alloc (.cells #[] 36)) none) := fun wq gq e => by
        obtain ⟨rfl, rfl⟩ := e
        have hq := gq.size
        exact ⟨_, [wq.heap.size], rfl, ⟨[], [], rfl, rfl, World.ownsRow_lit wq #[] 0 (Nat.zero_le _) (by unfold maxLen; omega) rfl, fun i hi => absurd hi (by simp), rfl⟩, by simp, fun g hg => by simp at hg; omega, grown_alloc gq _⟩
      have HSL : Hid (S.length ≤ 40) := h40
      clear h40
      have c4 : w3.cell? ⟨w.heap.size, 4, none⟩ = some (.slice fo n fc) := (frameCells' (unhide HL3).fr).2.2.2.2
      go_wp2
      clear c4 hgt hle
      go_loopw [6, 7] (fun uv iv wr => ∃ (i : Nat) (uo : Option Addr) (uc : Nat) (F : List Nat), i ≤ n ∧ iv = .int .i64 i ∧ uv = .slice uo i uc ∧ Hid (Lf w wr #[.int .i64 p, .int .i64 wd, .int .i64 ht, .int .i64 rs, .slice fo n fc] (.slice uo i uc) (nothing i) F)) (fun _ iv _ => n - (intOf iv).toNat)
      case atStart => exact ⟨0, _, _, _, Nat.zero_le _, rfl, rfl, HL3⟩
      case round =>
        clear HL3
        obtain ⟨i, uo, uc, F, hin, rfl, rfl, hf⟩ := hrel
        have c4 : wr.cell? ⟨w.heap.size, 4, none⟩ = some (.slice fo n fc) := (frameCells' (unhide hf).fr).2.2.2.2
        by_cases hlt : i < n
        · have hd : decide ((i : Int) < (n : Int)) = true := decide_eq_true (by omega)
          have gA : wr.grownBy (wr.alloc (.cells #[] 3)) none := World.grownBy_alloc _ _ _
          have HF1 := hide ((unhide hf).new gA)
          have hs1 := (unhide hf).size
          have HR1 : Hid (Lr w (wr.alloc (.cells #[] 3)) F (.slice (some ⟨wr.heap.size, 0, none⟩) 0 0) (List.replicate 0 (-1))) := by
            refine ⟨World.ownsRow_lit wr #[] 0 hs1 (by unfold maxLen; omega) rfl, fun g e hx => ?_⟩
            have e9 : wr.heap.size = g := Option.some.inj e
            have := ok2.lt _ _ _ _ (unhide hf).own g hx
            omega
          clear gA hf
          go_wp2
          clear c4
          go_loopw [8, 9] (fun rv kv wr => ∃ (k : Nat) (ro : Option Addr) (rc : Nat), k ≤ 64 ∧ kv = .int .i64 k ∧ rv = .slice ro k rc ∧ Hid (Lf w wr #[.int .i64 p, .int .i64 wd, .int .i64 ht, .int .i64 rs, .slice fo n fc] (.slice uo i uc) (nothing i) F) ∧ Hid (Lr w wr F (.slice ro k rc) (List.replicate k (-1)))) (fun _ kv _ => 64 - (intOf kv).toNat)
          case atStart => exact ⟨0, _, _, Nat.zero_le _, rfl, rfl, HF1, HR1⟩
          case round =>
            clear HF1 HR1
            obtain ⟨k, ro, rc, hk, rfl, rfl, hf, hr1⟩ := hrel
            by_cases hk64 : k < 64
            · have hkI : (k : Int) < 64 := by omega
              obtain ⟨T, HTT⟩ : ∃ T, Hid (List.replicate k (-1 : Int) = T) := ⟨_, rfl⟩
              obtain ⟨R, HRR⟩ : ∃ R, Hid (List.replicate (k + 1) (-1 : Int) = R) := ⟨_, rfl⟩
              have HTL : Hid (T.length = k) := by unfold Hid; rw [← unhide HTT, List.length_replicate]
              have HRL : Hid (R.length = k + 1) := by unfold Hid; rw [← unhide HRR, List.length_replicate]
              have HNX : Hid (T ++ [(-1 : Int)] = R) := by unfold Hid; rw [← unhide HTT, ← unhide HRR]; exact minus_next k
              rw [unhide HTT] at hr1
              go_wp2_with (at_builtin; (refine append_intS rfl _ _ rfl (w.heap.size + 1) (.slice ro k rc) T rfl (unhide hr1).own (-1) rfl (by rw [unhide HTL]; omega) (unhide hf).size R (unhide HNX) ?_))
              intro v5 w5 o5 g5 hat5
              have HF5 : Hid (Lf w w5 #[.int .i64 p, .int .i64 wd, .int .i64 ht, .int .i64 rs, .slice fo n fc] (.slice uo i uc) (nothing i) F) := by
                have E := unhide hf
                refine ⟨at_rowS g5 E.fr (fun e => by have := ((unhide hr1).own.lt _ e).1; omega), ok2.wr E.own (Wr.ofRow (F := blk (.slice ro k rc)) g5 (fun x e => mem_blk.2 e)) (fun x hx e => (unhide hr1).na x (mem_blk.1 e) hx), E.nd, E.lo, grown_new E.grown g5 (fun q e => by have := ((unhide hr1).own.lt _ e).1; omega)⟩
              have HR5 : Hid (Lr w w5 F v5 R) := ⟨o5, fun g e hx => by
                rcases hat5 with h | h
                · exact (unhide hr1).na g (by rw [← h]; exact e) hx
                · have h2 := h g e
                  have h3 := ok2.lt _ _ _ _ (unhide hf).own g hx
                  omega⟩
              rw [unhide HRL] at o5
              obtain ⟨ro5, rc5, rfl⟩ := own_form o5
              rw [← unhide HRR] at HR5
              clear o5 g5 hat5 hf hr1 HTT HTL HRL HNX
              go_wp2
              go_roundw
              case rel => exact ⟨k + 1, ro5, rc5, by omega, by go_num, rfl, HF5, HR5⟩
              case measure => simp [intOf]; omega
            · obtain rfl : k = 64 := by omega
              obtain ⟨T, HTT⟩ : ∃ T, Hid (List.replicate 64 (-1 : Int) = T) := ⟨_, rfl⟩
              have HTL : Hid (T.length = 64) := by unfold Hid; rw [← unhide HTT, List.length_replicate]
              rw [unhide HTT] at hr1
              have HU : Hid (OwI .i64 3 wr (.slice ro 64 rc) T (blk (.slice ro 64 rc))) := ⟨own_base (unhide hr1).own (Nat.zero_le _), rfl⟩
              have HNE : Hid (nothing i ++ [T] = nothing (i + 1)) := by unfold Hid; rw [← unhide HTT]; exact nothing_next i
              have HLN : Hid ((nothing i).length ≤ 1000000) := by unfold Hid nothing; rw [List.length_replicate]; omega
              go_wp2_with (at_builtin; refine append_rowR ok1 Try.underlying34 infoIntSS rfl _ _ rfl (.slice uo i uc) (nothing i) F rfl (unhide hf).own (unhide hf).nd _ T _ (unhide HU) (blk_nodup _) (fun x hx => (unhide hr1).na x (mem_blk.1 hx)) rfl (unhide HLN) _ (unhide HNE) ?_)
              intro v5 w5 F5 o5 n5 m5 g5
              have HF5 : Hid (Lf w w5 #[.int .i64 p, .int .i64 wd, .int .i64 ht, .int .i64 rs, .slice fo n fc] v5 (nothing (i + 1)) F5) := by
                have E := unhide hf
                have hsub : ∀ x ∈ blk (.slice uo i uc), x ∈ F := by
                  obtain ⟨us, Fs, _, _, _, _, e9⟩ := E.own
                  intro x hx
                  rw [e9]
                  simp [hx]
                have hE := E.size
                refine ⟨(g5.block _ (by omega) (fun e => by have := E.lo _ (hsub _ e); omega)).trans E.fr, o5, n5, fun x hx => ?_, Wr.new E.grown g5 (fun x hx => by have := E.lo _ (hsub _ hx); omega)⟩
                rcases m5 x hx with h | h | h
                · exact E.lo x h
                · exact ((unhide hr1).own.lt x (mem_blk.1 h)).1
                · omega
              obtain ⟨uo5, uc5, rfl⟩ := o5.form
              have e5 : (nothing (i + 1)).length = i + 1 := by unfold nothing; rw [List.length_replicate]
              rw [e5] at HF5 ⊢
              clear o5 n5 m5 g5 hf hr1 HU HNE HLN HTT HTL e5
              go_wp2
              go_roundw
              case rel => exact ⟨i + 1, uo5, uc5, F5, by omega, by go_num, rfl, HF5⟩
              case measure => simp [intOf]; omega
        · obtain rfl : n = i := by omega
          have hd : decide ((n : Int) < (n : Int)) = false := decide_eq_false (by omega)
          go_wp2
          clear c4 hd
          have HX0 : Hid (leftAll true n (S.take 0) (nothing n) = some (nothing n)) := rfl
          go_loopw [10] (fun iv wr => ∃ (i : Nat) (X : List (List Int)), i ≤ S.length ∧ iv = .int .i64 i ∧ Hid (Lf w wr #[.int .i64 p, .int .i64 wd, .int .i64 ht, .int .i64 rs, .slice fo n fc] (.slice uo n uc) X F) ∧ Hid (leftAll true n (S.take i) (nothing n) = some X)) (fun iv _ => S.length - (intOf iv).toNat)
          case atStart => exact ⟨0, _, Nat.zero_le _, rfl, hf, HX0⟩
          case round =>
            clear hf HX0
            obtain ⟨i, X, hi, rfl, hf, hX⟩ := hrel
            by_cases hlt : i < S.length
            · have hltI : (i : Int) < (S.length : Int) := by omega
              have i0 : (0 : Int) ≤ (i : Int) := by omega
              obtain ⟨sb, soff, cf, rfl, hcell, hsc, hrd⟩ := unhide HSR i hlt
              obtain ⟨a, HA⟩ : ∃ a, Hid (S.getD i Scn.zero = a) := ⟨_, rfl⟩
              have ea : S[i] = a := by rw [← unhide HA]; simp [hlt]
              have hcl := unhide HCS S[i] (List.getElem_mem hlt)
              have NEXT : Hid (∀ Z, scanB true n a = true → leftScan a X = some Z → leftAll true n (S.take (i + 1)) (nothing n) = some Z) := fun Z h1 h2 => leftAll_next i hlt (unhide hX) (by rw [ea]; exact h1) (by rw [ea]; exact h2)
              have FAIL : Hid (scanB true n a = false ∨ leftScan a X = none → b = false ∧ L = []) := fun h => unhide NIL (by rw [unhide LE]; exact leftAll_fails i hlt (unhide hX) (by rw [ea]; exact h))
              have HR64 := hide (leftAll_step _ _ X (nothing_rows n) (unhide hX)).1
              rw [ea] at hsc hrd hcl
              clear ea
              obtain ⟨cs, fr, to, hi', lo⟩ := a
              obtain ⟨co, cc, ec, hrc⟩ := hrd
              dsimp only at hsc hrc hcl ec
              obtain ⟨cn, HCN⟩ : ∃ cn, Hid (cs.length = cn) := ⟨_, rfl⟩
              rw [unhide HCN] at ec hrc hcl
              obtain ⟨k0, k1, k2, k3, k4⟩ := rowScan (fun j hj => (unhide hf).grown.cell (hcell j hj) (by simp)) hsc
              rw [ec] at k0
              dsimp only at k1 k2 k3 k4
              have B5 := at_rowS (World.grownBy_alloc wr (.cells #[.slice co cn cc, .int .i64 fr, .int .i64 to, .int .i64 hi', .int .i64 lo] 38) none) (unhide hf).fr (by simp)
              have S5 := heap_alloc_new wr (.cells #[.slice co cn cc, .int .i64 fr, .int .i64 to, .int .i64 hi', .int .i64 lo] 38)
              obtain ⟨f0, f1, f2, f3, f4⟩ := frameCells' B5
              obtain ⟨s0, s1, s2, s3, s4⟩ := scanCells S5
              have HS5 := hide S5
              have HF5 := hide ((unhide hf).new (World.grownBy_alloc wr (.cells #[.slice co cn cc, .int .i64 fr, .int .i64 to, .int .i64 hi', .int .i64 lo] 38) none))
              have HRC' := hide hrc
              have HWS := (unhide hf).size
              have HDJ : Hid (∀ g ∈ F, g < wr.heap.size) := fun g hg => ok2.lt _ _ _ _ (unhide hf).own g hg
              obtain ⟨t, HT⟩ : ∃ t, Hid (scanB true n ⟨cs, fr, to, hi', lo⟩ = t) := ⟨_, rfl⟩
              clear hcell hsc hrc ec B5 S5 hf
              go_wp2_with fail
              clear f0 f1 f2 f3 f4 s0 s1 s2 s3 s4 k0 k1 k2 k3 k4
              generalize wr.alloc (.cells #[.slice co cn cc, .int .i64 fr, .int .i64 to, .int .i64 hi', .int .i64 lo] 38) = w5 at *
              generalize wr.heap.size = bs at *
              refine (specScanOk p wd ht rs fo n fc C w5 ((unhide HRC).grown (unhide HF5).grown) hn co cn cc ⟨cs, fr, to, hi', lo⟩ ((unhide HRC').grown (unhide HF5).grown) hcl true t HFB HT).mono ?_
              rintro e w6 ⟨rfl, g6⟩
              have HF6 := hide ((unhide HF5).new g6)
              have HS6 := hide (at_rowS g6 (unhide HS5) (by simp))
              clear HF5 HS5 g6
              cases t with
              | false =>
                have e := unhide FAIL (.inl (unhide HT))
                have HEM := hide (unhide EMP w6 (unhide HF6).grown e)
                go_wp2
                refine bodyPost_ret (v := .tuple #[.slice (some ⟨w6.heap.size, 0, none⟩) 0 0, .bool false]) (by simp [results, Try.results51, go_sem]) rfl ?_
                exact unhide HEM
              | true =>
                have hb := unhide HT
                simp only [scanB, Bool.and_eq_true] at hb
                obtain ⟨⟨_, hoc⟩, hpb⟩ := hb
                have hpi := passB_in hpb
                dsimp only at hpi hoc
                obtain ⟨p1, p2, p3, p4, p5⟩ := hpi
                have hcin := okComps_in hoc
                obtain ⟨fz, rfl⟩ := Int.eq_ofNat_of_zero_le p1
                obtain ⟨tz, rfl⟩ := Int.eq_ofNat_of_zero_le (Int.le_trans p1 p2)
                obtain ⟨wt, HWT⟩ : ∃ wt, Hid (wantOf ⟨cs, (fz : Int), (tz : Int), hi', lo⟩ = wt) := ⟨_, rfl⟩
                have HLS : Hid (leftScan ⟨cs, (fz : Int), (tz : Int), hi', lo⟩ X = leftComps wt lo fz (tz + 1 - fz) cs X) := by
                  unfold Hid leftScan
                  dsimp only
                  rw [unhide HWT]
                  have e1 : ((tz : Int) - (fz : Int) + 1).toNat = tz + 1 - fz := by omega
                  rw [e1, Int.toNat_natCast]
                have hft : fz ≤ tz := by omega
                have htz : tz ≤ 63 := by omega
                have HHI : Hid (wt = -1 ∨ lo ≤ wt) := by
                  unfold Hid
                  rw [← unhide HWT]
                  unfold wantOf
                  dsimp only
                  split
                  · exact .inl rfl
                  · right; omega
                have HLO := hide p4
                have HCIN := hide hcin
                have NXT : Hid (∀ Z, leftComps wt lo fz (tz + 1 - fz) cs X = some Z → leftAll true n (S.take (i + 1)) (nothing n) = some Z) := fun Z h => unhide NEXT Z (unhide HT) (by rw [unhide HLS]; exact h)
                have FLS : Hid (leftComps wt lo fz (tz + 1 - fz) cs X = none → b = false ∧ L = []) := fun h => unhide FAIL (.inr (by rw [unhide HLS]; exact h))
                have HY0 : Hid (leftComps wt lo fz (tz + 1 - fz) (cs.take 0) X = some X) := rfl
                have hc0 : 0 < cn := by
                  simp only [okComps, Bool.and_eq_true, decide_eq_true_eq] at hoc
                  rw [← unhide HCN]
                  exact hoc.2
                obtain ⟨cb, coff, rfl, _⟩ := (unhide HRC').2 0 hc0
                have h40 := unhide HSL
                obtain ⟨s0, s1, s2, s3, s4⟩ := scanCells (unhide HS6)
                clear hoc hpb hcin p1 p2 p3 p4 p5 NEXT FAIL HT HLS
                by_cases h0 : hi' = 0
                · have ew : (-1 : Int) = wt := by rw [← unhide HWT]; unfold wantOf; rw [if_pos h0]
                  have hz : (hi' == 0) = true := by simp [h0]
                  clear h0 HWT
                  go_wp2
                  rw [ew]
                  clear ew hz s0 s1 s2 s3 s4
                  go_loopw [13] (fun jv wr => ∃ (j : Nat) (Y : List (List Int)), j ≤ cn ∧ jv = .int .i64 j ∧ Hid (Lf w wr #[.int .i64 p, .int .i64 wd, .int .i64 ht, .int .i64 rs, .slice fo n fc] (.slice uo n uc) Y F) ∧ Hid (wr.heap[bs]? = some (.cells #[.slice (some ⟨cb, coff, none⟩) cn cc, .int .i64 (fz : Int), .int .i64 (tz : Int), .int .i64 hi', .int .i64 lo] 38 (0, 0))) ∧ Hid (leftComps wt lo fz (tz + 1 - fz) (cs.take j) X = some Y)) (fun jv _ => cn - (intOf jv).toNat)
                  case atStart => exact ⟨0, X, Nat.zero_le _, rfl, HF6, HS6, HY0⟩
                  case round =>
                    clear HF6 HS6 HY0
                    obtain ⟨j, Y, hj, rfl, hf, hs, hY⟩ := hrel
                    obtain ⟨s0, s1, s2, s3, s4⟩ := scanCells (unhide hs)
                    by_cases hjl : j < cn
                    · have hd2 : decide ((j : Int) < (cn : Int)) = true := decide_eq_true (by omega)
                      have hjI : (j : Int) < (cn : Int) := by omega
                      have hjc : j < cs.length := by rw [unhide HCN]; exact hjl
                      have hY64 := (leftComps_step (n := n) (by omega) (unhide HHI) (unhide HLO) (cs.take j) X Y (unhide HR64) (fun c hc => unhide HCIN c (List.mem_of_mem_take hc)) (unhide hY)).1
                      obtain ⟨cb', coff', ecb, hcc⟩ := (unhide HRC').2 j hjl
                      obtain ⟨rfl, rfl⟩ : cb = cb' ∧ coff = coff' := by simpa using ecb
                      obtain ⟨c0, c1⟩ := unhide HCIN (cs.getD j 0) (by rw [List.getD_eq_getElem?_getD, List.getElem?_eq_getElem hjc]; exact List.getElem_mem hjc)
                      obtain ⟨cj, hcj⟩ := Int.eq_ofNat_of_zero_le c0
                      have hcn4 : cj < n := by omega
                      have NX4 : Hid (∀ row, leftRow wt lo fz (tz + 1 - fz) (Y.getD cj []) = some row → leftComps wt lo fz (tz + 1 - fz) (cs.take (j + 1)) X = some (Y.set cj row)) := fun row h => by
                        have := leftComps_next (row := row) j hjc (unhide hY) (by rw [hcj, Int.toNat_natCast]; exact h)
                        rw [hcj, Int.toNat_natCast] at this
                        exact this
                      have FL4 : Hid (leftRow wt lo fz (tz + 1 - fz) (Y.getD cj []) = none → b = false ∧ L = []) := fun h => unhide FLS (leftComps_fails j hjc (unhide hY) (by rw [hcj, Int.toNat_natCast]; exact h))
                      rw [hcj] at hcc
                      have HCC := hide hcc
                      have HYL : Hid (Y.length = n) := hY64.1
                      have HYR : Hid ((Y.getD cj []).length = 64) := hY64.2 cj hcn4
                      have HY1 : Hid (Lf w wr #[.int .i64 p, .int .i64 wd, .int .i64 ht, .int .i64 rs, .slice fo n fc] (.slice uo n uc) (Y.set cj (Y.getD cj [])) F) := by
                        have e9 : Y.set cj (Y.getD cj []) = Y := by
                          have hl : cj < Y.length := by rw [hY64.1]; exact hcn4
                          have e8 : Y.getD cj [] = Y[cj] := by simp [hl]
                          rw [e8, List.set_getElem_self]
                        unfold Hid
                        rw [e9]
                        exact unhide hf
                      have HR0 : Hid (leftRow wt lo fz 0 (Y.getD cj []) = some (Y.getD cj [])) := rfl
                      clear hcc c0 c1 hcj hY64 hf hjc
                      go_wp2
                      clear s0 s1 s2 s3 s4
                      go_loopw [14] (fun kv wr => ∃ (m : Nat) (row : List Int), m ≤ tz + 1 - fz ∧ kv = .int .i64 ((fz + m : Nat) : Int) ∧ Hid (Lf w wr #[.int .i64 p, .int .i64 wd, .int .i64 ht, .int .i64 rs, .slice fo n fc] (.slice uo n uc) (Y.set cj row) F) ∧ Hid (wr.heap[bs]? = some (.cells #[.slice (some ⟨cb, coff, none⟩) cn cc, .int .i64 (fz : Int), .int .i64 (tz : Int), .int .i64 hi', .int .i64 lo] 38 (0, 0))) ∧ Hid (leftRow wt lo fz m (Y.getD cj []) = some row)) (fun kv _ => tz + 1 - (intOf kv).toNat)
                      case atStart => exact ⟨0, _, Nat.zero_le _, rfl, HY1, hs, HR0⟩
                      case round =>
                        clear HY1 hs HR0
                        obtain ⟨m, row, hm, rfl, hf, hs, hR⟩ := hrel
                        obtain ⟨s0, s1, s2, s3, s4⟩ := scanCells (unhide hs)
                        by_cases hml : m < tz + 1 - fz
                        · have hd3 : decide (((fz + m : Nat) : Int) ≤ (tz : Int)) = true := decide_eq_true (by omega)
                          have hk64 : fz + m < 64 := by omega
                          have hrl : row.length = 64 := by rw [leftRow_len _ _ _ row (unhide hR)]; exact unhide HYR
                          have hcl2 : cj < (Y.set cj row).length := by rw [List.length_set, unhide HYL]; exact hcn4
                          have eg : (Y.set cj row).getD cj [] = row := getD_set_same _ _ _ _ (by rw [unhide HYL]; exact hcn4)
                          obtain ⟨g, gcap, gi, ci, e1, q0, q1, qf, hgF, hset⟩ := leftL_row2 (unhide hf).own (unhide hf).nd cj hcl2 (fz + m) (by rw [eg, hrl]; exact hk64)
                          rw [eg] at q0 q1 hset
                          rw [hrl] at q0
                          rw [List.length_set, unhide HYL] at e1
                          obtain ⟨rfl, rfl⟩ : uo = some ⟨g, 0, none⟩ ∧ uc = gcap := by simpa using e1
                          have hset' : ∀ z, (Y.set cj row).set cj (row.set (fz + m) z) = Y.set cj (row.set (fz + m) z) := fun z => by rw [List.set_set]
                          have hcc' := (unhide hf).grown.cell (unhide HCC) (by simp)
                          obtain ⟨z, HZ⟩ : ∃ z, Hid (row.getD (fz + m) 0 = z) := ⟨_, rfl⟩
                          rw [unhide HZ] at q1
                          obtain ⟨kk, HKK⟩ : ∃ kk, Hid (fz + m = kk) := ⟨_, rfl⟩
                          rw [unhide HKK] at q1 qf hset hset' hd3 hk64 HZ ⊢
                          have b1 : (0 : Int) ≤ (cj : Int) := by omega
                          have b2 : (cj : Int) < (n : Int) := by omega
                          have b3 : (0 : Int) ≤ (kk : Int) := by omega
                          have b4 : (kk : Int) < 64 := by omega
                          have b5 : (0 : Int) ≤ (j : Int) := by omega
                          have b6 : (kk : Int) ≤ (tz : Int) := by have := unhide HKK; omega
                          have b7 : kk ≤ tz := by omega
                          clear e1 eg hcl2
                          by_cases hzw : z = wt
                          · have hne : (z != wt) = false := by simp [hzw]
                            have hgl : g ∈ F := (unhide hf).own.headL
                            have HF9 : Hid (Lf w (wr.drew.setCell ⟨gi, kk, none⟩ (.int .i64 lo)) #[.int .i64 p, .int .i64 wd, .int .i64 ht, .int .i64 rs, .slice fo n fc] (.slice (some ⟨g, 0, none⟩) n uc) (Y.set cj (row.set kk lo)) F) := by
                              have E := unhide hf
                              have hlo := E.lo gi hgF
                              have gs := grown_set wr.drew gi kk (.int .i64 lo)
                              refine ⟨at_rowS gs E.fr (by simp; omega), ?_, E.nd, E.lo, grown_new (grown_drew E.grown) gs (fun q e => by simp at e; omega)⟩
                              have h9 := hset lo
                              rw [hset'] at h9
                              exact ok2.same _ _ _ _ _ h9 (fun x _ => rfl)
                            have HS9 : Hid ((wr.drew.setCell ⟨gi, kk, none⟩ (.int .i64 lo)).heap[bs]? = some (.cells #[.slice (some ⟨cb, coff, none⟩) cn cc, .int .i64 (fz : Int), .int .i64 (tz : Int), .int .i64 hi', .int .i64 lo] 38 (0, 0))) := at_rowS (grown_set wr.drew gi kk (.int .i64 lo)) (unhide hs) (by have := unhide HDJ gi hgF; simp; omega)
                            have HR9 : Hid (leftRow wt lo fz (m + 1) (Y.getD cj []) = some (row.set kk lo)) := by
                              have := leftRow_next (unhide hR) (by rw [unhide HKK, unhide HZ]; exact hzw)
                              rw [unhide HKK] at this
                              exact this
                            subst hzw
                            clear hset hset' hf hs hR HZ
                            go_wp2
                            refine wp_region_noPanic ?_
                            have d0 : wr.drew.cell? ⟨bs, 0, none⟩ = _ := s0
                            have d4 : wr.drew.cell? ⟨bs, 4, none⟩ = _ := s4
                            have dc : wr.drew.cell? ⟨cb, coff + j, none⟩ = _ := hcc'
                            have dq0 : wr.drew.cell? ⟨g, cj, none⟩ = _ := q0
                            have dq1 : wr.drew.cell? ⟨gi, kk, none⟩ = _ := q1
                            have dqf : wr.drew.frozen? ⟨gi, kk, none⟩ = false := qf
                            clear s0 s1 s2 s3 s4 hcc' q0 q1 qf
                            refine wp_region_tailL 20 (fun W => W = wr.drew) [true, true, true, true, true, true, true, true, true, true, true, false, false] (by kernel_rfl) (fun _ _ _ _ _ h => h) rfl (by decide) (by kernel_rfl) rfl ?_
                            generalize wr.drew = wd' at *
                            iterate 11
                              refine heldF_take (v := ?_) (Or.inl ⟨by rfl, ?_⟩) ?_
                              rotate_left 1
                              · intro w' hSw
                                subst hSw
                                go_simp
                                try with_reducible rfl
                              simp only [Act.put, List.setIfInBounds_toArray, List.set_cons_zero, List.set_cons_succ]
                            refine heldF_skip (heldF_skip (heldF_nil ?_))
                            refine tailL_skip (tailL_skip (tailL_skip (tailL_skip (tailL_skip (tailL_skip (tailL_skip (tailL_skip (tailL_skip (tailL_skip (tailL_skip ?_))))))))))
                            refine tailL_step (fun K hK => ?_)
                            go_simp
                            refine hK.out _ _ (.inr rfl) ?_
                            clear hK K
                            try simp only [Act.put, List.setIfInBounds_toArray, List.set_cons_zero, List.set_cons_succ]
                            refine tailL_step (fun K hK => ?_)
                            go_simp
                            refine hK.out _ _ (.inl rfl) (tailL_nil (NoPanic.normal ?_))
                            clear hK K d0 d4 dc dq0 dq1 dqf
                            generalize wd'.setCell ⟨gi, kk, none⟩ (.int .i64 lo) = w9 at *
                            go_wp2
                            go_roundw
                            case rel => exact ⟨m + 1, row.set kk lo, by omega, by have := unhide HKK; go_num, HF9, HS9, HR9⟩
                            case measure => have := unhide HKK; simp [intOf]; omega
                          · have hne : (z != wt) = true := by simp [hzw]
                            have e := unhide FL4 (leftRow_fails (unhide hR) (by rw [unhide HKK, unhide HZ]; exact hzw) hml)
                            have HEM := hide (unhide EMP wr (unhide hf).grown e)
                            clear hzw hset hset'
                            go_wp2
                            refine bodyPost_ret (v := .tuple #[.slice (some ⟨wr.heap.size, 0, none⟩) 0 0, .bool false]) (by simp [results, Try.results51, go_sem]) rfl ?_
                            exact unhide HEM
                        · obtain rfl : m = tz + 1 - fz := by omega
                          have e9 : fz + (tz + 1 - fz) = tz + 1 := by omega
                          rw [e9]
                          have hd3 : decide (((tz + 1 : Nat) : Int) ≤ (tz : Int)) = false := decide_eq_false (by omega)
                          have HC9 := hide (unhide NX4 row (unhide hR))
                          clear e9
                          go_wp2
                          go_roundw
                          case rel => exact ⟨j + 1, Y.set cj row, by omega, by go_num, hf, hs, HC9⟩
                          case measure => simp [intOf]; omega
                    · obtain rfl : j = cn := by omega
                      have hd2 : decide ((j : Int) < (j : Int)) = false := decide_eq_false (by omega)
                      have HA9 : Hid (leftAll true n (S.take (i + 1)) (nothing n) = some Y) := unhide NXT Y (by have h9 := unhide hY; rw [← unhide HCN, List.take_length] at h9; exact h9)
                      go_wp2
                      go_roundw
                      case rel => exact ⟨i + 1, Y, by omega, by go_num, hf, HA9⟩
                      case measure => simp [intOf]; omega
                · have ew : hi' = wt := by rw [← unhide HWT]; unfold wantOf; rw [if_neg h0]
                  have hz : (hi' == 0) = false := by simp [h0]
                  clear h0 HWT
                  subst ew
                  go_wp2
                  clear hz s0 s1 s2 s3 s4
                  go_loopw [13] (fun jv wr => ∃ (j : Nat) (Y : List (List Int)), j ≤ cn ∧ jv = .int .i64 j ∧ Hid (Lf w wr #[.int .i64 p, .int .i64 wd, .int .i64 ht, .int .i64 rs, .slice fo n fc] (.slice uo n uc) Y F) ∧ Hid (wr.heap[bs]? = some (.cells #[.slice (some ⟨cb, coff, none⟩) cn cc, .int .i64 (fz : Int), .int .i64 (tz : Int), .int .i64 hi', .int .i64 lo] 38 (0, 0))) ∧ Hid (leftComps hi' lo fz (tz + 1 - fz) (cs.take j) X = some Y)) (fun jv _ => cn - (intOf jv).toNat)
                  case atStart => exact ⟨0, X, Nat.zero_le _, rfl, HF6, HS6, HY0⟩
                  case round =>
                    clear HF6 HS6 HY0
                    obtain ⟨j, Y, hj, rfl, hf, hs, hY⟩ := hrel
                    obtain ⟨s0, s1, s2, s3, s4⟩ := scanCells (unhide hs)
                    by_cases hjl : j < cn
                    · have hd2 : decide ((j : Int) < (cn : Int)) = true := decide_eq_true (by omega)
                      have hjI : (j : Int) < (cn : Int) := by omega
                      have hjc : j < cs.length := by rw [unhide HCN]; exact hjl
                      have hY64 := (leftComps_step (n := n) (by omega) (unhide HHI) (unhide HLO) (cs.take j) X Y (unhide HR64) (fun c hc => unhide HCIN c (List.mem_of_mem_take hc)) (unhide hY)).1
                      obtain ⟨cb', coff', ecb, hcc⟩ := (unhide HRC').2 j hjl
                      obtain ⟨rfl, rfl⟩ : cb = cb' ∧ coff = coff' := by simpa using ecb
                      obtain ⟨c0, c1⟩ := unhide HCIN (cs.getD j 0) (by rw [List.getD_eq_getElem?_getD, List.getElem?_eq_getElem hjc]; exact List.getElem_mem hjc)
                      obtain ⟨cj, hcj⟩ := Int.eq_ofNat_of_zero_le c0
                      have hcn4 : cj < n := by omega
                      have NX4 : Hid (∀ row, leftRow hi' lo fz (tz + 1 - fz) (Y.getD cj []) = some row → leftComps hi' lo fz (tz + 1 - fz) (cs.take (j + 1)) X = some (Y.set cj row)) := fun row h => by
                        have := leftComps_next (row := row) j hjc (unhide hY) (by rw [hcj, Int.toNat_natCast]; exact h)
                        rw [hcj, Int.toNat_natCast] at this
                        exact this
                      have FL4 : Hid (leftRow hi' lo fz (tz + 1 - fz) (Y.getD cj []) = none → b = false ∧ L = []) := fun h => unhide FLS (leftComps_fails j hjc (unhide hY) (by rw [hcj, Int.toNat_natCast]; exact h))
                      rw [hcj] at hcc
                      have HCC := hide hcc
                      have HYL : Hid (Y.length = n) := hY64.1
                      have HYR : Hid ((Y.getD cj []).length = 64) := hY64.2 cj hcn4
                      have HY1 : Hid (Lf w wr #[.int .i64 p, .int .i64 wd, .int .i64 ht, .int .i64 rs, .slice fo n fc] (.slice uo n uc) (Y.set cj (Y.getD cj [])) F) := by
                        have e9 : Y.set cj (Y.getD cj []) = Y := by
                          have hl : cj < Y.length := by rw [hY64.1]; exact hcn4
                          have e8 : Y.getD cj [] = Y[cj] := by simp [hl]
                          rw [e8, List.set_getElem_self]
                        unfold Hid
                        rw [e9]
                        exact unhide hf
                      have HR0 : Hid (leftRow hi' lo fz 0 (Y.getD cj []) = some (Y.getD cj [])) := rfl
                      clear hcc c0 c1 hcj hY64 hf hjc
                      go_wp2
                      clear s0 s1 s2 s3 s4
                      go_loopw [14] (fun kv wr => ∃ (m : Nat) (row : List Int), m ≤ tz + 1 - fz ∧ kv = .int .i64 ((fz + m : Nat) : Int) ∧ Hid (Lf w wr #[.int .i64 p, .int .i64 wd, .int .i64 ht, .int .i64 rs, .slice fo n fc] (.slice uo n uc) (Y.set cj row) F) ∧ Hid (wr.heap[bs]? = some (.cells #[.slice (some ⟨cb, coff, none⟩) cn cc, .int .i64 (fz : Int), .int .i64 (tz : Int), .int .i64 hi', .int .i64 lo] 38 (0, 0))) ∧ Hid (leftRow hi' lo fz m (Y.getD cj []) = some row)) (fun kv _ => tz + 1 - (intOf kv).toNat)
                      case atStart => exact ⟨0, _, Nat.zero_le _, rfl, HY1, hs, HR0⟩
                      case round =>
                        clear HY1 hs HR0
                        obtain ⟨m, row, hm, rfl, hf, hs, hR⟩ := hrel
                        obtain ⟨s0, s1, s2, s3, s4⟩ := scanCells (unhide hs)
                        by_cases hml : m < tz + 1 - fz
                        · have hd3 : decide (((fz + m : Nat) : Int) ≤ (tz : Int)) = true := decide_eq_true (by omega)
                          have hk64 : fz + m < 64 := by omega
                          have hrl : row.length = 64 := by rw [leftRow_len _ _ _ row (unhide hR)]; exact unhide HYR
                          have hcl2 : cj < (Y.set cj row).length := by rw [List.length_set, unhide HYL]; exact hcn4
                          have eg : (Y.set cj row).getD cj [] = row := getD_set_same _ _ _ _ (by rw [unhide HYL]; exact hcn4)
                          obtain ⟨g, gcap, gi, ci, e1, q0, q1, qf, hgF, hset⟩ := leftL_row2 (unhide hf).own (unhide hf).nd cj hcl2 (fz + m) (by rw [eg, hrl]; exact hk64)
                          rw [eg] at q0 q1 hset
                          rw [hrl] at q0
                          rw [List.length_set, unhide HYL] at e1
                          obtain ⟨rfl, rfl⟩ : uo = some ⟨g, 0, none⟩ ∧ uc = gcap := by simpa using e1
                          have hset' : ∀ z, (Y.set cj row).set cj (row.set (fz + m) z) = Y.set cj (row.set (fz + m) z) := fun z => by rw [List.set_set]
                          have hcc' := (unhide hf).grown.cell (unhide HCC) (by simp)
                          obtain ⟨z, HZ⟩ : ∃ z, Hid (row.getD (fz + m) 0 = z) := ⟨_, rfl⟩
                          rw [unhide HZ] at q1
                          obtain ⟨kk, HKK⟩ : ∃ kk, Hid (fz + m = kk) := ⟨_, rfl⟩
                          rw [unhide HKK] at q1 qf hset hset' hd3 hk64 HZ ⊢
                          have b1 : (0 : Int) ≤ (cj : Int) := by omega
                          have b2 : (cj : Int) < (n : Int) := by omega
                          have b3 : (0 : Int) ≤ (kk : Int) := by omega
                          have b4 : (kk : Int) < 64 := by omega
                          have b5 : (0 : Int) ≤ (j : Int) := by omega
                          have b6 : (kk : Int) ≤ (tz : Int) := by have := unhide HKK; omega
                          have b7 : kk ≤ tz := by omega
                          clear e1 eg hcl2
                          by_cases hzw : z = hi'
                          · have hne : (z != hi') = false := by simp [hzw]
                            have hgl : g ∈ F := (unhide hf).own.headL
                            have HF9 : Hid (Lf w (wr.drew.setCell ⟨gi, kk, none⟩ (.int .i64 lo)) #[.int .i64 p, .int .i64 wd, .int .i64 ht, .int .i64 rs, .slice fo n fc] (.slice (some ⟨g, 0, none⟩) n uc) (Y.set cj (row.set kk lo)) F) := by
                              have E := unhide hf
                              have hlo := E.lo gi hgF
                              have gs := grown_set wr.drew gi kk (.int .i64 lo)
                              refine ⟨at_rowS gs E.fr (by simp; omega), ?_, E.nd, E.lo, grown_new (grown_drew E.grown) gs (fun q e => by simp at e; omega)⟩
                              have h9 := hset lo
                              rw [hset'] at h9
                              exact ok2.same _ _ _ _ _ h9 (fun x _ => rfl)
                            have HS9 : Hid ((wr.drew.setCell ⟨gi, kk, none⟩ (.int .i64 lo)).heap[bs]? = some (.cells #[.slice (some ⟨cb, coff, none⟩) cn cc, .int .i64 (fz : Int), .int .i64 (tz : Int), .int .i64 hi', .int .i64 lo] 38 (0, 0))) := at_rowS (grown_set wr.drew gi kk (.int .i64 lo)) (unhide hs) (by have := unhide HDJ gi hgF; simp; omega)
                            have HR9 : Hid (leftRow hi' lo fz (m + 1) (Y.getD cj []) = some (row.set kk lo)) := by
                              have := leftRow_next (unhide hR) (by rw [unhide HKK, unhide HZ]; exact hzw)
                              rw [unhide HKK] at this
                              exact this
                            subst hzw
                            clear hset hset' hf hs hR HZ
                            go_wp2
                            refine wp_region_noPanic ?_
                            have d0 : wr.drew.cell? ⟨bs, 0, none⟩ = _ := s0
                            have d4 : wr.drew.cell? ⟨bs, 4, none⟩ = _ := s4
                            have dc : wr.drew.cell? ⟨cb, coff + j, none⟩ = _ := hcc'
                            have dq0 : wr.drew.cell? ⟨g, cj, none⟩ = _ := q0
                            have dq1 : wr.drew.cell? ⟨gi, kk, none⟩ = _ := q1
                            have dqf : wr.drew.frozen? ⟨gi, kk, none⟩ = false := qf
                            clear s0 s1 s2 s3 s4 hcc' q0 q1 qf
                            refine wp_region_tailL 20 (fun W => W = wr.drew) [true, true, true, true, true, true, true, true, true, true, true, false, false] (by kernel_rfl) (fun _ _ _ _ _ h => h) rfl (by decide) (by kernel_rfl) rfl ?_
                            generalize wr.drew = wd' at *
                            iterate 11
                              refine heldF_take (v := ?_) (Or.inl ⟨by rfl, ?_⟩) ?_
                              rotate_left 1
                              · intro w' hSw
                                subst hSw
                                go_simp
                                try with_reducible rfl
                              simp only [Act.put, List.setIfInBounds_toArray, List.set_cons_zero, List.set_cons_succ]
                            refine heldF_skip (heldF_skip (heldF_nil ?_))
                            refine tailL_skip (tailL_skip (tailL_skip (tailL_skip (tailL_skip (tailL_skip (tailL_skip (tailL_skip (tailL_skip (tailL_skip (tailL_skip ?_))))))))))
                            refine tailL_step (fun K hK => ?_)
                            go_simp
                            refine hK.out _ _ (.inr rfl) ?_
                            clear hK K
                            try simp only [Act.put, List.setIfInBounds_toArray, List.set_cons_zero, List.set_cons_succ]
                            refine tailL_step (fun K hK => ?_)
                            go_simp
                            refine hK.out _ _ (.inl rfl) (tailL_nil (NoPanic.normal ?_))
                            clear hK K d0 d4 dc dq0 dq1 dqf
                            generalize wd'.setCell ⟨gi, kk, none⟩ (.int .i64 lo) = w9 at *
                            go_wp2
                            go_roundw
                            case rel => exact ⟨m + 1, row.set kk lo, by omega, by have := unhide HKK; go_num, HF9, HS9, HR9⟩
                            case measure => have := unhide HKK; simp [intOf]; omega
                          · have hne : (z != hi') = true := by simp [hzw]
                            have e := unhide FL4 (leftRow_fails (unhide hR) (by rw [unhide HKK, unhide HZ]; exact hzw) hml)
                            have HEM := hide (unhide EMP wr (unhide hf).grown e)
                            clear hzw hset hset'
                            go_wp2
                            refine bodyPost_ret (v := .tuple #[.slice (some ⟨wr.heap.size, 0, none⟩) 0 0, .bool false]) (by simp [results, Try.results51, go_sem]) rfl ?_
                            exact unhide HEM
                        · obtain rfl : m = tz + 1 - fz := by omega
                          have e9 : fz + (tz + 1 - fz) = tz + 1 := by omega
                          rw [e9]
                          have hd3 : decide (((tz + 1 : Nat) : Int) ≤ (tz : Int)) = false := decide_eq_false (by omega)
                          have HC9 := hide (unhide NX4 row (unhide hR))
                          clear e9
                          go_wp2
                          go_roundw
                          case rel => exact ⟨j + 1, Y.set cj row, by omega, by go_num, hf, hs, HC9⟩
                          case measure => simp [intOf]; omega
                    · obtain rfl : j = cn := by omega
                      have hd2 : decide ((j : Int) < (j : Int)) = false := decide_eq_false (by omega)
                      have HA9 : Hid (leftAll true n (S.take (i + 1)) (nothing n) = some Y) := unhide NXT Y (by have h9 := unhide hY; rw [← unhide HCN, List.take_length] at h9; exact h9)
                      go_wp2
                      go_roundw
                      case rel => exact ⟨i + 1, Y, by omega, by go_num, hf, HA9⟩
                      case measure => simp [intOf]; omega
            · obtain rfl : i = S.length := by omega
              have hd2 : decide ((S.length : Int) < (S.length : Int)) = false := decide_eq_false (by omega)
              rw [List.take_length] at hX
              have eX : leftO true n S = some X := by rw [unhide LE]; exact unhide hX
              have ebt : b = true ∧ L = X := ⟨by rw [← unhide HB, eX]; rfl, by rw [← unhide HL, leftG, eX]; rfl⟩
              obtain ⟨rfl, rfl⟩ := ebt
              go_wp2
              refine bodyPost_ret (v := .tuple #[.slice uo n uc, .bool true]) (by simp [results, Try.results51, go_sem]) rfl ?_
              exact ⟨_, F, rfl, (unhide hf).own, (unhide hf).nd, fun g hg => by have := (unhide hf).lo g hg; omega, (unhide hf).grown⟩
    · have hgt : decide ((S.length : Int) > 40) = true := decide_eq_true (by omega)
      have hlt : (40 : Int) < (S.length : Int) := by omega
      obtain ⟨rfl, rfl⟩ := unhide NIL (by unfold leftO; rw [decide_eq_false h40]; rfl)
      clear h40
      go_wp2
      refine bodyPost_ret (v := .tuple #[.slice (some ⟨w.heap.size + 1, 0, none⟩) 0 0, .bool false]) (by simp [results, Try.results51, go_sem]) rfl ?_
      exact ⟨_, _, rfl, (unhide HL3).own, (unhide HL3).nd, fun g hg => by have := (unhide HL3).lo g hg; omega, (unhide HL3).grown⟩

end Go.Proofs.Ytnjcmlmgjoaeeaa

namespace Go.Proofs.Ytnjcmlmgjoaeeaa
open Go.RowKit

theorem zero_row {c : List Int} (hc : c.length = 64) : (c == zs64) = c.all (fun x => x == 0) := by
  rw [Bool.eq_iff_iff, beq_iff_eq, List.all_eq_true]
  constructor
  · intro e x hx
    rw [e] at hx
    unfold zs64 at hx
    rw [(List.mem_replicate.1 hx).2]
    rfl
  · intro h
    unfold zs64
    exact List.eq_replicate_iff.2 ⟨hc, fun x hx => by simpa using h x hx⟩

set_option maxRecDepth 20000 in
set_option maxHeartbeats 6400000 in
theorem allTold (Y : List (List Int)) (h64 : ∀ c, c < Y.length → (Y.getD c []).length = 64) (b : Nat) (w : World) (hM : OwM w b Y) (t : Bool) (HT : Hid (Y.all (fun row => row.all (fun x => x == 0)) = t)) :
    Calls Try.prog 48 #[.map (some b)] w fun e w' => e = .returned (.bool t) ∧ w.grownBy w' none := by
  obtain ⟨D, nn, hown, hs, hat, hhas⟩ := hM
  have HOWN := hide hown
  have HAT := hide hat
  have HHAS := hide hhas
  have hbw := hown.lt
  have H64 := hide h64
  clear hown hat hhas hs h64
  go_enter Try.func48, Try.ntmps48
  go_wp2_with (at_range; refine wpList_range_own _ rfl _ 77 rfl 3 104 keyedN Try.underlying77 sqR b nn D rfl (unhide HOWN) ?_; intro w0 hrg0 hg0 hs0; replace hrg0 := hide hrg0; replace hg0 := hide hg0)
  go_frame
  go_loopw [7] (fun _ wr => ∃ left cnt, Hid (wr.ranges Try.prog 3 sqR b w.heap.size nn D left cnt) ∧ Hid (∀ kl, left kl = true → ∃ i, i < Y.length ∧ kl = keyN i) ∧ Hid (∀ i, i < Y.length → left (keyN i) = false → (Y.getD i []).all (fun x => x == 0) = true) ∧ Hid (w.grownBy wr none)) (fun _ wr => wr.rangeLeft b w.heap.size)
  case atStart =>
    refine ⟨_, _, hrg0, HHAS, fun i hi h => ?_, hg0⟩
    rw [Maps.has_true_of_atKey (unhide HAT i hi)] at h
    cases h
  case round =>
    clear hrg0 hg0
    obtain ⟨left, cnt, hrg, hin, hdn, hG⟩ := hrel
    go_wp2_with (at_next; refine wpList_next_ranges _ rfl _ rfl 3 keyedN sqR (Value.int .i64) (fun c => .agg (sq c)) (fun key kl hkey => by obtain ⟨x, rfl, _⟩ := Maps.keyOf_int_inv Try.underlying3 hkey; exact ⟨x, rfl⟩) (fun v y hv => by obtain ⟨c, rfl, _⟩ := sqR_inv hv; exact ⟨c, rfl⟩) b w.heap.size nn D left cnt rfl (unhide hrg) ?_ ?_)
    · intro _ hl0
      have et : t = true := by
        rw [← unhide HT, List.all_eq_true]
        intro row hr
        obtain ⟨i, hi, rfl⟩ := List.getElem_of_mem hr
        have := unhide hdn i hi (hl0 _)
        rw [show Y.getD i [] = Y[i] by simp [hi]] at this
        exact this
      subst et
      clear hl0
      go_wp2
      go_ret
      exact ⟨rfl, unhide hG⟩
    · intro x c kl y ps w1 cnt1 hkey hlk hv hat1 hrg1 hlt hg1 hs1 hen
      obtain ⟨i, hi, rfl⟩ := unhide hin kl hlk
      have hc : c = Y.getD i [] := by
        have h1 := unhide HAT i hi (.map [])
        rw [hat1] at h1
        rw [sqR_mk] at hv
        have h2 := congrArg Prod.fst (Option.some.inj hv)
        exact datRow_inj (h2.trans h1)
      have hcl : c.length = 64 := by rw [hc]; exact unhide H64 i hi
      obtain ⟨z, HZ⟩ : ∃ z, Hid ((c == zs64) = z) := ⟨_, rfl⟩
      have hsq : ∀ w, (Op.equalIn 10000 104 (.agg (sq c)) (.agg #[.int .i64 0, .int .i64 0, .int .i64 0, .int .i64 0, .int .i64 0, .int .i64 0, .int .i64 0, .int .i64 0, .int .i64 0, .int .i64 0, .int .i64 0, .int .i64 0, .int .i64 0, .int .i64 0, .int .i64 0, .int .i64 0, .int .i64 0, .int .i64 0, .int .i64 0, .int .i64 0, .int .i64 0, .int .i64 0, .int .i64 0, .int .i64 0, .int .i64 0, .int .i64 0, .int .i64 0, .int .i64 0, .int .i64 0, .int .i64 0, .int .i64 0, .int .i64 0, .int .i64 0, .int .i64 0, .int .i64 0, .int .i64 0, .int .i64 0, .int .i64 0, .int .i64 0, .int .i64 0, .int .i64 0, .int .i64 0, .int .i64 0, .int .i64 0, .int .i64 0, .int .i64 0, .int .i64 0, .int .i64 0, .int .i64 0, .int .i64 0, .int .i64 0, .int .i64 0, .int .i64 0, .int .i64 0, .int .i64 0, .int .i64 0, .int .i64 0, .int .i64 0, .int .i64 0, .int .i64 0, .int .i64 0, .int .i64 0, .int .i64 0, .int .i64 0])).run Try.prog w = .ok z w := fun w => by rw [← sq_z64, eqSq hcl zs64_len w, unhide HZ]
      have HRG := hide hrg1
      have HG1 := hide (grown_new (unhide hG) hg1 (fun x e => by injection e with e; omega))
      have HCL := hide hcl
      have HC := hide hc
      have HZ0 := hide (heap_alloc_new w1 (.cells #[.int .i64 0, .int .i64 0, .int .i64 0, .int .i64 0, .int .i64 0, .int .i64 0, .int .i64 0, .int .i64 0, .int .i64 0, .int .i64 0, .int .i64 0, .int .i64 0, .int .i64 0, .int .i64 0, .int .i64 0, .int .i64 0, .int .i64 0, .int .i64 0, .int .i64 0, .int .i64 0, .int .i64 0, .int .i64 0, .int .i64 0, .int .i64 0, .int .i64 0, .int .i64 0, .int .i64 0, .int .i64 0, .int .i64 0, .int .i64 0, .int .i64 0, .int .i64 0, .int .i64 0, .int .i64 0, .int .i64 0, .int .i64 0, .int .i64 0, .int .i64 0, .int .i64 0, .int .i64 0, .int .i64 0, .int .i64 0, .int .i64 0, .int .i64 0, .int .i64 0, .int .i64 0, .int .i64 0, .int .i64 0, .int .i64 0, .int .i64 0, .int .i64 0, .int .i64 0, .int .i64 0, .int .i64 0, .int .i64 0, .int .i64 0, .int .i64 0, .int .i64 0, .int .i64 0, .int .i64 0, .int .i64 0, .int .i64 0, .int .i64 0, .int .i64 0] 104))
      have HLT := hide hlt
      clear hkey hlk hv hat1 hrg1 hg1 hcl hc hlt
      have hws : w.heap.size < w1.heap.size := (unhide HRG).lt
      have HGA := hide (grown_alloc (unhide HG1) (.cells #[.int .i64 0, .int .i64 0, .int .i64 0, .int .i64 0, .int .i64 0, .int .i64 0, .int .i64 0, .int .i64 0, .int .i64 0, .int .i64 0, .int .i64 0, .int .i64 0, .int .i64 0, .int .i64 0, .int .i64 0, .int .i64 0, .int .i64 0, .int .i64 0, .int .i64 0, .int .i64 0, .int .i64 0, .int .i64 0, .int .i64 0, .int .i64 0, .int .i64 0, .int .i64 0, .int .i64 0, .int .i64 0, .int .i64 0, .int .i64 0, .int .i64 0, .int .i64 0, .int .i64 0, .int .i64 0, .int .i64 0, .int .i64 0, .int .i64 0, .int .i64 0, .int .i64 0, .int .i64 0, .int .i64 0, .int .i64 0, .int .i64 0, .int .i64 0, .int .i64 0, .int .i64 0, .int .i64 0, .int .i64 0, .int .i64 0, .int .i64 0, .int .i64 0, .int .i64 0, .int .i64 0, .int .i64 0, .int .i64 0, .int .i64 0, .int .i64 0, .int .i64 0, .int .i64 0, .int .i64 0, .int .i64 0, .int .i64 0, .int .i64 0, .int .i64 0] 104))
      have HRA := hide ((unhide HRG).alloc (.cells #[.int .i64 0, .int .i64 0, .int .i64 0, .int .i64 0, .int .i64 0, .int .i64 0, .int .i64 0, .int .i64 0, .int .i64 0, .int .i64 0, .int .i64 0, .int .i64 0, .int .i64 0, .int .i64 0, .int .i64 0, .int .i64 0, .int .i64 0, .int .i64 0, .int .i64 0, .int .i64 0, .int .i64 0, .int .i64 0, .int .i64 0, .int .i64 0, .int .i64 0, .int .i64 0, .int .i64 0, .int .i64 0, .int .i64 0, .int .i64 0, .int .i64 0, .int .i64 0, .int .i64 0, .int .i64 0, .int .i64 0, .int .i64 0, .int .i64 0, .int .i64 0, .int .i64 0, .int .i64 0, .int .i64 0, .int .i64 0, .int .i64 0, .int .i64 0, .int .i64 0, .int .i64 0, .int .i64 0, .int .i64 0, .int .i64 0, .int .i64 0, .int .i64 0, .int .i64 0, .int .i64 0, .int .i64 0, .int .i64 0, .int .i64 0, .int .i64 0, .int .i64 0, .int .i64 0, .int .i64 0, .int .i64 0, .int .i64 0, .int .i64 0, .int .i64 0] 104))
      have hbr := (unhide HRG).owns.lt
      clear hs1
      cases z with
      | false =>
        have et : t = false := by
          have h1 := unhide HZ
          rw [zero_row (unhide HCL), unhide HC] at h1
          rw [← unhide HT]
          cases h2 : Y.all (fun row => row.all (fun x => x == 0)) with
          | false => rfl
          | true =>
            have h3 := List.all_eq_true.1 h2 (Y.getD i []) (by rw [show Y.getD i [] = Y[i] by simp [hi]]; exact List.getElem_mem hi)
            rw [h3] at h1
            cases h1
        subst et
        go_wp2_with (first | (refine store_row rfl 104 _ _ rfl w1.heap.size rfl (sq c) rfl #[.int .i64 0, .int .i64 0, .int .i64 0, .int .i64 0, .int .i64 0, .int .i64 0, .int .i64 0, .int .i64 0, .int .i64 0, .int .i64 0, .int .i64 0, .int .i64 0, .int .i64 0, .int .i64 0, .int .i64 0, .int .i64 0, .int .i64 0, .int .i64 0, .int .i64 0, .int .i64 0, .int .i64 0, .int .i64 0, .int .i64 0, .int .i64 0, .int .i64 0, .int .i64 0, .int .i64 0, .int .i64 0, .int .i64 0, .int .i64 0, .int .i64 0, .int .i64 0, .int .i64 0, .int .i64 0, .int .i64 0, .int .i64 0, .int .i64 0, .int .i64 0, .int .i64 0, .int .i64 0, .int .i64 0, .int .i64 0, .int .i64 0, .int .i64 0, .int .i64 0, .int .i64 0, .int .i64 0, .int .i64 0, .int .i64 0, .int .i64 0, .int .i64 0, .int .i64 0, .int .i64 0, .int .i64 0, .int .i64 0, .int .i64 0, .int .i64 0, .int .i64 0, .int .i64 0, .int .i64 0, .int .i64 0, .int .i64 0, .int .i64 0, .int .i64 0] 104 (unhide HZ0) (by rw [sq_size, unhide HCL]; rfl) (by rw [sq_size, unhide HCL]; kernel_rfl) (sq_one _) ?_; intro w3 hB3 g3; replace hB3 := hide hB3; replace g3 := hide g3; have HG3 := hide (grown_new (unhide HGA) (unhide g3) (fun x e => by injection e with e; omega)); have HR3 := hide ((unhide HRA).kept (unhide g3) (fun e => by injection e with e; omega) (fun e => by injection e with e; omega))) | (refine load_row rfl 104 _ rfl w1.heap.size rfl (sq c) 104 (unhide hB3) _ Try.underlying104 rfl (by rw [sq_size, unhide HCL]; kernel_rfl) ?_))
        go_ret
        exact ⟨rfl, unhide HG3⟩
      | true =>
        have hzr : c.all (fun x => x == 0) = true := by rw [← zero_row (unhide HCL)]; exact unhide HZ
        have HDN : Hid (∀ j, j < Y.length → (fun x => left x && !x.sameKey (keyN i)) (keyN j) = false → (Y.getD j []).all (fun x => x == 0) = true) := fun j hj h => by
          by_cases e : j = i
          · subst e
            rw [← unhide HC]
            exact hzr
          · refine unhide hdn j hj ?_
            have : (keyN j).sameKey (keyN i) = false := Maps.sameKey_ne (fun h => e (keyN_inj h))
            simp only [this, Bool.not_false, Bool.and_true] at h
            exact h
        have HIN : Hid (∀ kl, (fun x => left x && !x.sameKey (keyN i)) kl = true → ∃ i, i < Y.length ∧ kl = keyN i) := fun kl h => unhide hin kl (by simp only [Bool.and_eq_true] at h; exact h.1)
        clear hzr
        go_wp2_with (first | (refine store_row rfl 104 _ _ rfl w1.heap.size rfl (sq c) rfl #[.int .i64 0, .int .i64 0, .int .i64 0, .int .i64 0, .int .i64 0, .int .i64 0, .int .i64 0, .int .i64 0, .int .i64 0, .int .i64 0, .int .i64 0, .int .i64 0, .int .i64 0, .int .i64 0, .int .i64 0, .int .i64 0, .int .i64 0, .int .i64 0, .int .i64 0, .int .i64 0, .int .i64 0, .int .i64 0, .int .i64 0, .int .i64 0, .int .i64 0, .int .i64 0, .int .i64 0, .int .i64 0, .int .i64 0, .int .i64 0, .int .i64 0, .int .i64 0, .int .i64 0, .int .i64 0, .int .i64 0, .int .i64 0, .int .i64 0, .int .i64 0, .int .i64 0, .int .i64 0, .int .i64 0, .int .i64 0, .int .i64 0, .int .i64 0, .int .i64 0, .int .i64 0, .int .i64 0, .int .i64 0, .int .i64 0, .int .i64 0, .int .i64 0, .int .i64 0, .int .i64 0, .int .i64 0, .int .i64 0, .int .i64 0, .int .i64 0, .int .i64 0, .int .i64 0, .int .i64 0, .int .i64 0, .int .i64 0, .int .i64 0, .int .i64 0] 104 (unhide HZ0) (by rw [sq_size, unhide HCL]; rfl) (by rw [sq_size, unhide HCL]; kernel_rfl) (sq_one _) ?_; intro w3 hB3 g3; replace hB3 := hide hB3; replace g3 := hide g3; have HG3 := hide (grown_new (unhide HGA) (unhide g3) (fun x e => by injection e with e; omega)); have HR3 := hide ((unhide HRA).kept (unhide g3) (fun e => by injection e with e; omega) (fun e => by injection e with e; omega))) | (refine load_row rfl 104 _ rfl w1.heap.size rfl (sq c) 104 (unhide hB3) _ Try.underlying104 rfl (by rw [sq_size, unhide HCL]; kernel_rfl) ?_))
        go_roundw
        case rel => exact ⟨_, _, HR3, HIN, HDN, HG3⟩
        case measure => rw [(unhide HR3).left_eq, (unhide hrg).left_eq]; exact unhide HLT

end Go.Proofs.Ytnjcmlmgjoaeeaa

namespace Go.Proofs.Ytnjcmlmgjoaeeaa
open Go.RowKit

theorem OwR.headM {α : Type} {e : TypeId} {P : World → Value → α → List Nat → Prop} {w : World} {v : Value} {L : List α} {F : List Nat} (h : OwR e P w v L F) : ∀ x ∈ blk v, x ∈ F := by
  obtain ⟨us, Fs, _, _, _, _, rfl⟩ := h
  intro x hx
  simp [hx]
theorem OwR.noneM {α : Type} {e : TypeId} (P : World → Value → α → List Nat → Prop) {w : World} {v : Value} {base : Nat} (h : w.ownsRow base e 1 v 0 []) : OwR e P w v [] (blk v) :=
  ⟨[], [], rfl, rfl, own_base h (Nat.zero_le _), fun i hi => absurd hi (by simp), by simp⟩
theorem takeM_next {α : Type} (L : List α) (k : Nat) (h : k < L.length) : L.take k ++ [L[k]] = L.take (k + 1) := by rw [List.take_add_one, List.getElem?_eq_getElem h]; rfl

set_option maxRecDepth 20000 in
set_option maxHeartbeats 3200000 in
theorem listsOf (L : List (List Int)) (h64 : ∀ c, c < L.length → (L.getD c []).length = 64) (h4 : L.length ≤ 4) (b : Nat) (w : World) (hM : OwM w b L) :
    Calls Try.prog 49 #[.map (some b)] w fun e w' => ∃ v F, e = .returned v ∧ Ow2 w' v L F ∧ F.Nodup ∧ (∀ x ∈ F, w.heap.size ≤ x) ∧ w.grownBy w' none := by
  have hl0 := fun ty => hM.len ty
  have HM := hide hM
  have H64 := hide h64
  clear hM h64
  obtain ⟨i0, hi, hz0, hz1, hz2⟩ := info_parts infoIntSS
  have HI := hide hi
  have HZ0 := hide hz0
  have HZ1 := hide hz1
  have HZ2 := hide hz2
  clear hi hz0 hz1 hz2
  go_enter Try.func49, Try.ntmps49
  go_wp2_with (at_make; refine wpList_make_own _ rfl _ _ 34 rfl 0 36 i0 (.slice none 0 0) 1 Try.underlying34 (unhide HI) (unhide HZ0) (unhide HZ1) .i64 .i64 _ L.length rfl rfl rfl (by rw [unhide HZ2]; omega) (by unfold maxLen; omega) (Nat.zero_le _) ?_)
  intro w2 hown g2
  have hl2 := fun ty => ((unhide HM).keep g2 (by simp)).len ty
  have HO2 : Hid (Ow2 w2 (.slice (some ⟨w.heap.size, 0, none⟩) 0 L.length) (L.take 0) (blk (.slice (some ⟨w.heap.size, 0, none⟩) 0 L.length))) := OwR.noneM _ hown
  have HG2 := hide g2
  have HL2 : Hid (∀ x ∈ blk (.slice (some ⟨w.heap.size, 0, none⟩) 0 L.length), w.heap.size ≤ x) := fun x hx => by
    have e9 : w.heap.size = x := Option.some.inj (mem_blk.1 hx)
    omega
  clear hown g2 hl0
  go_wp2
  clear hl2
  go_loopw [3, 10] (fun v kv wr => ∃ (k : Nat) (vo : Option Addr) (vn vc : Nat) (F2 : List Nat), k ≤ L.length ∧ v = .slice vo vn vc ∧ kv = .int .i64 k ∧ Hid (Ow2 wr (.slice vo vn vc) (L.take k) F2) ∧ Hid F2.Nodup ∧ Hid (∀ x ∈ F2, w.heap.size ≤ x) ∧ Hid (w.grownBy wr none)) (fun _ kv _ => L.length - (intOf kv).toNat)
  case atStart => exact ⟨0, some ⟨w.heap.size, 0, none⟩, 0, L.length, _, Nat.zero_le _, rfl, rfl, HO2, blk_nodup _, HL2, HG2⟩
  case round =>
    clear HO2 HL2 HG2
    obtain ⟨k, vo, vn, vc, F2, hk, rfl, rfl, ho, hn2, hl2, hg⟩ := hrel
    by_cases hkm : k < L.length
    · have hkI : decide ((k : Int) < (L.length : Int)) = true := decide_eq_true (by omega)
      obtain ⟨B, HBE⟩ : ∃ B, Hid (L.getD k [] = B) := ⟨_, rfl⟩
      have hlen : B.length = 64 := by rw [← unhide HBE]; exact unhide H64 k hkm
      have HLK : Hid (L.take k ++ [B] = L.take (k + 1)) := by
        unfold Hid
        have e9 : L.getD k [] = L[k] := by simp [hkm]
        rw [← unhide HBE, e9]
        exact takeM_next L k hkm
      have HRL : Hid ((L.take k).length ≤ 1000000) := by unfold Hid; rw [List.length_take]; omega
      have HMR := hide ((unhide HM).keep (unhide hg) (by simp))
      have HLI := hide (fun W => list B hlen W)
      have HBL := hide hlen
      clear hlen
      go_wp2_with (at_lookup; refine wp_lookM rfl _ _ rfl b L k rfl rfl (unhide HMR) hkm (by omega) B (unhide HBE) ?_)
      refine (unhide HLI _).mono ?_
      rintro e w4 ⟨v4, rfl, o4, g4⟩
      obtain ⟨uo, uc, rfl⟩ := own_form o4
      have hgs := (unhide hg).size
      have HU : Hid (OwI .i64 3 w4 (.slice uo 64 uc) B (blk (.slice uo 64 uc))) := ⟨by rw [unhide HBL]; exact own_base o4 (Nat.zero_le _), rfl⟩
      have HO4 := hide (ok2.keep (unhide ho) g4)
      have G4 := hide (grown_trans (unhide hg) g4)
      have HDU : Hid (∀ x ∈ blk (.slice uo 64 uc), x ∉ F2 ∧ w.heap.size ≤ x) := fun x hx => by
        have e9 := (o4.lt x (mem_blk.1 hx)).1
        exact ⟨fun h => by have := ok2.lt _ _ _ _ (unhide ho) x h; omega, by omega⟩
      clear o4 g4 ho hg HMR HLI
      go_wp2_with (at_builtin; refine append_rowR ok1 Try.underlying34 infoIntSS rfl _ _ rfl (.slice vo vn vc) (L.take k) F2 rfl (unhide HO4) (unhide hn2) _ B _ (unhide HU) (blk_nodup _) (fun x hx => (unhide HDU x hx).1) rfl (unhide HRL) _ (unhide HLK) ?_)
      intro v5 w5 F5 o5 n5 m5 g5
      obtain ⟨vo5, vc5, rfl⟩ := o5.form
      have HO5 := hide o5
      have HN5 := hide n5
      have HL5 : Hid (∀ x ∈ F5, w.heap.size ≤ x) := fun x hx => by
        rcases m5 x hx with h | h | h
        · exact unhide hl2 x h
        · exact (unhide HDU x h).2
        · have := (unhide G4).size; omega
      have G5 := hide (Wr.new (unhide G4) g5 (fun x hx => unhide hl2 x ((unhide HO4).headM x hx)))
      clear o5 n5 m5 g5 HO4 HU HDU hn2 hl2 HRL G4
      go_wp2
      go_roundw
      case rel => exact ⟨k + 1, vo5, _, vc5, F5, by omega, rfl, by go_num, HO5, HN5, HL5, G5⟩
      case measure => simp [intOf]; omega
    · obtain rfl : k = L.length := by omega
      have hkI : decide ((L.length : Int) < (L.length : Int)) = false := decide_eq_false (by omega)
      have e8 : L.take L.length = L := List.take_length
      rw [e8] at ho
      go_wp2
      go_ret
      exact ⟨_, F2, rfl, unhide ho, unhide hn2, unhide hl2, unhide hg⟩

end Go.Proofs.Ytnjcmlmgjoaeeaa

namespace Go.Proofs.Ytnjcmlmgjoaeeaa
open Go.RowKit

def toldO (r : Option (List (List Int))) : Bool := match r with | some X => X.all (fun row => row.all (fun x => x == 0)) | none => false
theorem leftOf_any {X : Array Value} {p wd ht rs : Int} {n : Nat} {C : Nat → Nat → Int} {fb : Bool} (HFB : Hid (frameB p wd ht rs n C = fb)) (h1 : fb = false → X = #[.int .i64 0, .int .i64 0, .int .i64 0, .int .i64 0, .int .i64 0, .int .i64 0, .int .i64 0, .int .i64 0, .int .i64 0, .int .i64 0, .int .i64 0, .int .i64 0, .int .i64 0, .int .i64 0, .int .i64 0, .int .i64 0, .int .i64 0, .int .i64 0, .int .i64 0, .int .i64 0, .int .i64 0]) (h2 : fb = true → ∃ D, Fx X p wd ht rs n D ∧ ∀ i, i < n → D i = C i)
    (v : Value) (S : List Scn) (w : World) (hS : RdSs w v S) (hsz : szR szSc S ≤ 1048576) (r : Option (List (List Int))) (HR : Hid (leftO fb n S = r)) :
    Calls Try.prog 47 #[.agg X, v] w fun e w' => ∃ mv, e = .returned (.tuple #[mv, .bool r.isSome]) ∧ (∀ Y, r = some Y → ∃ b, mv = .map (some b) ∧ w.heap.size ≤ b ∧ OwM w' b Y) ∧ w.grownBy w' none := by
  have hT := tells_of HFB h1 h2
  cases fb with
  | false =>
    obtain rfl := h1 rfl
    have e : r = none := by rw [← unhide HR]; rfl
    subst e
    refine (leftOf_no v w).mono ?_
    rintro e w' ⟨rfl, g⟩
    exact ⟨_, rfl, fun Y e => absurd e (by simp), g⟩
  | true =>
    obtain ⟨D, hF, _⟩ := h2 rfl
    have hg := geo_of (unhide HFB)
    have hp : (p == 0) = false := by
      have hf := unhide HFB
      unfold frameB at hf
      rw [Bool.and_eq_true] at hf
      rcases (headB_facts hf.1).1 with h | h <;> (rw [h]; rfl)
    have hc := sz_scan hsz
    have hl : S.length ≤ 1048576 := by unfold szR at hsz; omega
    exact leftOf_yes X p wd ht rs n D hF hp hg.n4 hT v S w hS (fun a ha => by have := hc a ha; omega) (by omega) r HR

set_option maxRecDepth 20000 in
set_option maxHeartbeats 1600000 in
theorem giveLeft : ImplLeft := by
  intro p wd ht rs fo n fc C v S w hr hn hS hsz fb HFB L HL
  obtain ⟨vo, vn, vc, rfl⟩ : ∃ vo vn vc, v = .slice vo vn vc := by obtain ⟨vo, vc, e, _⟩ := hS; exact ⟨vo, _, vc, e⟩
  obtain ⟨r, HR⟩ : ∃ r, Hid (leftO fb n S = r) := ⟨_, rfl⟩
  have HLR : Hid (r.getD [] = L) := by unfold Hid; rw [← unhide HR]; exact unhide HL
  have HRO : Hid (∀ Y, r = some Y → Rows64 n Y ∧ n ≤ 4) := fun Y e => by
    have h := (unhide HR).trans e
    refine ⟨leftO_rows h, ?_⟩
    cases fb with
    | false => cases h
    | true => exact (geo_of (unhide HFB)).n4
  have HG0 : Hid (w.grownBy (w.alloc (.cells #[.int .i64 p, .int .i64 wd, .int .i64 ht, .int .i64 rs, .slice fo n fc] 26)) none) := World.grownBy_alloc _ _ _
  have HFIX := hide (fixFrame p wd ht rs fo n fc C _ (hr.grown (unhide HG0)) hn fb HFB)
  have HS := hide hS
  clear hr hS HL
  go_enter Try.func15, Try.ntmps15
  go_wp2_with fail
  refine (unhide HFIX).mono ?_
  rintro e w1 ⟨X, rfl, h1, h2, g1⟩
  have HG1 := hide (grown_trans (unhide HG0) g1)
  have HLO := hide (leftOf_any HFB h1 h2 (.slice vo vn vc) S w1 (RdSs.st _ _ _ _ (unhide HS) (unhide HG1)) hsz r HR)
  clear h1 h2 g1 HFIX HG0
  go_wp2_with fail
  refine (unhide HLO).mono ?_
  rintro e w2 ⟨mv, rfl, hm, g2⟩
  have HG2 := hide (grown_trans (unhide HG1) g2)
  have hs1 := (unhide HG1).size
  clear g2 HLO HG1
  cases r with
  | none =>
    obtain rfl : [] = L := unhide HLR
    clear hm
    go_wp2
    go_ret
    exact ⟨_, [], rfl, OwR.nil _ _ _, by simp, fun g hg => by simp at hg, unhide HG2⟩
  | some Y =>
    obtain rfl : Y = L := unhide HLR
    obtain ⟨b, rfl, hb, o2⟩ := hm Y rfl
    obtain ⟨h64, hn4⟩ := unhide HRO Y rfl
    have HLI := hide (listsOf Y (fun c hc => h64.2 c (by rw [← h64.1]; exact hc)) (by rw [h64.1]; exact hn4) b w2 o2)
    clear hm o2 h64
    go_wp2_with fail
    refine (unhide HLI).mono ?_
    rintro e w3 ⟨u, F, rfl, o3, n3, l3, g3⟩
    have hs2 := (unhide HG2).size
    have HR3 : Hid (∃ u' F, Ending.returned u = .returned u' ∧ Ow2 w3 u' Y F ∧ F.Nodup ∧ (∀ g ∈ F, w.heap.size ≤ g) ∧ w.grownBy w3 none) := ⟨u, F, rfl, o3, n3, fun g hg => by have := l3 g hg; omega, grown_trans (unhide HG2) g3⟩
    clear o3 n3 l3 g3 HLI
    go_wp2
    go_ret
    exact unhide HR3

set_option maxRecDepth 20000 in
set_option maxHeartbeats 1600000 in
theorem giveScriptOk : ImplScriptOk := by
  intro p wd ht rs fo n fc C v S w hr hn hS hsz fb t HFB HT
  obtain ⟨vo, vn, vc, rfl⟩ : ∃ vo vn vc, v = .slice vo vn vc := by obtain ⟨vo, vc, e, _⟩ := hS; exact ⟨vo, _, vc, e⟩
  obtain ⟨r, HR⟩ : ∃ r, Hid (leftO fb n S = r) := ⟨_, rfl⟩
  have HTR : Hid (toldO r = t) := by
    unfold Hid
    rw [← unhide HR]
    exact unhide HT
  have HRO : Hid (∀ Y, r = some Y → Rows64 n Y) := fun Y e => leftO_rows ((unhide HR).trans e)
  have HG0 : Hid (w.grownBy (w.alloc (.cells #[.int .i64 p, .int .i64 wd, .int .i64 ht, .int .i64 rs, .slice fo n fc] 26)) none) := World.grownBy_alloc _ _ _
  have HFIX := hide (fixFrame p wd ht rs fo n fc C _ (hr.grown (unhide HG0)) hn fb HFB)
  have HS := hide hS
  clear hr hS HT
  go_enter Try.func14, Try.ntmps14
  go_wp2_with fail
  refine (unhide HFIX).mono ?_
  rintro e w1 ⟨X, rfl, h1, h2, g1⟩
  have HG1 := hide (grown_trans (unhide HG0) g1)
  have HLO := hide (leftOf_any HFB h1 h2 (.slice vo vn vc) S w1 (RdSs.st _ _ _ _ (unhide HS) (unhide HG1)) hsz r HR)
  clear h1 h2 g1 HFIX HG0
  go_wp2_with fail
  refine (unhide HLO).mono ?_
  rintro e w2 ⟨mv, rfl, hm, g2⟩
  have HG2 := hide (grown_trans (unhide HG1) g2)
  clear g2 HLO HG1
  cases r with
  | none =>
    obtain rfl : false = t := unhide HTR
    clear hm
    go_wp2
    go_ret
    exact ⟨rfl, unhide HG2⟩
  | some Y =>
    obtain ⟨b, rfl, hb, o2⟩ := hm Y rfl
    have h64 := unhide HRO Y rfl
    have HAL := hide (allTold Y (fun c hc => h64.2 c (by rw [← h64.1]; exact hc)) b w2 o2 t (unhide HTR))
    clear hm o2 h64 HTR HRO
    go_wp2_with fail
    refine (unhide HAL).mono ?_
    rintro e w3 ⟨rfl, g3⟩
    have HG3 := hide (grown_trans (unhide HG2) g3)
    clear g3 HAL
    go_wp2
    go_ret
    exact ⟨rfl, unhide HG3⟩

end Go.Proofs.Ytnjcmlmgjoaeeaa

namespace Go.Proofs.Ytnjcmlmgjoaeeaa
open Go.RowKit

def levB (lo hi : Int) (zs : List Int) : Bool := decide (zs.length = 64) && zs.all (fun n => decide (lo ≤ n ∧ n ≤ hi))

theorem lev_all {lo hi : Int} {zs : List Int} (hz : zs.length = 64) (h : ∀ j, j < 64 → lo ≤ zs.getD j 0 ∧ zs.getD j 0 ≤ hi) : levB lo hi zs = true := by
  simp only [levB, hz, decide_true, Bool.true_and, List.all_eq_true, decide_eq_true_eq]
  intro n hn
  obtain ⟨i, hi', rfl⟩ := List.getElem_of_mem hn
  have h2 : zs.getD i 0 = zs[i] := by simp [hi']
  rw [← h2]
  exact h i (by omega)
theorem lev_at {lo hi : Int} {zs : List Int} (h : levB lo hi zs = true) : zs.length = 64 ∧ ∀ j, j < 64 → lo ≤ zs.getD j 0 ∧ zs.getD j 0 ≤ hi := by
  simp only [levB, Bool.and_eq_true, decide_eq_true_eq, List.all_eq_true] at h
  refine ⟨h.1, fun j hj => ?_⟩
  have hj' : j < zs.length := by omega
  have h2 : zs.getD j 0 = zs[j] := by simp [hj']
  rw [h2]
  exact h.2 _ (List.getElem_mem hj')

end Go.Proofs.Ytnjcmlmgjoaeeaa

namespace Go.Proofs.Ytnjcmlmgjoaeeaa

/-- How many blocks a component's plane has beside and below one another, and how many of them are needed. -/
def bwG (wd : Int) (n : Nat) (C : Nat → Nat → Int) (c : Nat) : Nat := (upI wd (8 * mostA 1 C 1 n) * C c 1).toNat
def bhG (ht : Int) (n : Nat) (C : Nat → Nat → Int) (c : Nat) : Nat := (upI ht (8 * mostA 1 C 2 n) * C c 2).toNat
def nwG (wd : Int) (n : Nat) (C : Nat → Nat → Int) (c : Nat) : Nat := (upI (upI (wd * C c 1) (mostA 1 C 1 n)) 8).toNat
def nhG (ht : Int) (n : Nat) (C : Nat → Nat → Int) (c : Nat) : Nat := (upI (upI (ht * C c 2) (mostA 1 C 2 n)) 8).toNat
theorem up_le32 {n d : Int} (hn : 1 ≤ n ∧ n ≤ 256) (hd : 1 ≤ d ∧ d ≤ 4) : 1 ≤ upI n (8 * d) ∧ upI n (8 * d) ≤ 32 := by
  unfold upI
  rw [Int.tdiv_eq_ediv_of_nonneg (by omega)]
  have : d = 1 ∨ d = 2 ∨ d = 3 ∨ d = 4 := by omega
  rcases this with rfl | rfl | rfl | rfl <;> omega
theorem mul_in {a b : Int} (ha : 1 ≤ a ∧ a ≤ 32) (hb : 1 ≤ b ∧ b ≤ 4) : 1 ≤ a * b ∧ a * b ≤ 128 := by
  obtain ⟨b0, b1⟩ := hb
  have : b = 1 ∨ b = 2 ∨ b = 3 ∨ b = 4 := by omega
  rcases this with rfl | rfl | rfl | rfl <;> omega
structure Dims (wd ht : Int) (n : Nat) (C : Nat → Nat → Int) (c : Nat) : Prop where
  bw : upI wd (8 * mostA 1 C 1 n) * C c 1 = (bwG wd n C c : Int)
  bh : upI ht (8 * mostA 1 C 2 n) * C c 2 = (bhG ht n C c : Int)
  bw1 : 1 ≤ bwG wd n C c ∧ bwG wd n C c ≤ 128
  bh1 : 1 ≤ bhG ht n C c ∧ bhG ht n C c ≤ 128
  sw : 1 ≤ upI (wd * C c 1) (mostA 1 C 1 n) ∧ upI (wd * C c 1) (mostA 1 C 1 n) ≤ 1024
  sh : 1 ≤ upI (ht * C c 2) (mostA 1 C 2 n) ∧ upI (ht * C c 2) (mostA 1 C 2 n) ≤ 1024
  nw : upI (upI (wd * C c 1) (mostA 1 C 1 n)) 8 = (nwG wd n C c : Int)
  nh : upI (upI (ht * C c 2) (mostA 1 C 2 n)) 8 = (nhG ht n C c : Int)
  nw1 : nwG wd n C c ≤ 1024
  nh1 : nhG ht n C c ≤ 1024
theorem side_mul {a b : Int} (ha : 1 ≤ a ∧ a ≤ 256) (hb : 1 ≤ b ∧ b ≤ 4) : 1 ≤ a * b ∧ a * b ≤ 1024 := by
  obtain ⟨b0, b1⟩ := hb
  have : b = 1 ∨ b = 2 ∨ b = 3 ∨ b = 4 := by omega
  rcases this with rfl | rfl | rfl | rfl <;> omega
theorem dims_of {wd ht : Int} {n : Nat} {C : Nat → Nat → Int} (hg : Geo wd ht n C (mostA 1 C 1 n) (mostA 1 C 2 n)) (c : Nat) (hc : c < n) : Dims wd ht n C c := by
  have h1 := mul_in (up_le32 hg.wd hg.hb) (hg.ch c hc)
  have h2 := mul_in (up_le32 hg.ht hg.vb) (hg.cv c hc)
  have h3 := side_mul hg.wd (hg.ch c hc)
  have h4 := side_mul hg.ht (hg.cv c hc)
  have h5 := upI_pos h3.1 hg.hb.1
  have h6 := upI_pos h4.1 hg.vb.1
  have h7 := upI_pos h5.1 (show (1 : Int) ≤ 8 by omega)
  have h8 := upI_pos h6.1 (show (1 : Int) ≤ 8 by omega)
  refine ⟨?_, ?_, ?_, ?_, ⟨h5.1, by omega⟩, ⟨h6.1, by omega⟩, ?_, ?_, ?_, ?_⟩
  · unfold bwG; omega
  · unfold bhG; omega
  · unfold bwG; omega
  · unfold bhG; omega
  · unfold nwG; omega
  · unfold nhG; omega
  · unfold nwG; omega
  · unfold nhG; omega

/-- Blocks of noughts, and what is so of coefficients that are ok. -/
def noughts : List Int := List.replicate 64 0
def emptyG (n : Nat) (bn : Nat → Nat) : List (List (List Int)) := (List.range n).map fun c => List.replicate (bn c) noughts
def emptyF (b : Bool) (wd ht : Int) (n : Nat) (C : Nat → Nat → Int) : List (List (List Int)) := if b then emptyG n (fun c => bwG wd n C c * bhG ht n C c) else []
def zeroB (xs : List Int) : Bool := xs.all (fun x => x == 0)
def hidB (bw nw nh k : Nat) : Bool := decide (nh ≤ k / bw) || decide (nw ≤ k % bw)
def blockB (hid : Bool) (xs : List Int) : Bool := levB (-16383) 16383 xs && (!hid || zeroB xs)
def planeB (bw bh nw nh : Nat) (P : List (List Int)) : Bool := decide (P.length = bw * bh) && (List.range P.length).all (fun k => blockB (hidB bw nw nh k) (P.getD k []))
def coefsOkB (wd ht : Int) (n : Nat) (C : Nat → Nat → Int) (X : List (List (List Int))) : Bool := decide (X.length = n) && (List.range X.length).all (fun c => planeB (bwG wd n C c) (bhG ht n C c) (nwG wd n C c) (nhG ht n C c) (X.getD c []))
def coefsOkF (b : Bool) (wd ht : Int) (n : Nat) (C : Nat → Nat → Int) (X : List (List (List Int))) : Bool := b && coefsOkB wd ht n C X
/-- Where a place lies in its plane, if it is one. -/
def placeO (wd ht : Int) (n : Nat) (C : Nat → Nat → Int) (co ro cl : Int) : Option Nat :=
  if 0 ≤ co ∧ co ≤ (n : Int) - 1 then (if (0 ≤ ro ∧ ro ≤ (bhG ht n C co.toNat : Int) - 1) ∧ 0 ≤ cl ∧ cl ≤ (bwG wd n C co.toNat : Int) - 1 then some (ro.toNat * bwG wd n C co.toNat + cl.toNat) else none) else none
def hiddenI (wd ht : Int) (n : Nat) (C : Nat → Nat → Int) (c : Nat) (ro cl : Int) : Bool := decide ((nhG ht n C c : Int) ≤ ro) || decide ((nwG wd n C c : Int) ≤ cl)
def blockAtF (b : Bool) (wd ht : Int) (n : Nat) (C : Nat → Nat → Int) (X : List (List (List Int))) (co ro cl : Int) : List Int :=
  if coefsOkF b wd ht n C X then (match placeO wd ht n C co ro cl with | some k => (X.getD co.toNat []).getD k [] | none => []) else []
def withBlockF (b : Bool) (wd ht : Int) (n : Nat) (C : Nat → Nat → Int) (X : List (List (List Int))) (co ro cl : Int) (bl : List Int) : List (List (List Int)) :=
  if coefsOkF b wd ht n C X && levB (-16383) 16383 bl then (match placeO wd ht n C co ro cl with | some k => if hiddenI wd ht n C co.toNat ro cl then [] else X.set co.toNat ((X.getD co.toNat []).set k bl) | none => []) else []

end Go.Proofs.Ytnjcmlmgjoaeeaa

namespace Go.Proofs.Ytnjcmlmgjoaeeaa
open Go.RowKit

theorem zero_take {xs : List Int} {k : Nat} (hk : k < xs.length) : zeroB (xs.take (k + 1)) = (zeroB (xs.take k) && (xs.getD k 0 == 0)) := by
  unfold zeroB
  rw [List.take_succ_eq_append_getElem hk, List.all_append]
  simp [hk]
theorem zero_no {xs : List Int} {k : Nat} (hk : k < xs.length) (h : (xs.getD k 0 == 0) = false) : zeroB xs = false := by
  cases hx : zeroB xs with
  | false => rfl
  | true =>
    have e : xs.getD k 0 = xs[k] := by simp [hk]
    rw [e, List.all_eq_true.1 hx _ (List.getElem_mem hk)] at h
    exact h

set_option maxHeartbeats 800000 in
theorem specZero (ao : Option Addr) (n cap : Nat) (zs : List Int) (w : World) (hr : Rd .i64 w ao n zs) (hn : n ≤ 1048576) (b : Bool) (hb : Hid (zeroB zs = b)) :
    Calls Try.prog 64 #[.slice ao n cap] w fun e w' => e = .returned (.bool b) ∧ w' = w := by
  have HL := hide hr.1
  have HR := hide hr
  clear hr
  go_enter Try.func64, Try.ntmps64
  go_wp2
  go_loopw [3] (fun iv wr => ∃ i : Nat, i ≤ n ∧ iv = .int .i64 i ∧ Hid (zeroB (zs.take i) = true) ∧ wr = w) (fun iv _ => n - (intOf iv).toNat)
  case atStart => exact ⟨0, Nat.zero_le _, rfl, rfl, rfl⟩
  case round =>
    obtain ⟨i, hi, rfl, ha, rfl⟩ := hrel
    by_cases hlt : i < n
    · obtain ⟨fb, fo, rfl, c0⟩ := (unhide HR).2 i hlt
      have his : i < zs.length := by rw [unhide HL]; exact hlt
      have hal := zero_take his
      have hno := zero_no his
      have hiI : (i : Int) < (n : Int) := by omega
      generalize zs.getD i 0 = x at *
      cases hx : (x == 0) with
      | false =>
        have e : b = false := by rw [← unhide hb]; exact hno hx
        subst e
        have hx2 : (x != 0) = true := by unfold bne; rw [hx]; rfl
        clear hal hno ha hx
        go_wp2
        go_ret
        exact ⟨rfl, rfl⟩
      | true =>
        have HA : Hid (zeroB (zs.take (i + 1)) = true) := by unfold Hid; rw [hal, unhide ha, hx]; rfl
        have hx2 : (x != 0) = false := by unfold bne; rw [hx]; rfl
        clear hal hno ha hx
        go_wp2
        go_roundw
        case rel => exact ⟨i + 1, by omega, by go_num, HA, trivial⟩
        case measure => simp [intOf]; omega
    · obtain rfl : i = n := by omega
      have e : b = true := by
        have h := unhide ha
        rw [← unhide HL, List.take_length] at h
        rw [← unhide hb]; exact h
      subst e
      clear ha
      go_wp2
      go_ret
      exact ⟨rfl, rfl⟩

end Go.Proofs.Ytnjcmlmgjoaeeaa

namespace Go.Proofs.Ytnjcmlmgjoaeeaa
open Go.RowKit

set_option maxRecDepth 20000 in
set_option maxHeartbeats 1600000 in
theorem specLeftOf (p wd ht rs : Int) (fo : Option Addr) (n fc : Nat) (C : Nat → Nat → Int) (w : World) (hr : RdC w fo n C) (hn : n ≤ 4194304) (v : Value) (S : List Scn) (hS : RdSs w v S) (hcs : ∀ a ∈ S, a.cs.length ≤ 4194304) (fb : Bool) (HFB : Hid (frameB p wd ht rs n C = fb)) (L : List (List Int)) (HL : Hid (leftG fb n S = L)) :
    Calls Try.prog 17 #[.agg #[.int .i64 p, .int .i64 wd, .int .i64 ht, .int .i64 rs, .slice fo n fc], v] w fun e w' => ∃ u F, e = .returned u ∧ Ow2 w' u L F ∧ F.Nodup ∧ (∀ g ∈ F, w.heap.size ≤ g) ∧ w.grownBy w' none := by
  have G0 : w.grownBy (w.alloc (.cells #[.int .i64 p, .int .i64 wd, .int .i64 ht, .int .i64 rs, .slice fo n fc] 26)) none := World.grownBy_alloc _ _ _
  obtain ⟨b, HB⟩ : ∃ b, Hid ((leftO fb n S).isSome = b) := ⟨_, rfl⟩
  have HC := hide (specLeft p wd ht rs fo n fc C _ (hr.grown G0) hn v S (RdSs.st _ _ _ _ hS G0) hcs fb HFB L b HL HB)
  have HG := hide G0
  clear hr hS hcs G0
  go_enter Try.func17, Try.ntmps17
  go_wp2_with fail
  refine (unhide HC).mono ?_
  rintro e w1 ⟨u, F, rfl, o1, n1, l1, g1⟩
  obtain ⟨uo, uc, rfl⟩ := o1.form
  have HF : Hid (Ow2 w1 (.slice uo L.length uc) L F ∧ F.Nodup ∧ (∀ g ∈ F, w.heap.size ≤ g) ∧ w.grownBy w1 none) := ⟨o1, n1, fun g hg => by have := l1 g hg; simp at this; omega, grown_trans (unhide HG) g1⟩
  clear o1 n1 l1 g1 HC
  go_wp2
  go_ret
  exact ⟨_, F, rfl, unhide HF⟩

theorem left_short {fb : Bool} {n : Nat} {S : List Scn} {C : Nat → Nat → Int} {p wd ht rs : Int} (HFB : frameB p wd ht rs n C = fb) : (leftG fb n S).length ≤ 4 ∧ ∀ r ∈ leftG fb n S, r.length ≤ 64 := by
  unfold leftG
  cases h : leftO fb n S with
  | none => exact ⟨by simp, fun r hr => by simp at hr⟩
  | some X =>
    have h64 := leftO_rows h
    have hfb : fb = true := by
      unfold leftO at h
      cases fb with
      | true => rfl
      | false => simp at h
    subst hfb
    refine ⟨by show X.length ≤ 4; rw [h64.1]; exact (geo_of HFB).n4, fun r hr => ?_⟩
    obtain ⟨c, hc, rfl⟩ := List.mem_iff_getElem.1 (show r ∈ X from hr)
    have e : X.getD c [] = X[c] := by simp [hc]
    have := h64.2 c (by rw [← h64.1]; exact hc)
    rw [e] at this
    omega

set_option maxRecDepth 20000 in
set_option maxHeartbeats 1600000 in
theorem specScriptOk (p wd ht rs : Int) (fo : Option Addr) (n fc : Nat) (C : Nat → Nat → Int) (w : World) (hr : RdC w fo n C) (hn : n ≤ 4194304) (v : Value) (S : List Scn) (hS : RdSs w v S) (hcs : ∀ a ∈ S, a.cs.length ≤ 4194304) (fb : Bool) (HFB : Hid (frameB p wd ht rs n C = fb)) (t : Bool) (HT : Hid (scriptB fb n S = t)) :
    Calls Try.prog 34 #[.agg #[.int .i64 p, .int .i64 wd, .int .i64 ht, .int .i64 rs, .slice fo n fc], v] w fun e w' => e = .returned (.bool t) ∧ w.grownBy w' none := by
  have G0 : w.grownBy (w.alloc (.cells #[.int .i64 p, .int .i64 wd, .int .i64 ht, .int .i64 rs, .slice fo n fc] 26)) none := World.grownBy_alloc _ _ _
  obtain ⟨b, HB⟩ : ∃ b, Hid ((leftO fb n S).isSome = b) := ⟨_, rfl⟩
  obtain ⟨L, HL⟩ : ∃ L, Hid (leftG fb n S = L) := ⟨_, rfl⟩
  have hsh := left_short (S := S) (unhide HFB)
  rw [unhide HL] at hsh
  have HC := hide (specLeft p wd ht rs fo n fc C _ (hr.grown G0) hn v S (RdSs.st _ _ _ _ hS G0) hcs fb HFB L b HL HB)
  have HG := hide G0
  have HTT : Hid ((b && (L.all zeroB)) = t) := by
    unfold Hid
    rw [← unhide HT, ← unhide HB, ← unhide HL]
    unfold scriptB leftG
    cases leftO fb n S with
    | none => rfl
    | some X => rfl
  have HSH := hide hsh
  clear hr hS hcs G0 hsh
  go_enter Try.func34, Try.ntmps34
  go_wp2_with fail
  refine (unhide HC).mono ?_
  rintro e w1 ⟨u, F, rfl, o1, n1, l1, g1⟩
  obtain ⟨uo, uc, rfl⟩ := o1.form
  have HR1 := hide (OwR.rd (Q := RdI .i64) (fun _ _ _ _ h => h.rd) o1)
  have HG1 := hide (grown_trans (unhide HG) g1)
  obtain ⟨ln, HLN⟩ : ∃ ln, Hid (L.length = ln) := ⟨_, rfl⟩
  rw [unhide HLN] at HR1 ⊢
  clear o1 n1 l1 g1 HC
  go_wp2
  go_loopw [6, 7] (fun bv iv wr => ∃ (i : Nat) (q : Bool), i ≤ ln ∧ iv = .int .i64 i ∧ bv = .bool q ∧ Hid ((b && (L.take i).all zeroB) = q) ∧ wr = w1) (fun _ iv _ => ln - (intOf iv).toNat)
  case atStart => exact ⟨0, b, Nat.zero_le _, rfl, rfl, by unfold Hid; simp, rfl⟩
  case round =>
    obtain ⟨i, q, hi, rfl, rfl, hq, rfl⟩ := hrel
    by_cases hlt : i < ln
    · have hiI : (i : Int) < (ln : Int) := by omega
      have i0 : (0 : Int) ≤ (i : Int) := by omega
      have hl4 := (unhide HSH).1
      have hln : ln ≤ 4 := by rw [← unhide HLN]; exact hl4
      have hil : i < L.length := by rw [unhide HLN]; exact hlt
      obtain ⟨ao, cap, e1, hel⟩ := unhide HR1
      obtain ⟨gb, goff, ui, rfl, cu, ⟨ri, rc, rfl, hri⟩⟩ := hel i hil
      obtain ⟨rfl, rfl⟩ : uo = some ⟨gb, goff, none⟩ ∧ uc = cap := by
        have e2 := e1
        simp only [Value.slice.injEq] at e2
        exact ⟨e2.1, e2.2.2⟩
      obtain ⟨z, HZ⟩ : ∃ z, Hid (zeroB (L.getD i []) = z) := ⟨_, rfl⟩
      have eL : L[i] = L.getD i [] := by simp [hil]
      rw [eL] at hri cu
      have hrl := (unhide HSH).2 (L.getD i []) (by rw [← eL]; exact List.getElem_mem hil)
      have HQ1 : Hid ((b && (L.take (i + 1)).all zeroB) = (q && z)) := by
        unfold Hid
        rw [List.take_succ_eq_append_getElem hil, List.all_append, ← Bool.and_assoc, unhide hq, eL, List.all_cons, List.all_nil, Bool.and_true, unhide HZ]
      obtain ⟨rn, HRN⟩ : ∃ rn, Hid ((L.getD i []).length = rn) := ⟨_, rfl⟩
      rw [unhide HRN] at hri cu hrl
      have HRI := hide hri
      clear e1 hel hri eL hq hil hl4
      cases q with
      | false =>
        go_wp2
        go_roundw
        case rel => exact ⟨i + 1, false, by omega, by go_num, rfl, HQ1, trivial⟩
        case measure => simp [intOf]; omega
      | true =>
        go_wp2_with fail
        refine (specZero ri rn rc _ wr (unhide HRI) (by omega) z HZ).mono ?_
        rintro e w2 ⟨rfl, rfl⟩
        go_wp2
        go_roundw
        case rel => exact ⟨i + 1, z, by omega, by go_num, rfl, (by have := unhide HQ1; rw [Bool.true_and] at this; exact this), trivial⟩
        case measure => simp [intOf]; omega
    · obtain rfl : i = ln := by omega
      have eq : q = t := by
        rw [← unhide HTT, ← unhide hq, ← unhide HLN, List.take_length]
      subst eq
      go_wp2
      go_ret
      exact ⟨rfl, unhide HG1⟩

end Go.Proofs.Ytnjcmlmgjoaeeaa
