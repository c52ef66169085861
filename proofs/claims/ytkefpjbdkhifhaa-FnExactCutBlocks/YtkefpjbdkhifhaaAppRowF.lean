/-
  A row behind a row of rows that has room for it.
-/
import Derived.Test.YtkefpjbdkhifhaaDeepA
import Derived.Laws.OwnMore
namespace Go.Proofs.Ytkefpjbdkhifhaa
open Go.RowKit

theorem step_append_rowF {α : Type} {P : World → Value → α → List Nat → Prop} (hP : OwOk P) {e T : TypeId} (hT : Try.prog.underlying T = some (.slice e)) (hI : (Try.prog.info? e).map (fun i => (i.zero, i.size, i.bytes)) = some (some (.slice none 0 0), 1, 24))
    {w : World} {ops : Array Oper} {o : Oper} {a : Act} {K : Act → World → Prop} {Q : Exit → Act → World → Prop} {E : Prop} (hgd : o.guard = none) (s x : Operand)
    (ho : o.op = .call { callee := .builtin .append, args := #[s, x], argTypes := #[T, T] })
    (g cap : Nat) (L : List α) (F : List Nat) (hs : a.eval s = .slice (some ⟨g, 0, none⟩) L.length cap) (hown : OwR e P w (.slice (some ⟨g, 0, none⟩) L.length cap) L F) (hF : F.Nodup) (u : Value) (b : α) (Fb : List Nat) (hu : P w u b Fb) (hFb : Fb.Nodup) (hd : ∀ x ∈ Fb, x ∉ F) (hx : a.eval x = .slice (some ⟨w.heap.size, 0, none⟩) 1 1) (hroom : L.length + 1 ≤ cap) (R : List α) (hR : L ++ [b] = R)
    (h : ∀ w' F', OwR e P w' (.slice (some ⟨g, 0, none⟩) R.length cap) R F' → F'.Nodup → (∀ x ∈ F', x ∈ F ∨ x ∈ Fb) → w.grownBy w' (some g) → K (a.put o.dst (.slice (some ⟨g, 0, none⟩) R.length cap)) w') :
    if Region.wanted o (yielded ops a.tmps) = true then Oper.wp Try.prog o a (w.alloc (.cells #[u] e)) K Q else E := by
  subst hR
  have hw : Region.wanted o (yielded ops a.tmps) = true := by simp [Region.wanted, hgd]
  rw [if_pos hw]
  obtain ⟨i0, hi, hz0, hz1, hz2⟩ := info_parts hI
  obtain ⟨us, Fs, l1, l2, o1, els, rfl⟩ := hown
  obtain ⟨uo, un, uc, rfl⟩ := hP.form _ _ _ _ hu
  have hn := List.nodup_append.1 hF
  have hgb : g ∈ blk (.slice (some ⟨g, 0, none⟩) L.length cap) := mem_blk.2 rfl
  obtain ⟨w', hrun, r1, r2⟩ := run_append_fits (P := Try.prog) (w.alloc (.cells #[.slice uo un uc] e)) 0 T o.type e i0 1 hT hi hz1 g L.length cap us (o1.alloc _) ⟨w.heap.size, 0, none⟩ 1 1 [.slice uo un uc] rfl (World.news_of_block (cs := #[.slice uo un uc]) (t := e) (fr := (0, 0)) (heap_alloc_new w _)) (by intro y hy; simp at hy; subst hy; rfl) hroom
  have hga : w.grownBy w' (some g) := ⟨r2.os, r2.tape, r2.output, by have h := r2.size; simp at h; omega, fun k hk hr => (r2.block k (by simp; omega) hr).trans (Below.heap_alloc _ _ _ hk)⟩
  have hwr : Wr [g] w w' := Wr.ofRow hga (fun q e => by have e9 := Option.some.inj e; simp [e9])
  have hfl : (Fs ++ [Fb]).flatten = Fs.flatten ++ Fb := by simp
  unfold Oper.wp
  simp only [execOp, ho, resolve, invoke, builtin, Sem.run_bind, Sem.run_pure, Result.andThen_ok, List.map_toArray, List.map_cons, List.map_nil, hs, hx, hrun]
  have hlen : (L ++ [b]).length = L.length + 1 := by simp
  have := h w' (blk (.slice (some ⟨g, 0, none⟩) (L ++ [b]).length cap) ++ (Fs ++ [Fb]).flatten) ⟨us ++ [.slice uo un uc], Fs ++ [Fb], by simp [l1], by simp [l2], by rw [hlen]; exact r1, fun i hi => ?_, rfl⟩ ?_ ?_ hga
  · rw [hlen] at this
    exact this
  · by_cases hil : i < L.length
    · have e1 : (us ++ [Value.slice uo un uc]).getD i (.slice none 0 0) = us.getD i (.slice none 0 0) := by simp [List.getElem?_append_left (show i < us.length by omega)]
      have e2 : (Fs ++ [Fb]).getD i [] = Fs.getD i [] := by simp [List.getElem?_append_left (show i < Fs.length by omega)]
      rw [e1, e2, List.getElem_append_left hil]
      exact hP.wr (els i hil) hwr (fun y hy hy2 => hn.2.2 g hgb y (flat_in (by omega) y hy) (by simp at hy2; exact hy2.symm))
    · have hie : i = L.length := by rw [List.length_append] at hi; simp at hi; omega
      subst hie
      have e1 : (us ++ [Value.slice uo un uc]).getD L.length (.slice none 0 0) = .slice uo un uc := by rw [← l1]; simp
      have e2 : (Fs ++ [Fb]).getD L.length [] = Fb := by rw [← l2]; simp
      rw [e1, e2, List.getElem_append_right (Nat.le_refl _)]
      simp only [Nat.sub_self, List.getElem_cons_zero]
      exact hP.wr hu hwr (fun y hy hy2 => hd y hy (by simp at hy2; subst hy2; simp [hgb]))
  · rw [hfl]
    have hb : blk (.slice (some ⟨g, 0, none⟩) (L ++ [b]).length cap) = [g] := rfl
    rw [hb]
    refine List.nodup_append.2 ⟨by simp, List.nodup_append.2 ⟨hn.2.1, hFb, fun y hy z hz => ?_⟩, fun y hy z hz => ?_⟩
    · rintro rfl
      exact hd y hz (by simp [hy])
    · rintro rfl
      simp at hy
      subst hy
      rcases List.mem_append.1 hz with hz | hz
      · exact hn.2.2 y hgb y hz rfl
      · exact hd y hz (by simp [hgb])
  · intro y hy
    rw [hfl] at hy
    rcases List.mem_append.1 hy with hy | hy
    · have e9 : g = y := Option.some.inj (mem_blk.1 hy)
      subst e9
      exact .inl (by simp [hgb])
    · rcases List.mem_append.1 hy with hy | hy
      · exact .inl (by simp [hy])
      · exact .inr hy

end Go.Proofs.Ytkefpjbdkhifhaa
