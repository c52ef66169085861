/-
  A thing is put into the heap, in the program.
-/
import Derived.Test.YtcbaiagkdphkeaaHeapUp
namespace Go.Proofs.Ytcbaiagkdphkeaa
open Go.RowKit

theorem Hx.push {B : Bs} {w w' : World} {hb : Nat} {v : Value} {L : List Hp} {c : Int} {h : Hp} {g cap : Nat} {n1 : Nat} (H : Hx B hb w v L c) (hr : Rd .i64 w h.co h.ss.length h.ss) (hpos : 0 < h.ss.length) (haw : ∀ b off, h.co = some ⟨b, off, none⟩ → v.ownBlock ≠ some b ∧ b ≠ hb) (hn1 : n1 = (L ++ [h]).length)
    (o1 : w'.ownsRow B.W.heap.size 54 3 (.slice (some ⟨g, 0, none⟩) n1 cap) n1 (hpCells (L ++ [h]))) (g1 : w.grownBy w' v.ownBlock) (hat : v.ownBlock = some g ∨ w.heap.size ≤ g) :
    Hx B hb (w'.setCell ⟨hb, 0, none⟩ (.slice (some ⟨g, 0, none⟩) n1 cap)) (.slice (some ⟨g, 0, none⟩) n1 cap) (L ++ [h]) c := by
  subst hn1
  have hlt := H.lt
  have hgh : g ≠ hb := by
    rcases hat with e | e
    · intro e2; rw [e2] at e; exact H.ne e
    · omega
  have hall : ∀ x ∈ L ++ [h], Rd .i64 w x.co x.ss.length x.ss ∧ (∀ b off, x.co = some ⟨b, off, none⟩ → v.ownBlock ≠ some b ∧ b ≠ hb) ∧ 0 < x.ss.length := by
    intro x hx
    rcases List.mem_append.1 hx with hx | hx
    · exact ⟨H.syms.rd x hx, H.syms.away x hx, H.syms.pos x hx⟩
    · rw [List.mem_singleton] at hx
      subst hx
      exact ⟨hr, haw, hpos⟩
  have G2 := grown_set w' hb 0 (.slice (some ⟨g, 0, none⟩) (L ++ [h]).length cap)
  refine ⟨?_, ?_, ?_, ⟨fun x hx => ?_, fun x hx b off e => ?_, fun x hx => (hall x hx).2.2⟩, ?_, H.base, fun k o e => ?_⟩
  · exact own_beneath o1 G2 (fun k k' h1 h2 => by have e1 : g = k := Option.some.inj h1; have e2 : hb = k' := Option.some.inj h2; omega)
  · have hbx : w'.heap[hb]? = some (.cells #[v, .int .i64 c] 78 (0, 0)) := (g1.block hb hlt (fun e => H.ne e.symm)).trans H.box
    exact heap_setCell_same w' hb 0 _ _ _ hbx
  · intro e; exact hgh (Option.some.inj e)
  · obtain ⟨h1, h2, _⟩ := hall x hx
    exact rd_besideP (rd_besideP h1 g1 (fun b off e => (h2 b off e).1)) G2 (fun b off e => by intro e2; exact (h2 b off e).2 (Option.some.inj e2).symm)
  · obtain ⟨h1, h2, h3⟩ := hall x hx
    refine ⟨fun e2 => ?_, (h2 b off e).2⟩
    have e3 : g = b := Option.some.inj e2
    rcases hat with e4 | e4
    · exact (h2 b off e).1 (by rw [e4, e3])
    · have := h1.lt h3 b off e
      omega
  · exact grown_new (grown_new H.grown g1 (fun k e => (H.own.lt k e).1)) G2 (fun k e => by have := Option.some.inj e; have := H.base; omega)
  · obtain ⟨h1, h2, h3⟩ := H.frame k o e
    have hk := (Array.getElem?_eq_some_iff.1 h1).1
    have h4 := (g1.block k hk (fun e2 => h2 e2.symm)).trans h1
    refine ⟨(G2.block k (Array.getElem?_eq_some_iff.1 h4).1 (fun e2 => h3 (Option.some.inj e2))).trans h4, fun e2 => ?_, h3⟩
    have e3 : g = k := Option.some.inj e2
    rcases hat with e4 | e4
    · exact h2 (by rw [e4, e3])
    · omega

theorem step_append_hp {w : World} {ops : Array Oper} {o : Oper} {a : Act} {K : Act → World → Prop} {Q : Exit → Act → World → Prop} {E : Prop} (hgd : o.guard = none) (s x : Operand)
    (ho : o.op = .call { callee := .builtin .append, args := #[s, x], argTypes := #[76, 76] })
    (base : Nat) (v : Value) (L : List Hp) (hs : a.eval s = v) (hown : w.ownsRow base 54 3 v L.length (hpCells L)) (h : Hp) (m : Nat) (hm : h.ss.length = m) (H : Nat) (hx : a.eval x = .slice (some ⟨H, 0, none⟩) 1 1) (hH : w.heap.size = H) (hb : L.length ≤ 1000) (hbase : base ≤ w.heap.size)
    (hK : ∀ g cap w', w'.ownsRow base 54 3 (.slice (some ⟨g, 0, none⟩) (L.length + 1) cap) (L.length + 1) (hpCells (L ++ [h])) → w.grownBy w' v.ownBlock → (v.ownBlock = some g ∨ w.heap.size ≤ g) → K (a.put o.dst (.slice (some ⟨g, 0, none⟩) (L.length + 1) cap)) w') :
    if Region.wanted o (yielded ops a.tmps) = true then Oper.wp Try.prog o a (w.alloc (.cells #[.int .i64 h.w, .slice h.co m h.cap, .int .i64 h.c] 54)) K Q else E := by
  subst hm hH
  obtain ⟨i0, hi, hz0, hz1, hz2⟩ := info_parts info_hp
  refine step_append_lies _ hgd s x 76 ho base 54 i0 _ 3 40 Try.underlying76 hi hz0 hz1 hz2 rfl (by decide) v L.length _ hs (hown.alloc _) ⟨w.heap.size, 0, none⟩ 1 1 [.int .i64 h.w, .slice h.co h.ss.length h.cap, .int .i64 h.c] hx rfl (World.news_of_block (cs := #[.int .i64 h.w, .slice h.co h.ss.length h.cap, .int .i64 h.c]) (t := 54) (fr := (0, 0)) (heap_alloc_new w _)) (by intro u hu; simp at hu; rcases hu with rfl | rfl | rfl <;> rfl) (by omega) (by unfold maxLen; omega) (by omega) (by simp; omega) _ rfl ?_
  intro g cap w' h1 h2 h3 _
  refine hK g cap w' ?_ ?_ ?_
  · rw [hpCells_app]; exact h1
  · exact ⟨h2.os, h2.tape, h2.output, by have h := h2.size; simp at h; omega, fun k hk hr => (h2.block k (by simp; omega) hr).trans (Below.heap_alloc _ _ _ hk)⟩
  · rcases h3 with h3 | h3
    · exact .inl h3
    · exact .inr (by simp at h3; omega)

theorem asThing (x : Value) (w : World) : (Instr.typeAssert (.iface 54 x) 20 54 false).run Try.prog w = .ok x w := by kernel_rfl

set_option maxRecDepth 20000 in
set_option maxHeartbeats 1600000 in
theorem implThingsPush {B : Bs} {w : World} {hb : Nat} {L : List Hp} {c : Int} {v : Value} (H : Hx B hb w v L c) (hn : L.length ≤ 1000) (h : Hp) (m : Nat) (hm : Hid (h.ss.length = m)) (hr : Rd .i64 w h.co h.ss.length h.ss) (hpos : 0 < h.ss.length) (haw : ∀ b off, h.co = some ⟨b, off, none⟩ → v.ownBlock ≠ some b ∧ b ≠ hb) :
    Calls Try.prog 94 #[.pointer (some ⟨hb, 0, none⟩), .iface 54 (.agg #[.int .i64 h.w, .slice h.co m h.cap, .int .i64 h.c])] w fun e w' => e = .returned (.tuple #[]) ∧ ∃ v', Hx B hb w' v' (L ++ [h]) c := by
  have hc := H.cell.1
  have Hd : Hx B hb w.drew v L c := H.more (grown_drew (World.grownBy.refl _ _))
  have HX := hide H
  have HD := hide Hd
  have HN := hide hn
  have HFIN : Hid (∀ g cap w', w'.ownsRow B.W.heap.size 54 3 (.slice (some ⟨g, 0, none⟩) (L.length + 1) cap) (L.length + 1) (hpCells (L ++ [h])) → w.drew.grownBy w' v.ownBlock → (v.ownBlock = some g ∨ w.drew.heap.size ≤ g) → Hx B hb (w'.setCell ⟨hb, 0, none⟩ (.slice (some ⟨g, 0, none⟩) (L.length + 1) cap)) (.slice (some ⟨g, 0, none⟩) (L.length + 1) cap) (L ++ [h]) c) := fun g cap w' o1 g1 hat => Hx.push Hd hr hpos haw (by simp) o1 g1 hat
  obtain ⟨ao, cap, hv⟩ := H.form
  have hal : ∀ o, (w.drew.alloc o).cell? ⟨hb, 0, none⟩ = some v := fun o => (World.grownBy_alloc w.drew o none).cell hc (by simp)
  have HAL := hide hal
  clear H Hd hr hpos haw hn hal
  subst hv
  have hTA := fun w' => asThing (.agg #[.int .i64 h.w, .slice h.co m h.cap, .int .i64 h.c]) w'
  go_enter Try.func94, Try.ntmps94
  go_wp2
  refine wp_region_noPanic ?_
  refine wp_region_tailL 4 (fun w' => w'.cell? ⟨hb, 0, none⟩ = some (.slice ao L.length cap)) [true, true, true, true, true, true, false, false, false, false] (by kernel_rfl) (fun _ _ _ _ _ h => h) rfl (by decide) (by kernel_rfl) hc ?_
  iterate 6
    refine heldF_take (v := ?_) (Or.inl ⟨by rfl, ?_⟩) ?_
    rotate_left 1
    · intro w' hSw
      try dsimp only at hSw
      go_simp
      try with_reducible rfl
    simp only [Act.put, List.setIfInBounds_toArray, List.set_cons_zero, List.set_cons_succ]
  refine heldF_skip ?_
  refine heldF_skip ?_
  refine heldF_skip ?_
  refine heldF_skip ?_
  refine heldF_nil ?_
  iterate 6 refine tailL_skip ?_
  refine tailL_step (fun K hK => ?_)
  go_simp
  refine hK.out _ _ (.inr (unhide HAL _)) ?_
  clear hK K
  try simp only [Act.put, List.setIfInBounds_toArray, List.set_cons_zero, List.set_cons_succ]
  refine tailL_step (fun K hK => ?_)
  refine step_append_hp (by rfl) _ _ (by rfl) B.W.heap.size (.slice ao L.length cap) L (by rfl) (unhide HD).own h m (unhide hm) _ (by rfl) (by rfl) (unhide HN) (unhide HD).grown.size ?_
  intro g cap' w1 o1 g1 hat
  have HFI := hide (unhide HFIN g cap' w1 o1 g1 hat)
  have c1 : w1.cell? ⟨hb, 0, none⟩ = some (.slice ao L.length cap) := g1.cell hc (fun e => (unhide HX).ne e.symm)
  have f1 : w1.frozen? ⟨hb, 0, none⟩ = false := frozen_of_row w1 hb 0 _ _ ((g1.block hb (unhide HX).lt (fun e => (unhide HX).ne e.symm)).trans (unhide HX).box)
  clear HFIN o1 g1 hat
  refine hK.out _ _ (.inr c1) ?_
  clear hK K
  try simp only [Act.put, List.setIfInBounds_toArray, List.set_cons_zero, List.set_cons_succ]
  refine tailL_step (fun K hK => ?_)
  go_simp
  refine hK.out _ _ (.inr c1) ?_
  clear hK K
  try simp only [Act.put, List.setIfInBounds_toArray, List.set_cons_zero, List.set_cons_succ]
  refine tailL_step (fun K hK => ?_)
  go_simp
  refine hK.out _ _ (.inl rfl) ?_
  clear hK K
  refine tailL_nil (NoPanic.normal ?_)
  exact bodyPost_end (v := .tuple #[]) (by simp [results, Try.results94, go_sem]) rfl ⟨rfl, _, unhide HFI⟩

end Go.Proofs.Ytcbaiagkdphkeaa
