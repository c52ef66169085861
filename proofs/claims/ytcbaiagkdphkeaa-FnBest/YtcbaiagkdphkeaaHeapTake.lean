/-
  All things are taken out of the heap, in the program.
-/
import Derived.Test.YtcbaiagkdphkeaaHeapAdd
namespace Go.Proofs.Ytcbaiagkdphkeaa
open Go.RowKit

/-- A heap that is being emptied into a list. -/
structure Tk (B : Bs) (hb s0 : Nat) (w : World) (v u : Value) (M O : List Hp) (c : Int) : Prop where
  hx : Hx B hb w v M c
  own : w.ownsRow s0 54 3 u O.length (hpCells O)
  ne : ∀ g, u.ownBlock = some g → v.ownBlock ≠ some g ∧ g ≠ hb
  symsO : Syms w v.ownBlock hb O
  awayU : ∀ x, x ∈ O ∨ x ∈ M → ∀ b off, x.co = some ⟨b, off, none⟩ → u.ownBlock ≠ some b
  fr : ∀ k o, B.F k = some o → u.ownBlock ≠ some k
  low : B.W.heap.size ≤ s0
theorem Tk.more {B : Bs} {hb s0 : Nat} {w w' : World} {v u : Value} {M O : List Hp} {c : Int} (h : Tk B hb s0 w v u M O c) (g : w.grownBy w' none) : Tk B hb s0 w' v u M O c :=
  ⟨h.hx.more g, own_grown h.own g, h.ne, ⟨fun x hx => (h.symsO.rd x hx).grown g, h.symsO.away, h.symsO.pos⟩, h.awayU, h.fr, h.low⟩

/-- What is left behind a thing that was taken out. -/
theorem Tk.pop {B : Bs} {hb s0 : Nat} {w w' : World} {v u v' : Value} {M O M' : List Hp} {x : Hp} {c : Int} (h : Tk B hb s0 w v u M O c) (h' : Hx ⟨B.W, frAll w v hb⟩ hb w' v' M' c) (hp : (x :: M').Perm M) :
    Tk B hb s0 w' v' u M' O c ∧ Syms w' v'.ownBlock hb [x] ∧ (∀ b off, x.co = some ⟨b, off, none⟩ → u.ownBlock ≠ some b) := by
  have hxm : x ∈ M := hp.subset (by simp)
  have hmm : ∀ y ∈ M', y ∈ M := fun y hy => hp.subset (by simp [hy])
  have hb1 : ∀ g, u.ownBlock = some g → w'.heap[g]? = w.heap[g]? ∧ v'.ownBlock ≠ some g := fun g e => h'.kept (h.own.lt g e).2 (h.ne g e).1 (h.ne g e).2
  refine ⟨⟨h.hx.frBack h', ?_, fun g e => ⟨(hb1 g e).2, (h.ne g e).2⟩, h.symsO.kept h', fun y hy b off e => h.awayU y (hy.imp id (hmm y)) b off e, h.fr, h.low⟩, ?_, fun b off e => h.awayU x (.inr hxm) b off e⟩
  · refine ⟨h.own.1, ?_⟩
    rcases h.own.2 with ⟨h1, h2⟩ | ⟨g, cap, cur, h1, h2, h3, h4⟩
    · exact .inl ⟨h1, h2⟩
    · exact .inr ⟨g, cap, cur, h1, h2, (hb1 g (by rw [h1]; rfl)).1.trans h3, h4⟩
  · exact (h.hx.syms.perm (M := [x]) (fun y hy => by rw [List.mem_singleton] at hy; rw [hy]; exact hxm)).kept h'

/-- It comes behind the list. -/
theorem Tk.app {B : Bs} {hb s0 : Nat} {w w' : World} {v u : Value} {M O : List Hp} {x : Hp} {c : Int} {g cap n1 : Nat} (h : Tk B hb s0 w v u M O c) (hs : Syms w v.ownBlock hb [x]) (hu : ∀ b off, x.co = some ⟨b, off, none⟩ → u.ownBlock ≠ some b)
    (hn1 : n1 = (O ++ [x]).length) (o1 : w'.ownsRow s0 54 3 (.slice (some ⟨g, 0, none⟩) n1 cap) n1 (hpCells (O ++ [x]))) (g1 : w.grownBy w' u.ownBlock) (hat : u.ownBlock = some g ∨ w.heap.size ≤ g) :
    Tk B hb s0 w' v (.slice (some ⟨g, 0, none⟩) n1 cap) M (O ++ [x]) c := by
  subst hn1
  have hS : ∀ y, y ∈ O ++ [x] ∨ y ∈ M → Rd .i64 w y.co y.ss.length y.ss ∧ (∀ b off, y.co = some ⟨b, off, none⟩ → v.ownBlock ≠ some b ∧ b ≠ hb) ∧ 0 < y.ss.length ∧ ∀ b off, y.co = some ⟨b, off, none⟩ → u.ownBlock ≠ some b := by
    intro y hy
    rcases hy with hy | hy
    · rcases List.mem_append.1 hy with hy | hy
      · exact ⟨h.symsO.rd y hy, h.symsO.away y hy, h.symsO.pos y hy, h.awayU y (.inl hy)⟩
      · have e := List.mem_singleton.1 hy
        exact ⟨hs.rd y hy, hs.away y hy, hs.pos y hy, by rw [e]; exact hu⟩
    · exact ⟨h.hx.syms.rd y hy, h.hx.syms.away y hy, h.hx.syms.pos y hy, h.awayU y (.inr hy)⟩
  have hvu : ∀ k, v.ownBlock = some k → u.ownBlock ≠ some k := fun k e e2 => (h.ne k e2).1 e
  have hub : u.ownBlock ≠ some hb := fun e => (h.ne hb e).2 rfl
  have hlt := h.hx.lt
  refine ⟨⟨?_, ?_, h.hx.ne, ⟨fun y hy => ?_, fun y hy => (hS y (.inr hy)).2.1, fun y hy => (hS y (.inr hy)).2.2.1⟩, ?_, h.hx.base, fun k o e => ?_⟩, o1, fun k e => ?_, ⟨fun y hy => ?_, fun y hy => (hS y (.inl hy)).2.1, fun y hy => (hS y (.inl hy)).2.2.1⟩, fun y hy b off e e2 => ?_, fun k o e e2 => ?_, h.low⟩
  · exact own_beneath h.hx.own g1 (fun k k' h1 h2 e => hvu k h1 (by rw [e]; exact h2))
  · exact (g1.block hb hlt (fun e => hub e.symm)).trans h.hx.box
  · exact rd_besideP (hS y (.inr hy)).1 g1 (hS y (.inr hy)).2.2.2
  · exact grown_new h.hx.grown g1 (fun k e => by have := (h.own.lt k e).1; have := h.low; omega)
  · obtain ⟨h1, h2, h3⟩ := h.hx.frame k o e
    exact ⟨(g1.block k (Array.getElem?_eq_some_iff.1 h1).1 (fun e2 => h.fr k o e e2.symm)).trans h1, h2, h3⟩
  · have e3 : g = k := Option.some.inj e
    subst e3
    rcases hat with e4 | e4
    · exact h.ne g e4
    · exact ⟨fun e5 => by have := (h.hx.own.lt g e5).2; omega, by omega⟩
  · exact rd_besideP (hS y (.inl hy)).1 g1 (hS y (.inl hy)).2.2.2
  · have e3 : g = b := Option.some.inj e2
    obtain ⟨r1, _, r3, r4⟩ := hS y hy
    rcases hat with e4 | e4
    · exact r4 b off e (by rw [e4, e3])
    · have := r1.lt r3 b off e
      omega
  · have e3 : g = k := Option.some.inj e2
    rcases hat with e4 | e4
    · exact h.fr k o e (by rw [e4, e3])
    · have := (Array.getElem?_eq_some_iff.1 (h.hx.frame k o e).1).1
      omega

theorem append_hpL {w : World} {ops : Array Oper} {rest : List Oper} {o : Oper} {a : Act} {Q : Exit → Act → World → Prop} (hgd : o.guard = none) (s x : Operand)
    (ho : o.op = .call { callee := .builtin .append, args := #[s, x], argTypes := #[50, 50] })
    (base : Nat) (v : Value) (L : List Hp) (hs : a.eval s = v) (hown : w.ownsRow base 54 3 v L.length (hpCells L)) (h : Hp) (m : Nat) (hm : h.ss.length = m) (hx : a.eval x = .slice (some ⟨w.heap.size, 0, none⟩) 1 1) (hb : L.length ≤ 1000) (hbase : base ≤ w.heap.size)
    (hK : ∀ g cap w', w'.ownsRow base 54 3 (.slice (some ⟨g, 0, none⟩) (L.length + 1) cap) (L.length + 1) (hpCells (L ++ [h])) → w.grownBy w' v.ownBlock → (v.ownBlock = some g ∨ w.heap.size ≤ g) → wpList Try.prog ops Q rest (a.put o.dst (.slice (some ⟨g, 0, none⟩) (L.length + 1) cap)) w') :
    wpList Try.prog ops Q (o :: rest) a (w.alloc (.cells #[.int .i64 h.w, .slice h.co m h.cap, .int .i64 h.c] 54)) := by
  subst hm
  obtain ⟨i0, hi, hz0, hz1, hz2⟩ := info_parts info_hp
  refine wpList_append_own_at _ hgd s x 50 ho base 54 i0 _ 3 40 Try.underlying50 hi hz0 hz1 hz2 rfl (by decide) v L.length _ hs (hown.alloc _) ⟨w.heap.size, 0, none⟩ 1 1 [.int .i64 h.w, .slice h.co h.ss.length h.cap, .int .i64 h.c] hx rfl (World.news_of_block (cs := #[.int .i64 h.w, .slice h.co h.ss.length h.cap, .int .i64 h.c]) (t := 54) (fr := (0, 0)) (heap_alloc_new w _)) (by intro u hu; simp at hu; rcases hu with rfl | rfl | rfl <;> rfl) (by unfold maxLen; omega) (by omega) (by simp; omega) ?_
  intro v' w' h1 h2 _ h4
  rcases h1.2 with ⟨_, e0⟩ | ⟨g, cap, cur, e1, _⟩
  · omega
  subst e1
  refine hK g cap w' ?_ ?_ ?_
  · rw [hpCells_app]; exact h1
  · exact ⟨h2.os, h2.tape, h2.output, by have h := h2.size; simp at h; omega, fun k hk hr => (h2.block k (by simp; omega) hr).trans (Below.heap_alloc _ _ _ hk)⟩
  · rcases h4 with h4 | h4
    · exact .inl h4.symm
    · have e : g = (w.alloc (.cells #[.int .i64 h.w, .slice h.co h.ss.length h.cap, .int .i64 h.c] 54)).heap.size := Option.some.inj h4
      exact .inr (by simp at e; omega)

/-- Sorted, and none of the rest is less. -/
def SortedTo (O M : List Hp) : Prop := O.Pairwise (fun a b => ltH b a = false) ∧ ∀ x ∈ O, ∀ y ∈ M, ltH y x = false
theorem sorted_step {O M M' : List Hp} {x : Hp} (h : SortedTo O M) (hp : (x :: M').Perm M) (hx : ∀ y ∈ M, ltH y x = false) : SortedTo (O ++ [x]) M' := by
  have hxm : x ∈ M := hp.subset (by simp)
  have hmm : ∀ y ∈ M', y ∈ M := fun y hy => hp.subset (by simp [hy])
  refine ⟨List.pairwise_append.2 ⟨h.1, by simp, fun a ha b hb => ?_⟩, fun a ha y hy => ?_⟩
  · rw [List.mem_singleton] at hb; rw [hb]; exact h.2 a ha x hxm
  · rcases List.mem_append.1 ha with ha | ha
    · exact h.2 a ha y (hmm y hy)
    · rw [List.mem_singleton] at ha; rw [ha]; exact hx y (hmm y hy)

theorem own_capH {w : World} {base : Nat} {e : TypeId} {size n cap : Nat} {ao : Option Addr} {xs : List Value} (h : w.ownsRow base e size (.slice ao n cap) n xs) : n ≤ cap ∧ cap ≤ maxLen := by
  rcases h.2 with ⟨h1, h2⟩ | ⟨g, c, cur, h1, _, _, h4, h5, _⟩
  · simp only [Value.slice.injEq] at h1
    obtain ⟨_, _, rfl⟩ := h1
    exact ⟨by omega, by unfold maxLen; omega⟩
  · simp only [Value.slice.injEq] at h1
    obtain ⟨_, _, rfl⟩ := h1
    exact ⟨h4, h5⟩
/-- A list of things that was made: it is read, with its symbols. -/
structure Lst (w : World) (u : Value) (R : List Hp) : Prop where
  form : ∃ ao cap, u = .slice ao R.length cap ∧ RdP w ao R.length R ∧ R.length ≤ cap ∧ cap ≤ maxLen
  rd : ∀ x ∈ R, Rd .i64 w x.co x.ss.length x.ss
  pos : ∀ x ∈ R, 0 < x.ss.length
theorem Lst.more {w w' : World} {u : Value} {R : List Hp} (h : Lst w u R) (g : w.grownBy w' none) : Lst w' u R := by
  obtain ⟨ao, cap, e, hr, hc⟩ := h.form
  exact ⟨⟨ao, cap, e, hr.grown g, hc⟩, fun x hx => (h.rd x hx).grown g, h.pos⟩

set_option maxRecDepth 20000 in
set_option maxHeartbeats 3200000 in
theorem implTakeAll {B : Bs} {w : World} {hb : Nat} {L : List Hp} {c : Int} {v : Value} (H : Hx B hb w v L c) (hN : HeapN L L.length) (hn : L.length ≤ 900) :
    Calls Try.prog 58 #[.pointer (some ⟨hb, 0, none⟩)] w fun e w' => ∃ u R, e = .returned u ∧ Lst w' u R ∧ B.W.grownBy w' none ∧ R.Perm L ∧ R.Pairwise (fun a b => ltH b a = false) ∧ ∀ k o, B.F k = some o → w'.heap[k]? = some o := by
  obtain ⟨ao, cap, rfl⟩ := H.form
  obtain ⟨n, HLn⟩ : ∃ n, Hid (L.length = n) := ⟨_, rfl⟩
  rw [unhide HLn] at hn H
  have c0 := H.cell.1
  have hNn : HeapN L n := by rw [← unhide HLn]; exact hN
  have HN := hide hNn
  have HX := hide H
  obtain ⟨i0, hi, hz0, hz1, hz2⟩ := info_parts info_hp
  clear H hN hNn
  go_enter Try.func58, Try.ntmps58
  go_wp2_with fail
  refine (implLen ao n cap w).mono ?_
  rintro e w1 ⟨rfl, rfl⟩
  go_wp2_with (at_make; refine wpList_make_own _ rfl _ _ 50 rfl w1.heap.size 54 i0 (.agg #[.int .i64 0, .slice none 0 0, .int .i64 0]) 3 Try.underlying50 hi hz0 hz1 .i64 .i64 _ n rfl rfl (by omega) (by rw [hz2]; omega) (by unfold maxLen; omega) (Nat.le_refl _) ?_)
  intro w2 hown hgrow
  have HTK : Hid (Tk B hb w1.heap.size w2 (.slice ao n cap) (.slice (some ⟨w1.heap.size, 0, none⟩) 0 n) L [] c) := by
    have hx2 := (unhide HX).more hgrow
    have hlt := (unhide HX).lt
    refine ⟨hx2, hown, fun g e => ?_, ⟨fun x hx => by simp at hx, fun x hx => by simp at hx, fun x hx => by simp at hx⟩, fun x hx b off e e2 => ?_, fun k o e e2 => ?_, (unhide HX).grown.size⟩
    · have e3 : w1.heap.size = g := Option.some.inj e
      exact ⟨fun e4 => by have := ((unhide HX).own.lt g e4).2; omega, by omega⟩
    · have e3 : w1.heap.size = b := Option.some.inj e2
      rcases hx with hx | hx
      · simp at hx
      · have := ((unhide HX).syms.rd x hx).lt ((unhide HX).syms.pos x hx) b off e
        omega
    · have e3 : w1.heap.size = k := Option.some.inj e2
      have := (Array.getElem?_eq_some_iff.1 ((unhide HX).frame k o e).1).1
      omega
  have HS0 : Hid (SortedTo [] L) := ⟨List.Pairwise.nil, fun x hx => by simp at hx⟩
  have HP0 : Hid (([] ++ L).Perm L) := List.Perm.refl _
  clear hown hgrow HX hi hz0 hz1 hz2 c0
  go_wp2
  go_loopw [3] (fun uv wr => ∃ (u v : Value) (M O : List Hp) (k : Nat), k ≤ n ∧ uv = u ∧ (∃ g, u.ownBlock = some g) ∧ Hid (M.length = k) ∧ Hid (Tk B hb w1.heap.size wr v u M O c) ∧ Hid (HeapN M k) ∧ Hid (SortedTo O M) ∧ Hid ((O ++ M).Perm L)) (fun _ wr => match wr.cell? ⟨hb, 0, none⟩ with | some (.slice _ m _) => m | _ => 0)
  case atStart => exact ⟨_, _, L, [], n, Nat.le_refl _, rfl, ⟨_, rfl⟩, HLn, HTK, HN, HS0, HP0⟩
  case round =>
    clear HTK HS0 HP0 HN
    obtain ⟨u, v, M, O, k, hk, rfl, ⟨gu, hgu⟩, hMl, htk, hN, hso, hpe⟩ := hrel
    have HOL : Hid (O.length + k = n) := by
      have h1 := (unhide hpe).length_eq
      rw [List.length_append, unhide hMl, unhide HLn] at h1
      exact h1
    obtain ⟨vo, vc, rfl⟩ := (unhide htk).hx.form
    obtain ⟨uo, uc, rfl⟩ := own_form (unhide htk).own
    rw [unhide hMl] at htk
    have HGU := hide hgu
    clear hgu
    have d0 := (unhide htk).hx.cell.1
    cases k with
    | zero =>
      have hM0 : M = [] := List.length_eq_zero_iff.1 (unhide hMl)
      have HF : Hid (∃ u' R, Value.slice uo O.length uc = u' ∧ Lst wr u' R ∧ B.W.grownBy wr none ∧ R.Perm L ∧ R.Pairwise (fun a b => ltH b a = false) ∧ ∀ k o, B.F k = some o → wr.heap[k]? = some o) := by
        refine ⟨_, O, rfl, ⟨⟨uo, uc, rfl, own_rdT (unhide htk).own, own_capH (unhide htk).own⟩, (unhide htk).symsO.rd, (unhide htk).symsO.pos⟩, (unhide htk).hx.grown, ?_, (unhide hso).1, fun k o e => ((unhide htk).hx.frame k o e).1⟩
        have := unhide hpe
        rw [hM0, List.append_nil] at this
        exact this
      generalize O.length = ol at *
      clear hMl htk hN hso hpe HOL hM0
      go_wp2_with fail
      refine (implLen vo 0 vc wr).mono ?_
      rintro e w3 ⟨rfl, rfl⟩
      go_wp2
      go_ret
      obtain ⟨u', R, q0, q1, q2, q3, q4, q5⟩ := unhide HF
      exact ⟨u', R, by rw [← q0]; rfl, q1, q2, q3, q4, q5⟩
    | succ k =>
      have hd : decide ((0 : Int) < ((k + 1 : Nat) : Int)) = true := decide_eq_true (by omega)
      have HPOP := hide (implHeapPop (n := k) (unhide htk).hx.all (unhide hMl) (unhide hN) (by omega))
      have hol : O.length ≤ 1000 := by have := unhide HOL; omega
      have HOB := hide hol
      clear hol
      go_wp2_with fail
      refine (implLen vo (k + 1) vc wr).mono ?_
      rintro e w3 ⟨rfl, rfl⟩
      go_wp2_with fail
      refine (unhide HPOP).mono ?_
      rintro e w4 ⟨x, v4, M4, rfl, hx4, hl4, hp4, hn4, hmin⟩
      obtain ⟨tk4, sx4, ux4⟩ := (unhide htk).pop hx4 hp4
      have HTK4 := hide tk4
      have HSX := hide sx4
      have HUX := hide ux4
      have HSO4 := hide (sorted_step (unhide hso) hp4 hmin)
      have HPE4 : Hid (((O ++ [x]) ++ M4).Perm L) := by
        unfold Hid
        rw [List.append_assoc]
        exact (hp4.append_left O).trans (unhide hpe)
      have HL4 := hide hl4
      have HN4 := hide hn4
      obtain ⟨m, HM⟩ : ∃ m, Hid (x.ss.length = m) := ⟨_, rfl⟩
      rw [unhide HM]
      have HD0 := hide d0
      have hTA := fun w' => asThing (.agg #[.int .i64 x.w, .slice x.co m x.cap, .int .i64 x.c]) w'
      clear tk4 sx4 ux4 hx4 hl4 hp4 hn4 hmin hMl htk hN hso hpe HPOP d0
      go_wp2_with (at_builtin; refine append_hpL rfl _ _ rfl w1.heap.size (.slice uo O.length uc) O rfl (unhide HTK4).own x m (unhide HM) rfl (unhide HOB) (Nat.le_of_lt (Nat.lt_of_le_of_lt ((unhide HTK4).own.lt gu (unhide HGU)).1 ((unhide HTK4).own.lt gu (unhide HGU)).2)) ?_)
      intro g5 c5 w5 o5 g5w hat5
      have HTK5 := hide ((unhide HTK4).app (unhide HSX) (unhide HUX) (by simp) o5 g5w hat5)
      have d5 := (unhide HTK5).hx.cell.1
      obtain ⟨v4o, v4c, rfl⟩ := (unhide HTK5).hx.form
      rw [unhide HL4] at d5
      clear o5 g5w hat5 HTK4 HSX HUX
      go_wp2
      go_roundw
      case rel => exact ⟨_, _, M4, O ++ [x], k, by omega, rfl, ⟨g5, rfl⟩, HL4, HTK5, HN4, HSO4, HPE4⟩
      case measure =>
        have h0 := unhide HD0
        simp only [d5, h0]
        omega

end Go.Proofs.Ytcbaiagkdphkeaa
