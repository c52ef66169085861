/-
  A number's bins told in the program: a closure that knows its base.
-/
import Derived.Test.YtekidfkahpaokaaNumsGive
import Derived.Test.YtekidfkahpaokaaRunImpl
namespace Go.Proofs.Ytekidfkahpaokaa
open Go.RowKit

theorem at_new {w w' : World} {row : Option Nat} {k : Nat} {o : Obj} (g : w.grownBy w' row) (h : w.heap[k]? = some o) (hne : row ≠ some k) : w'.heap[k]? = some o :=
  (g.block k (Array.getElem?_eq_some_iff.1 h).1 (fun e => hne e.symm)).trans h
theorem all_take10 {f : Int → Bool} {xs : List Int} {k : Nat} (hk : k < xs.length) : (xs.take (k + 1)).all f = ((xs.take k).all f && f (xs.getD k 0)) := by
  rw [List.take_add_one, List.all_append, List.getElem?_eq_getElem hk]
  simp [hk]

/-- A list of bins of one's own, told in a box. -/
structure Tb (B : World) (pb : Nat) (w : World) (v : Value) (X : List (Int × Int)) : Prop where
  own : w.ownsRow B.heap.size 30 2 v X.length (flat X)
  box : w.heap[pb]? = some (.cells #[v] 27 (0, 0))
  ne : v.ownBlock ≠ some pb
  grown : B.grownBy w none
  base : B.heap.size ≤ pb

theorem Tb.new {B w w' : World} {pb : Nat} {v : Value} {X : List (Int × Int)} (h : Tb B pb w v X) (g : w.grownBy w' none) : Tb B pb w' v X :=
  ⟨own_grown h.own g, at_new g h.box (by simp), h.ne, grown_trans h.grown g, h.base⟩

/-- The teller: the list in its box, the base and the way to the list in theirs. -/
structure Tl (B : World) (pb bb fb b : Nat) (w : World) (v : Value) (X : List (Int × Int)) : Prop where
  tb : Tb B pb w v X
  bbx : w.heap[bb]? = some (.cells #[.int .i64 (b : Int)] 3 (0, 0))
  fbx : w.heap[fb]? = some (.cells #[.func (.func 34) #[] #[.pointer (some ⟨pb, 0, none⟩)]] 55 (0, 0))
  n2 : v.ownBlock ≠ some bb
  n3 : v.ownBlock ≠ some fb
  m2 : bb ≠ pb
  m3 : fb ≠ pb

theorem Tl.new {B w w' : World} {pb bb fb b : Nat} {v : Value} {X : List (Int × Int)} (h : Tl B pb bb fb b w v X) (g : w.grownBy w' none) : Tl B pb bb fb b w' v X :=
  ⟨h.tb.new g, at_new g h.bbx (by simp), at_new g h.fbx (by simp), h.n2, h.n3, h.m2, h.m3⟩

theorem append_binH {w : World} {ops : Array Oper} {rest : List Oper} {o : Oper} {a : Act} {Q : Exit → Act → World → Prop} (hgd : o.guard = none) (s x : Operand)
    (ho : o.op = .call { callee := .builtin .append, args := #[s, x], argTypes := #[27, 27] })
    (B : Nat) (v : Value) (X : List (Int × Int)) (hs : a.eval s = v) (hown : w.ownsRow B 30 2 v X.length (flat X)) (p q : Int) (sz : Nat) (hsz : w.heap.size = sz) (hx : a.eval x = .slice (some ⟨sz, 0, none⟩) 1 1)
    (hb : X.length ≤ 1000000) (hB : B ≤ w.heap.size) (R : List (Int × Int)) (hR : X ++ [(p, q)] = R)
    (h : ∀ v' w', w'.ownsRow B 30 2 v' R.length (flat R) → w.grownBy w' v.ownBlock → (v'.ownBlock = v.ownBlock ∨ ∃ g, v'.ownBlock = some g ∧ w.heap.size ≤ g) → wpList Try.prog ops Q rest (a.put o.dst v') w') :
    wpList Try.prog ops Q (o :: rest) a (w.alloc (.cells #[.int .i64 p, .int .i64 q] 30)) := by
  subst hR
  subst hsz
  obtain ⟨i0, hi, hz0, hz1, hz2⟩ := info_parts info_bin
  refine wpList_append_own_at _ hgd s x 27 ho B 30 i0 _ 2 16 Try.underlying27 hi hz0 hz1 hz2 rfl (by decide) v X.length _ hs (hown.alloc _) ⟨w.heap.size, 0, none⟩ 1 1 [.int .i64 p, .int .i64 q] hx rfl (World.news_of_block (cs := #[.int .i64 p, .int .i64 q]) (t := 30) (fr := (0, 0)) (heap_alloc_new w _)) (by intro u hu; simp at hu; rcases hu with rfl | rfl <;> rfl) (by unfold maxLen; omega) (by omega) (by simp; omega) ?_
  intro v' w' h1 h2 _ h4
  have hga : w.grownBy w' v.ownBlock := ⟨h2.os, h2.tape, h2.output, by have h := h2.size; simp at h; omega, fun k hk hr => (h2.block k (by simp; omega) hr).trans (Below.heap_alloc _ _ _ hk)⟩
  refine h v' w' ?_ hga ?_
  · rw [flat_append, List.length_append]
    exact h1
  · rcases h4 with h4 | h4
    · exact .inl h4
    · exact .inr ⟨_, h4, by simp⟩

set_option maxHeartbeats 1600000 in
theorem implPut10 {B w : World} {pb bb fb b : Nat} {v : Value} {X : List (Int × Int)} (ht : Tl B pb bb fb b w v X) (c q : Int) (hb : X.length ≤ 1000000) :
    Calls Try.prog 34 #[.agg #[.int .i64 c, .int .i64 q], .pointer (some ⟨pb, 0, none⟩)] w fun e w' => e = .returned (.tuple #[]) ∧ ∃ v', Tl B pb bb fb b w' v' (X ++ [(c, q)]) := by
  obtain ⟨so, sc, rfl⟩ := own_form ht.tb.own
  obtain ⟨R, HR⟩ : ∃ R, Hid (X ++ [(c, q)] = R) := ⟨_, rfl⟩
  rw [unhide HR]
  have h1 : Tl B pb bb fb b (w.alloc (.cells #[.int .i64 c, .int .i64 q] 30)) (.slice so X.length sc) X := ht.new (World.grownBy_alloc _ _ _)
  have c0 : (w.alloc (.cells #[.int .i64 c, .int .i64 q] 30)).cell? ⟨pb, 0, none⟩ = some (.slice so X.length sc) := by rw [cell_of_row _ pb 0 _ _ (0, 0) h1.tb.box]; rfl
  have hbx : (w.alloc (.cells #[.int .i64 c, .int .i64 q] 30)).heap[w.heap.size]? = some (.cells #[.int .i64 c, .int .i64 q] 30 (0, 0)) := heap_alloc_new w _
  have hlt : pb < w.heap.size ∧ bb < w.heap.size ∧ fb < w.heap.size := ⟨(Array.getElem?_eq_some_iff.1 ht.tb.box).1, (Array.getElem?_eq_some_iff.1 ht.bbx).1, (Array.getElem?_eq_some_iff.1 ht.fbx).1⟩
  have HT := hide h1
  clear ht h1
  go_enter Try.func34, Try.ntmps34
  go_wp2_with (at_builtin; refine append_binH rfl _ _ rfl B.heap.size (.slice so X.length sc) X rfl (unhide HT).tb.own c q (w.heap.size + 1) (by simp) rfl hb (unhide HT).tb.grown.size R (unhide HR) ?_)
  intro v' w1 ho1 hg1 hat
  obtain ⟨so1, sc1, rfl⟩ := own_form ho1
  have hbox : w1.heap[pb]? = some (.cells #[.slice so X.length sc] 27 (0, 0)) := at_new hg1 (unhide HT).tb.box (unhide HT).tb.ne
  have c1 : w1.cell? ⟨pb, 0, none⟩ = some (.slice so X.length sc) := by rw [cell_of_row w1 pb 0 _ _ (0, 0) hbox]; rfl
  have c2 : w1.frozen? ⟨pb, 0, none⟩ = false := frozen_of_row w1 pb 0 _ _ hbox
  have far : ∀ k, k < w.heap.size → (Value.slice so X.length sc).ownBlock ≠ some k → (Value.slice so1 R.length sc1).ownBlock ≠ some k := by
    intro k hk hn
    rcases hat with h | ⟨g, h, hg⟩
    · rw [h]; exact hn
    · rw [h]; intro e; have := Option.some.inj e; have := Nat.le_trans (Nat.le_succ _) hg; omega
  have hb2 := at_new hg1 (unhide HT).bbx (unhide HT).n2
  have hf2 := at_new hg1 (unhide HT).fbx (unhide HT).n3
  have HB2 := hide hb2
  have HF2 := hide hf2
  have HFAR := hide far
  have HO1 := hide ho1
  have HBX := hide hbox
  have HG1 : Hid (B.grownBy w1 none) := grown_new (unhide HT).tb.grown hg1 (fun g e => ((unhide HT).tb.own.lt g e).1)
  have HF : Hid (Tl B pb bb fb b (w1.setCell ⟨pb, 0, none⟩ (.slice so1 R.length sc1)) (.slice so1 R.length sc1) R) := by
    have gs := grown_set w1 pb 0 (.slice so1 R.length sc1)
    refine ⟨⟨?_, heap_setCell_same w1 pb 0 _ _ _ (unhide HBX), unhide HFAR pb hlt.1 (unhide HT).tb.ne, grown_new (unhide HG1) gs (fun g e => by simp at e; have := (unhide HT).tb.base; omega), (unhide HT).tb.base⟩, at_new gs (unhide HB2) (fun e => (unhide HT).m2 (Option.some.inj e).symm), at_new gs (unhide HF2) (fun e => (unhide HT).m3 (Option.some.inj e).symm), unhide HFAR bb hlt.2.1 (unhide HT).n2, unhide HFAR fb hlt.2.2 (unhide HT).n3, (unhide HT).m2, (unhide HT).m3⟩
    exact own_beneath (unhide HO1) gs (fun g g' h h' => by simp at h'; subst h'; intro e; exact unhide HFAR _ hlt.1 (unhide HT).tb.ne (e ▸ h))
  clear HB2 HF2 HFAR HO1 HBX HG1 hb2 hf2 far ho1 hbox hg1 hat HT c0 hbx
  go_wp2
  exact bodyPost_end (v := .tuple #[]) (by simp [results, Try.results34, go_sem]) rfl ⟨rfl, _, unhide HF⟩

set_option maxHeartbeats 1600000 in
theorem implTell10 {B w : World} {pb bb fb b : Nat} {v : Value} {X : List (Int × Int)} (ht : Tl B pb bb fb b w v X) (hbb : b ≤ 380) (c q : Int) (hc : 0 ≤ c ∧ c ≤ 18) (hb : X.length ≤ 1000000) :
    Calls Try.prog 54 #[.int .i64 c, .int .i64 q, .pointer (some ⟨fb, 0, none⟩), .pointer (some ⟨bb, 0, none⟩)] w fun e w' => e = .returned (.tuple #[]) ∧ ∃ v', Tl B pb bb fb b w' v' (X ++ [((b : Int) + c, q)]) := by
  have c0 : w.cell? ⟨bb, 0, none⟩ = some (.int .i64 (b : Int)) := by rw [cell_of_row w bb 0 _ _ (0, 0) ht.bbx]; rfl
  have c1 : w.cell? ⟨fb, 0, none⟩ = some (.func (.func 34) #[] #[.pointer (some ⟨pb, 0, none⟩)]) := by rw [cell_of_row w fb 0 _ _ (0, 0) ht.fbx]; rfl
  have e1 := i64_in ((b : Int) + c) (by omega)
  have HP := hide (implPut10 ht ((b : Int) + c) q hb)
  clear ht
  go_enter Try.func54, Try.ntmps54
  go_wp2_with fail
  refine (unhide HP).mono ?_
  rintro e w1 ⟨rfl, v', h1⟩
  have H1 := hide h1
  clear h1 HP
  go_wp2
  exact bodyPost_end (v := .tuple #[]) (by simp [results, Try.results54, go_sem]) rfl ⟨rfl, _, unhide H1⟩

theorem implTellerOf {B w : World} {pb : Nat} {v : Value} {X : List (Int × Int)} (ht : Tb B pb w v X) (b : Nat) :
    Calls Try.prog 33 #[.int .i64 (b : Int), .func (.func 34) #[] #[.pointer (some ⟨pb, 0, none⟩)]] w fun e w' => ∃ bb fb, e = .returned (.func (.func 54) #[] #[.pointer (some ⟨fb, 0, none⟩), .pointer (some ⟨bb, 0, none⟩)]) ∧ Tl B pb bb fb b w' v X := by
  obtain ⟨W, HW⟩ : ∃ W, Hid ((w.alloc (.cells #[.int .i64 (b : Int)] 3)).alloc (.cells #[.func (.func 34) #[] #[.pointer (some ⟨pb, 0, none⟩)]] 55) = W) := ⟨_, rfl⟩
  have HF : Hid (Tl B pb w.heap.size (w.heap.size + 1) b ((w.alloc (.cells #[.int .i64 (b : Int)] 3)).alloc (.cells #[.func (.func 34) #[] #[.pointer (some ⟨pb, 0, none⟩)]] 55)) v X) := by
    have g1 : w.grownBy (w.alloc (.cells #[.int .i64 (b : Int)] 3)) none := World.grownBy_alloc _ _ _
    have g2 : (w.alloc (.cells #[.int .i64 (b : Int)] 3)).grownBy ((w.alloc (.cells #[.int .i64 (b : Int)] 3)).alloc (.cells #[.func (.func 34) #[] #[.pointer (some ⟨pb, 0, none⟩)]] 55)) none := World.grownBy_alloc _ _ _
    have hlt : pb < w.heap.size := (Array.getElem?_eq_some_iff.1 ht.box).1
    have hs : (w.alloc (.cells #[.int .i64 (b : Int)] 3)).heap.size = w.heap.size + 1 := by simp
    have hn := heap_alloc_new (w.alloc (.cells #[.int .i64 (b : Int)] 3)) (.cells #[.func (.func 34) #[] #[.pointer (some ⟨pb, 0, none⟩)]] 55)
    rw [hs] at hn
    exact ⟨(ht.new g1).new g2, at_new g2 (heap_alloc_new w _) (by simp), hn, fun e => by have := (ht.own.lt _ e).2; omega, fun e => by have := (ht.own.lt _ e).2; omega, by omega, by omega⟩
  clear ht HW W
  go_enter Try.func33, Try.ntmps33
  go_wp2
  go_ret
  exact ⟨_, _, rfl, unhide HF⟩

end Go.Proofs.Ytekidfkahpaokaa
