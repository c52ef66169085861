/-
  The walk of what draws segments from a code.
-/
import Derived.Test.YticecjodbhhcfaaDoorDrawBytes
import Derived.Test.YticecjodbhhcfaaDoorCurOnce
import Derived.Test.YticecjodbhhcfaaDoorSegReadSpec
import Derived.Deep.AppendLies
namespace Go.Proofs.YticecjodbhhcfaaDoor
open Go.RowKit

/-- Segments whose data are bytes, and not too many. -/
def GoodS (ss : List (Int × List Int)) : Prop := ∀ s ∈ ss, s.2.length ≤ 20001 ∧ ∀ x ∈ s.2, 0 ≤ x ∧ x ≤ 255
theorem GoodS.nil : GoodS [] := fun s hs => by simp at hs
theorem GoodS.push {ss : List (Int × List Int)} {m : Int} {zs : List Int} (h : GoodS ss) (hl : zs.length ≤ 20001) (hz : ∀ x ∈ zs, 0 ≤ x ∧ x ≤ 255) : GoodS (ss ++ [(m, zs)]) := by
  intro s hs
  rcases List.mem_append.1 hs with h1 | h1
  · exact h s h1
  · simp at h1; subst h1; exact ⟨hl, hz⟩

/-- A pick touches no segments. -/
theorem OwnS.cur {w w' : World} {lo hi tb : Nat} {v : Value} {ss : List (Int × List Int)} (h : OwnS w lo hi v ss) (hg : w.grownBy w' (some tb)) (hhi : hi ≤ w.heap.size) (htb : tb < lo) : OwnS w' lo hi v ss :=
  h.same (fun g h1 h2 => hg.block g (by omega) (by simp; omega))

theorem seg_cells {w : World} {g : Nat} {a b : Value} {t : TypeId} (hb : w.heap[g]? = some (.cells #[a, b] t (0, 0))) :
    w.cell? ⟨g, 0, none⟩ = some a ∧ w.cell? ⟨g, 1, none⟩ = some b ∧ w.frozen? ⟨g, 0, none⟩ = false ∧ w.frozen? ⟨g, 1, none⟩ = false :=
  ⟨by rw [cell_of_row w _ 0 _ _ (0, 0) hb]; rfl, by rw [cell_of_row w _ 1 _ _ (0, 0) hb]; rfl, frozen_of_row w _ 0 _ _ hb, frozen_of_row w _ 1 _ _ hb⟩

/-- What has grown by new rows and by the cursor's alone. -/
theorem grown_tb {a b c : World} {tb : Nat} {row : Option Nat} (h : a.grownBy b (some tb)) (hg : b.grownBy c row) (hge : ∀ g, row = some g → a.heap.size ≤ g) : a.grownBy c (some tb) :=
  ⟨hg.os.trans h.os, hg.tape.trans h.tape, hg.output.trans h.output, Nat.le_trans h.size hg.size, fun k hk hr => (hg.block k (Nat.lt_of_lt_of_le hk h.size) (fun e => by have := hge k e.symm; omega)).trans (h.block k hk hr)⟩

theorem bytes_push {bs : List Int} {y : Int} (h : ∀ x ∈ bs, 0 ≤ x ∧ x ≤ 255) (hy : 0 ≤ y ∧ y ≤ 255) : ∀ x ∈ bs ++ [y], 0 ≤ x ∧ x ≤ 255 := by
  intro x hx
  rcases List.mem_append.1 hx with h1 | h1
  · exact h x h1
  · simp at h1; subst h1; exact hy
theorem new_behind (W : World) (gs : Nat) (a b : Value) (o : Obj) : (((W.setCell ⟨gs, 0, none⟩ a).setCell ⟨gs, 1, none⟩ b).alloc o).heap[W.heap.size]? = some o := by
  have hn := heap_alloc_new ((W.setCell ⟨gs, 0, none⟩ a).setCell ⟨gs, 1, none⟩ b) o
  have en : ((W.setCell ⟨gs, 0, none⟩ a).setCell ⟨gs, 1, none⟩ b).heap.size = W.heap.size := by simp
  rw [en] at hn
  exact hn

/-- One more segment appended. -/
theorem append_seg {w : World} {ops : Array Oper} {rest : List Oper} {o : Oper} {a : Act} {Q : Exit → Act → World → Prop} (hgd : o.guard = none) (s x : Operand)
    (ho : o.op = .call { callee := .builtin .append, args := #[s, x], argTypes := #[24, 24] })
    (lo hi base : Nat) (v : Value) (ss : List (Int × List Int)) (hs : a.eval s = v) (hown : OwnS w lo hi v ss) (hhi : hi ≤ w.heap.size) (hlo : lo ≤ base) (hb : hi ≤ base)
    (g : Nat) (m : Int) (dv : Value) (zs : List Int) (hx : a.eval x = .slice (some ⟨g, 0, none⟩) 1 1) (hg : w.heap[g]? = some (.cells #[.int .i64 m, dv] 41 (0, 0)))
    (hd : w.ownsRow base 5 1 dv zs.length (zs.map (Value.int .u8))) (hlen : ss.length ≤ 1000) (hlw : lo ≤ w.heap.size)
    (h : ∀ v' w', OwnS w' lo w'.heap.size v' (ss ++ [(m, zs)]) → w.grownBy w' v.ownBlock → (∀ q, v.ownBlock = some q → lo ≤ q ∧ q < hi) → wpList Tryd.prog ops Q rest (a.put o.dst v') w') :
    wpList Tryd.prog ops Q (o :: rest) a w := by
  obtain ⟨i0, hi0, hz0, hz1, hz2⟩ := info_parts Tryd.info41
  obtain ⟨d, h1, h2, h3⟩ := hown
  have h1v : dv.oneCell' = true := by
    obtain ⟨_, _, rfl⟩ := own_form hd
    rfl
  refine wpList_append_own _ hgd s x 24 ho lo 41 i0 _ 2 32 Tryd.underlying24 hi0 hz0 hz1 hz2 rfl (by decide) v ss.length (rowsK ss.length 2 (segCells ss d)) hs h1 ⟨g, 0, none⟩ 1 1 [.int .i64 m, dv] hx rfl (World.news_of_block (cs := #[.int .i64 m, dv]) (t := 41) (fr := (0, 0)) hg) ?_ (by unfold maxLen; omega) (by omega) hlw (fun v' w' ho' hg' _ => ?_)
  · intro u hu
    simp at hu
    rcases hu with rfl | rfl
    · rfl
    · exact h1v
  · exact h v' w' (OwnS.push h1 h3 hhi hlo hb hd ho' hg') hg' (fun q e => ⟨(h1.lt q e).1, h2 q e⟩)

theorem OwnS.setMark {w : World} {lo hi g c : Nat} {ss : List (Int × List Int)} (h : OwnS w lo hi (.slice (some ⟨g, 0, none⟩) ss.length c) ss) (k : Nat) (hk : k < ss.length) (x : Int) :
    OwnS (w.setCell ⟨g, k * 2, none⟩ (.int .i64 x)) lo hi (.slice (some ⟨g, 0, none⟩) ss.length c) (ss.set k (x, (ss.getD k (0, [])).2)) := by
  obtain ⟨d, h1, h2, h3⟩ := h
  have hst := h1.stored (k * 2) (.int .i64 x)
  have hget : ∀ i, (ss.set k (x, (ss.getD k (0, [])).2)).getD i (0, []) = if i = k then (x, (ss.getD k (0, [])).2) else ss.getD i (0, []) := by
    intro i
    rw [List.getD_eq_getElem?_getD, List.getElem?_set]
    by_cases e : k = i
    · subst e; simp [hk]
    · rw [if_neg e, if_neg (fun e' => e e'.symm), ← List.getD_eq_getElem?_getD]
  refine ⟨d, ?_, h2, ?_⟩
  · rw [List.length_set]
    have e : (rowsK ss.length 2 (segCells ss d)).set (k * 2) (.int .i64 x) = rowsK ss.length 2 (segCells (ss.set k (x, (ss.getD k (0, [])).2)) d) := by
      have e0 := rowsK_set ss.length 2 (segCells ss d) k 0 (.int .i64 x) (by omega)
      rw [Nat.add_zero] at e0
      rw [e0]
      apply rowsK_congr
      intro i j _ hj
      have hj2 : j = 0 ∨ j = 1 := by omega
      rcases hj2 with rfl | rfl
      · unfold segCells
        rw [hget]
        by_cases e1 : i = k
        · subst e1; simp
        · simp [e1]
      · unfold segCells; simp
    rw [← e]; exact hst.1
  · rw [List.length_set]
    intro i hi'
    have e : ((ss.set k (x, (ss.getD k (0, [])).2)).getD i (0, [])).2 = (ss.getD i (0, [])).2 := by
      rw [hget]; split
      · rename_i e; subst e; rfl
      · rfl
    dsimp only
    rw [e]
    exact ⟨own_beneath (h3 i hi').1 hst.2 (fun a b ha hb => Ne.symm (own_types h1 (h3 i hi').1 (by decide) b a hb ha)), (h3 i hi').2⟩
theorem GoodS.setMark {ss : List (Int × List Int)} (h : GoodS ss) (k : Nat) (hk : k < ss.length) (x : Int) : GoodS (ss.set k (x, (ss.getD k (0, [])).2)) := by
  intro s hs
  rcases List.mem_or_eq_of_mem_set hs with h1 | h1
  · exact h s h1
  · subst h1
    have e : ss.getD k (0, []) = ss[k] := by simp [hk]
    rw [e]
    have := h _ (List.getElem_mem hk)
    exact this

set_option maxRecDepth 100000 in
set_option maxHeartbeats 6400000 in
theorem drawSegs (tb : Nat) (ao : Option Addr) (n cap p : Nat) (zs : List Int) (w : World) (h : Cur w tb ao n cap zs p) (hp : p ≤ 1000) :
    Calls Tryd.prog 16 #[.pointer (some ⟨tb, 0, none⟩)] w fun e w' => ∃ (ss : List (Int × List Int)) (vo : Option Addr) (vc p' : Nat), e = .returned (.slice vo ss.length vc) ∧ OwnS w' w.heap.size w'.heap.size (.slice vo ss.length vc) ss ∧ ss.length ≤ 320 ∧ GoodS ss ∧
      Cur w' tb ao n cap zs p' ∧ p' ≤ p + 3000 ∧ w.grownBy w' (some tb) := by
  obtain ⟨i0, hi0, hz0, hz1, hz2⟩ := info_parts Tryd.info41
  obtain ⟨ib, hib, hb0, hb1, hb2⟩ := info_parts Tryd.info5
  have htb := h.lt
  have HC := hide h.rd.lt
  have o0 := hide (OwnS.lit w w.heap.size (Nat.le_refl _))
  have h0 := h.grown (World.grownBy_alloc w (.cells #[] 41) none)
  have g0 : Hid (w.grownBy (w.alloc (.cells #[] 41)) (some tb)) := World.grownBy_alloc _ _ _
  clear h
  go_enter Tryd.func16, Tryd.ntmps16
  go_wp2_with fail
  refine (size_of tb ao n cap p 12 zs _ h0 (by omega) (by omega) (by omega)).mono ?_
  rintro e w1 ⟨x, p1, rfl, hx0, hx1, h1, hp1, g1⟩
  obtain ⟨m, rfl⟩ := Int.eq_ofNat_of_zero_le hx0
  have o1 := hide (((unhide o0).cur g1 (by simp) htb).base (hi' := w1.heap.size) (Nat.le_refl _) (by have := g1.size; simpa using this))
  have G1 := grown_trans (unhide g0) g1
  clear o0 h0 g1 g0
  go_wp2
  go_loopw [3, 4, 5] (fun v u i wr => ∃ (ss : List (Int × List Int)) (j q : Nat) (was : Int), i = .int .i64 j ∧ u = .int .i64 was ∧ (0 ≤ was ∧ was ≤ 3) ∧ ss.length + j = m ∧ q ≤ p + 2 + 64 * ss.length ∧ GoodS ss ∧ Cur wr tb ao n cap zs q ∧ OwnS wr w.heap.size wr.heap.size v ss ∧ w.grownBy wr (some tb)) (fun _ _ i _ => (intOf i).toNat)
  case atStart => exact ⟨[], m, p1, 0, rfl, rfl, by omega, by simp, by simpa using hp1, GoodS.nil, h1, unhide o1, G1⟩
  case round =>
    obtain ⟨ss, j, q, was, rfl, rfl, hwas, hj, hq, hgd, hcu, hok, hgk⟩ := hrel
    clear o1 G1 h1
    have HGD := hide hgd
    clear hgd
    by_cases hlt : 0 < j
    · have hd : decide ((0 : Int) < (j : Int)) = true := by simp; omega
      have hw4 : was = 0 ∨ was = 1 ∨ was = 2 ∨ was = 3 := by omega
      obtain ⟨so, sc, rfl⟩ := hok.form
      have HOK := hide hok
      obtain ⟨hi, hhi⟩ : ∃ hi, wr.heap.size = hi := ⟨_, rfl⟩
      have hwh : w.heap.size ≤ hi := by have := hgk.size; omega
      clear hok
      go_wp2_with fail
      refine (pick_of tb ao n cap q 3 zs wr hcu (by omega) (by omega) (by omega)).mono ?_
      rintro e w2 ⟨x, p2, rfl, hx0, hx1, c2, hp2, g2⟩
      rw [hhi] at HOK
      have g2' := g2.size
      rw [hhi] at g2'
      have hx3 : x = 0 ∨ x = 1 ∨ x = 2 := by omega
      rcases hx3 with rfl | rfl | rfl
      · go_wp2_with fail
        refine (specFits was 1 true w2 (by omega) hw4 (by unfold Hid fitsK; rfl)).mono ?_
        rintro e wz ⟨rfl, rfl⟩
        have HO2 := hide ((unhide HOK).cur g2 (by omega) htb)
        have HBA := hide (heap_alloc_new w2 (.cells #[.int .i64 0, .slice none 0 0] 41))
        have HO2a := hide ((unhide HO2).grown (World.grownBy_alloc w2 (.cells #[.int .i64 0, .slice none 0 0] 41) none) g2')
        have c2a := c2.grown (World.grownBy_alloc w2 (.cells #[.int .i64 0, .slice none 0 0] 41) none)
        have G2a := grown_tb (grown_trans hgk g2) (World.grownBy_alloc w2 (.cells #[.int .i64 0, .slice none 0 0] 41) none) (fun g e => by simp at e)
        have HZA : Hid ((w2.alloc (.cells #[.int .i64 0, .slice none 0 0] 41)).heap.size = w2.heap.size + 1) := by unfold Hid; simp
        go_wp2_with fail
        generalize hgw : (w2.alloc (.cells #[.int .i64 0, .slice none 0 0] 41)) = w2a at *
        obtain ⟨gs, hgs⟩ : ∃ gs, w2.heap.size = gs := ⟨_, rfl⟩
        rw [hgs] at HBA HZA ⊢
        have hBa := unhide HBA
        have hza := unhide HZA
        have hz2 := g2.size
        rw [hgs] at hz2
        clear hgw HBA HZA g2 c2 HO2 hgk HOK
        refine (pick_of tb ao n cap _ 239 zs _ c2a (by omega) (by omega) (by omega)).mono ?_
        rintro e w3 ⟨y, p3, rfl, hy0, hy1, c3, hp3, g3⟩
        have G3 := grown_trans G2a g3
        have HO3 := hide ((unhide HO2a).cur g3 (by omega) htb)
        have hB3 := (g3.block gs (by omega) (by simp; omega)).trans hBa
        have hz3 := g3.size
        clear c2a g3 HO2a hBa G2a
        go_wp2_with fail
        refine (drawBytes tb ao n cap p3 9 zs w3 c3 (by omega) (by omega) (by omega)).mono ?_
        rintro e w4 ⟨bs, bo, bc, p4, rfl, hbl, hbb, o4, cWB, hp4, g4⟩
        have gWB := grown_trans G3 g4
        have HOW := hide ((unhide HO3).cur g4 (by omega) htb)
        have hBS := (g4.block gs (by omega) (by simp; omega)).trans hB3
        have hz4 := g4.size
        have OD := hide o4
        have HLZ : bs.length ≤ 20001 := by omega
        have HBZ := hbb
        clear c3 g4 HO3 hB3 G3 o4 hbb
        have cs := seg_cells hBS
        have gA : w4.grownBy ((w4.setCell ⟨gs, 0, none⟩ (.int .i64 (1 + y))).setCell ⟨gs, 1, none⟩ (.slice bo bs.length bc)) (some gs) := grown_trans (grown_set _ _ _ _) (grown_set _ _ _ _)
        have gB : ((w4.setCell ⟨gs, 0, none⟩ (.int .i64 (1 + y))).setCell ⟨gs, 1, none⟩ (.slice bo bs.length bc)).grownBy (((w4.setCell ⟨gs, 0, none⟩ (.int .i64 (1 + y))).setCell ⟨gs, 1, none⟩ (.slice bo bs.length bc)).alloc (.cells #[(.int .i64 (1 + y)), (.slice bo bs.length bc)] 41)) none := grown_alloc (World.grownBy.refl _ _) _
        have HO5 := hide ((unhide HOW).same (w' := ((w4.setCell ⟨gs, 0, none⟩ (.int .i64 (1 + y))).setCell ⟨gs, 1, none⟩ (.slice bo bs.length bc))) (fun g h1 h2 => gA.block g (by omega) (by simp; omega)))
        have HO6 := hide ((unhide HO5).grown gB (by have := gA.size; omega))
        have HD6 := hide (own_grown (own_beneath (unhide OD) gA (fun g g' h h' => by have := ((unhide OD).lt g h).1; simp at h'; omega)) gB)
        have HN6 : Hid ((((w4.setCell ⟨gs, 0, none⟩ (.int .i64 (1 + y))).setCell ⟨gs, 1, none⟩ (.slice bo bs.length bc)).alloc (.cells #[(.int .i64 (1 + y)), (.slice bo bs.length bc)] 41)).heap[w4.heap.size]? = some (.cells #[(.int .i64 (1 + y)), (.slice bo bs.length bc)] 41 (0, 0))) := by
          have hn := heap_alloc_new ((w4.setCell ⟨gs, 0, none⟩ (.int .i64 (1 + y))).setCell ⟨gs, 1, none⟩ (.slice bo bs.length bc)) (.cells #[(.int .i64 (1 + y)), (.slice bo bs.length bc)] 41)
          have en : ((w4.setCell ⟨gs, 0, none⟩ (.int .i64 (1 + y))).setCell ⟨gs, 1, none⟩ (.slice bo bs.length bc)).heap.size = w4.heap.size := by simp
          rw [en] at hn
          exact hn
        have HSZ6 : Hid (w4.heap.size ≤ (((w4.setCell ⟨gs, 0, none⟩ (.int .i64 (1 + y))).setCell ⟨gs, 1, none⟩ (.slice bo bs.length bc)).alloc (.cells #[(.int .i64 (1 + y)), (.slice bo bs.length bc)] 41)).heap.size) := Nat.le_trans gA.size gB.size
        have HC6 := hide ((cWB.beside gA (fun g e => by simp at e; subst e; exact ⟨by omega, fun h b off e' => by have := unhide HC h b off e'; omega⟩)).grown gB)
        have HG6 := hide (grown_tb (grown_tb gWB gA (fun g e => by simp at e; omega)) gB (fun g e => by simp at e))
        clear gA gB HO5 hBS cWB gWB OD HOW
        go_wp2_with (at_builtin; refine append_seg rfl _ _ rfl w.heap.size hi w3.heap.size (.slice so ss.length sc) ss rfl (unhide HO6) (by have := unhide HSZ6; omega) (by omega) (by omega) _ _ (.slice bo bs.length bc) bs rfl (unhide HN6) (unhide HD6) (by omega) (by have := unhide HSZ6; omega) ?_; intro v7 w7 hO7 hg7 hv7)
        have hc7 := (unhide HC6).beside hg7 (fun g e => by
          have := hv7 g e
          exact ⟨by omega, fun h b off e' => by have := unhide HC h b off e'; omega⟩)
        have G7 := grown_tb (unhide HG6) hg7 (fun g e => (hv7 g e).1)
        have hgood := (unhide HGD).push (m := (1 + y)) (zs := bs) HLZ HBZ
        obtain ⟨so7, sc7, rfl⟩ := hO7.form
        have HO7 := hide hO7
        have HGD7 := hide hgood
        clear hO7 hg7 hv7 hgood HO6 HD6 HN6 HC6 HG6 cs HGD HLZ HBZ
        go_wp2
        go_roundw
        case rel => exact ⟨ss ++ [((1 + y), bs)], j - 1, p4, 1, by go_num, rfl, by omega, by simp; omega, by simp; omega, unhide HGD7, hc7, unhide HO7, G7⟩
        case measure => simp [intOf]; omega
      · obtain ⟨t, HT⟩ : ∃ t, Hid (fitsK was 2 = t) := ⟨_, rfl⟩
        go_wp2_with fail
        refine (specFits was 2 t w2 (by omega) hw4 HT).mono ?_
        rintro e wz ⟨rfl, rfl⟩
        cases t
        · have HO2 := hide ((unhide HOK).cur g2 (by omega) htb)
          have HBA := hide (heap_alloc_new w2 (.cells #[.int .i64 0, .slice none 0 0] 41))
          have HO2a := hide ((unhide HO2).grown (World.grownBy_alloc w2 (.cells #[.int .i64 0, .slice none 0 0] 41) none) g2')
          have c2a := c2.grown (World.grownBy_alloc w2 (.cells #[.int .i64 0, .slice none 0 0] 41) none)
          have G2a := grown_tb (grown_trans hgk g2) (World.grownBy_alloc w2 (.cells #[.int .i64 0, .slice none 0 0] 41) none) (fun g e => by simp at e)
          have HZA : Hid ((w2.alloc (.cells #[.int .i64 0, .slice none 0 0] 41)).heap.size = w2.heap.size + 1) := by unfold Hid; simp
          go_wp2_with fail
          generalize hgw : (w2.alloc (.cells #[.int .i64 0, .slice none 0 0] 41)) = w2a at *
          obtain ⟨gs, hgs⟩ : ∃ gs, w2.heap.size = gs := ⟨_, rfl⟩
          rw [hgs] at HBA HZA ⊢
          have hBa := unhide HBA
          have hza := unhide HZA
          have hz2 := g2.size
          rw [hgs] at hz2
          clear hgw HBA HZA g2 c2 HO2 hgk HOK
          refine (pick_of tb ao n cap _ 239 zs _ c2a (by omega) (by omega) (by omega)).mono ?_
          rintro e w3 ⟨y, p3, rfl, hy0, hy1, c3, hp3, g3⟩
          have G3 := grown_trans G2a g3
          have HO3 := hide ((unhide HO2a).cur g3 (by omega) htb)
          have hB3 := (g3.block gs (by omega) (by simp; omega)).trans hBa
          have hz3 := g3.size
          clear c2a g3 HO2a hBa G2a
          go_wp2_with fail
          refine (drawBytes tb ao n cap p3 9 zs w3 c3 (by omega) (by omega) (by omega)).mono ?_
          rintro e w4 ⟨bs, bo, bc, p4, rfl, hbl, hbb, o4, cWB, hp4, g4⟩
          have gWB := grown_trans G3 g4
          have HOW := hide ((unhide HO3).cur g4 (by omega) htb)
          have hBS := (g4.block gs (by omega) (by simp; omega)).trans hB3
          have hz4 := g4.size
          have OD := hide o4
          have HLZ : bs.length ≤ 20001 := by omega
          have HBZ := hbb
          clear c3 g4 HO3 hB3 G3 o4 hbb
          have cs := seg_cells hBS
          have gA : w4.grownBy ((w4.setCell ⟨gs, 0, none⟩ (.int .i64 (1 + y))).setCell ⟨gs, 1, none⟩ (.slice bo bs.length bc)) (some gs) := grown_trans (grown_set _ _ _ _) (grown_set _ _ _ _)
          have gB : ((w4.setCell ⟨gs, 0, none⟩ (.int .i64 (1 + y))).setCell ⟨gs, 1, none⟩ (.slice bo bs.length bc)).grownBy (((w4.setCell ⟨gs, 0, none⟩ (.int .i64 (1 + y))).setCell ⟨gs, 1, none⟩ (.slice bo bs.length bc)).alloc (.cells #[(.int .i64 (1 + y)), (.slice bo bs.length bc)] 41)) none := grown_alloc (World.grownBy.refl _ _) _
          have HO5 := hide ((unhide HOW).same (w' := ((w4.setCell ⟨gs, 0, none⟩ (.int .i64 (1 + y))).setCell ⟨gs, 1, none⟩ (.slice bo bs.length bc))) (fun g h1 h2 => gA.block g (by omega) (by simp; omega)))
          have HO6 := hide ((unhide HO5).grown gB (by have := gA.size; omega))
          have HD6 := hide (own_grown (own_beneath (unhide OD) gA (fun g g' h h' => by have := ((unhide OD).lt g h).1; simp at h'; omega)) gB)
          have HN6 : Hid ((((w4.setCell ⟨gs, 0, none⟩ (.int .i64 (1 + y))).setCell ⟨gs, 1, none⟩ (.slice bo bs.length bc)).alloc (.cells #[(.int .i64 (1 + y)), (.slice bo bs.length bc)] 41)).heap[w4.heap.size]? = some (.cells #[(.int .i64 (1 + y)), (.slice bo bs.length bc)] 41 (0, 0))) := by
            have hn := heap_alloc_new ((w4.setCell ⟨gs, 0, none⟩ (.int .i64 (1 + y))).setCell ⟨gs, 1, none⟩ (.slice bo bs.length bc)) (.cells #[(.int .i64 (1 + y)), (.slice bo bs.length bc)] 41)
            have en : ((w4.setCell ⟨gs, 0, none⟩ (.int .i64 (1 + y))).setCell ⟨gs, 1, none⟩ (.slice bo bs.length bc)).heap.size = w4.heap.size := by simp
            rw [en] at hn
            exact hn
          have HSZ6 : Hid (w4.heap.size ≤ (((w4.setCell ⟨gs, 0, none⟩ (.int .i64 (1 + y))).setCell ⟨gs, 1, none⟩ (.slice bo bs.length bc)).alloc (.cells #[(.int .i64 (1 + y)), (.slice bo bs.length bc)] 41)).heap.size) := Nat.le_trans gA.size gB.size
          have HC6 := hide ((cWB.beside gA (fun g e => by simp at e; subst e; exact ⟨by omega, fun h b off e' => by have := unhide HC h b off e'; omega⟩)).grown gB)
          have HG6 := hide (grown_tb (grown_tb gWB gA (fun g e => by simp at e; omega)) gB (fun g e => by simp at e))
          clear gA gB HO5 hBS cWB gWB OD HOW
          go_wp2_with (at_builtin; refine append_seg rfl _ _ rfl w.heap.size hi w3.heap.size (.slice so ss.length sc) ss rfl (unhide HO6) (by have := unhide HSZ6; omega) (by omega) (by omega) _ _ (.slice bo bs.length bc) bs rfl (unhide HN6) (unhide HD6) (by omega) (by have := unhide HSZ6; omega) ?_; intro v7 w7 hO7 hg7 hv7)
          have hc7 := (unhide HC6).beside hg7 (fun g e => by
            have := hv7 g e
            exact ⟨by omega, fun h b off e' => by have := unhide HC h b off e'; omega⟩)
          have G7 := grown_tb (unhide HG6) hg7 (fun g e => (hv7 g e).1)
          have hgood := (unhide HGD).push (m := (1 + y)) (zs := bs) HLZ HBZ
          obtain ⟨so7, sc7, rfl⟩ := hO7.form
          have HO7 := hide hO7
          have HGD7 := hide hgood
          clear hO7 hg7 hv7 hgood HO6 HD6 HN6 HC6 HG6 cs HGD HLZ HBZ
          go_wp2
          go_roundw
          case rel => exact ⟨ss ++ [((1 + y), bs)], j - 1, p4, 1, by go_num, rfl, by omega, by simp; omega, by simp; omega, unhide HGD7, hc7, unhide HO7, G7⟩
          case measure => simp [intOf]; omega
        · have HO2 := hide ((unhide HOK).cur g2 (by omega) htb)
          have HBA := hide (heap_alloc_new w2 (.cells #[.int .i64 0, .slice none 0 0] 41))
          have HO2a := hide ((unhide HO2).grown (World.grownBy_alloc w2 (.cells #[.int .i64 0, .slice none 0 0] 41) none) g2')
          have c2a := c2.grown (World.grownBy_alloc w2 (.cells #[.int .i64 0, .slice none 0 0] 41) none)
          have G2a := grown_tb (grown_trans hgk g2) (World.grownBy_alloc w2 (.cells #[.int .i64 0, .slice none 0 0] 41) none) (fun g e => by simp at e)
          have HZA : Hid ((w2.alloc (.cells #[.int .i64 0, .slice none 0 0] 41)).heap.size = w2.heap.size + 1) := by unfold Hid; simp
          go_wp2_with fail
          generalize hgw : (w2.alloc (.cells #[.int .i64 0, .slice none 0 0] 41)) = w2a at *
          obtain ⟨gs, hgs⟩ : ∃ gs, w2.heap.size = gs := ⟨_, rfl⟩
          rw [hgs] at HBA HZA ⊢
          have hBa := unhide HBA
          have hza := unhide HZA
          have hz2 := g2.size
          rw [hgs] at hz2
          clear hgw HBA HZA g2 c2 HO2 hgk HOK
          refine (pick_of tb ao n cap _ 8 zs _ c2a (by omega) (by omega) (by omega)).mono ?_
          rintro e w3 ⟨y, p3, rfl, hy0, hy1, cWB, hp3, g3⟩
          have gWB := grown_trans G2a g3
          have HOW := hide ((unhide HO2a).cur g3 (by omega) htb)
          have hBS := (g3.block gs (by omega) (by simp; omega)).trans hBa
          have hz3 := g3.size
          have OD : Hid (w3.ownsRow w3.heap.size 5 1 (.slice none 0 0) ([] : List Int).length (([] : List Int).map (Value.int .u8))) := World.ownsRow_nil _ _ _ _
          have HLZ : ([] : List Int).length ≤ 20001 := by simp
          have HBZ : ∀ x ∈ ([] : List Int), 0 ≤ x ∧ x ≤ 255 := by simp
          clear c2a g3 HO2a hBa G2a
          have cs := seg_cells hBS
          have gA : w3.grownBy ((w3.setCell ⟨gs, 0, none⟩ (.int .i64 (240 + y))).setCell ⟨gs, 1, none⟩ (.slice none 0 0)) (some gs) := grown_trans (grown_set _ _ _ _) (grown_set _ _ _ _)
          have gB : ((w3.setCell ⟨gs, 0, none⟩ (.int .i64 (240 + y))).setCell ⟨gs, 1, none⟩ (.slice none 0 0)).grownBy (((w3.setCell ⟨gs, 0, none⟩ (.int .i64 (240 + y))).setCell ⟨gs, 1, none⟩ (.slice none 0 0)).alloc (.cells #[(.int .i64 (240 + y)), (.slice none 0 0)] 41)) none := grown_alloc (World.grownBy.refl _ _) _
          have HO5 := hide ((unhide HOW).same (w' := ((w3.setCell ⟨gs, 0, none⟩ (.int .i64 (240 + y))).setCell ⟨gs, 1, none⟩ (.slice none 0 0))) (fun g h1 h2 => gA.block g (by omega) (by simp; omega)))
          have HO6 := hide ((unhide HO5).grown gB (by have := gA.size; omega))
          have HD6 := hide (own_grown (own_beneath (unhide OD) gA (fun g g' h h' => by have := ((unhide OD).lt g h).1; simp at h'; omega)) gB)
          have HN6 : Hid ((((w3.setCell ⟨gs, 0, none⟩ (.int .i64 (240 + y))).setCell ⟨gs, 1, none⟩ (.slice none 0 0)).alloc (.cells #[(.int .i64 (240 + y)), (.slice none 0 0)] 41)).heap[w3.heap.size]? = some (.cells #[(.int .i64 (240 + y)), (.slice none 0 0)] 41 (0, 0))) := by
            have hn := heap_alloc_new ((w3.setCell ⟨gs, 0, none⟩ (.int .i64 (240 + y))).setCell ⟨gs, 1, none⟩ (.slice none 0 0)) (.cells #[(.int .i64 (240 + y)), (.slice none 0 0)] 41)
            have en : ((w3.setCell ⟨gs, 0, none⟩ (.int .i64 (240 + y))).setCell ⟨gs, 1, none⟩ (.slice none 0 0)).heap.size = w3.heap.size := by simp
            rw [en] at hn
            exact hn
          have HSZ6 : Hid (w3.heap.size ≤ (((w3.setCell ⟨gs, 0, none⟩ (.int .i64 (240 + y))).setCell ⟨gs, 1, none⟩ (.slice none 0 0)).alloc (.cells #[(.int .i64 (240 + y)), (.slice none 0 0)] 41)).heap.size) := Nat.le_trans gA.size gB.size
          have HC6 := hide ((cWB.beside gA (fun g e => by simp at e; subst e; exact ⟨by omega, fun h b off e' => by have := unhide HC h b off e'; omega⟩)).grown gB)
          have HG6 := hide (grown_tb (grown_tb gWB gA (fun g e => by simp at e; omega)) gB (fun g e => by simp at e))
          clear gA gB HO5 hBS cWB gWB OD HOW
          go_wp2_with (at_builtin; refine append_seg rfl _ _ rfl w.heap.size hi w3.heap.size (.slice so ss.length sc) ss rfl (unhide HO6) (by have := unhide HSZ6; omega) (by omega) (by omega) _ _ (.slice none 0 0) ([] : List Int) rfl (unhide HN6) (unhide HD6) (by omega) (by have := unhide HSZ6; omega) ?_; intro v7 w7 hO7 hg7 hv7)
          have hc7 := (unhide HC6).beside hg7 (fun g e => by
            have := hv7 g e
            exact ⟨by omega, fun h b off e' => by have := unhide HC h b off e'; omega⟩)
          have G7 := grown_tb (unhide HG6) hg7 (fun g e => (hv7 g e).1)
          have hgood := (unhide HGD).push (m := (240 + y)) (zs := ([] : List Int)) HLZ HBZ
          obtain ⟨so7, sc7, rfl⟩ := hO7.form
          have HO7 := hide hO7
          have HGD7 := hide hgood
          clear hO7 hg7 hv7 hgood HO6 HD6 HN6 HC6 HG6 cs HGD HLZ HBZ
          go_wp2
          go_roundw
          case rel => exact ⟨ss ++ [((240 + y), ([] : List Int))], j - 1, p3, 2, by go_num, rfl, by omega, by simp; omega, by simp; omega, unhide HGD7, hc7, unhide HO7, G7⟩
          case measure => simp [intOf]; omega
      · obtain ⟨t, HT⟩ : ∃ t, Hid (fitsK was 3 = t) := ⟨_, rfl⟩
        go_wp2_with fail
        refine (specFits was 3 t w2 (by omega) hw4 HT).mono ?_
        rintro e wz ⟨rfl, rfl⟩
        cases t
        · have HO2 := hide ((unhide HOK).cur g2 (by omega) htb)
          have HBA := hide (heap_alloc_new w2 (.cells #[.int .i64 0, .slice none 0 0] 41))
          have HO2a := hide ((unhide HO2).grown (World.grownBy_alloc w2 (.cells #[.int .i64 0, .slice none 0 0] 41) none) g2')
          have c2a := c2.grown (World.grownBy_alloc w2 (.cells #[.int .i64 0, .slice none 0 0] 41) none)
          have G2a := grown_tb (grown_trans hgk g2) (World.grownBy_alloc w2 (.cells #[.int .i64 0, .slice none 0 0] 41) none) (fun g e => by simp at e)
          have HZA : Hid ((w2.alloc (.cells #[.int .i64 0, .slice none 0 0] 41)).heap.size = w2.heap.size + 1) := by unfold Hid; simp
          go_wp2_with fail
          generalize hgw : (w2.alloc (.cells #[.int .i64 0, .slice none 0 0] 41)) = w2a at *
          obtain ⟨gs, hgs⟩ : ∃ gs, w2.heap.size = gs := ⟨_, rfl⟩
          rw [hgs] at HBA HZA ⊢
          have hBa := unhide HBA
          have hza := unhide HZA
          have hz2 := g2.size
          rw [hgs] at hz2
          clear hgw HBA HZA g2 c2 HO2 hgk HOK
          refine (pick_of tb ao n cap _ 239 zs _ c2a (by omega) (by omega) (by omega)).mono ?_
          rintro e w3 ⟨y, p3, rfl, hy0, hy1, c3, hp3, g3⟩
          have G3 := grown_trans G2a g3
          have HO3 := hide ((unhide HO2a).cur g3 (by omega) htb)
          have hB3 := (g3.block gs (by omega) (by simp; omega)).trans hBa
          have hz3 := g3.size
          clear c2a g3 HO2a hBa G2a
          go_wp2_with fail
          refine (drawBytes tb ao n cap p3 9 zs w3 c3 (by omega) (by omega) (by omega)).mono ?_
          rintro e w4 ⟨bs, bo, bc, p4, rfl, hbl, hbb, o4, cWB, hp4, g4⟩
          have gWB := grown_trans G3 g4
          have HOW := hide ((unhide HO3).cur g4 (by omega) htb)
          have hBS := (g4.block gs (by omega) (by simp; omega)).trans hB3
          have hz4 := g4.size
          have OD := hide o4
          have HLZ : bs.length ≤ 20001 := by omega
          have HBZ := hbb
          clear c3 g4 HO3 hB3 G3 o4 hbb
          have cs := seg_cells hBS
          have gA : w4.grownBy ((w4.setCell ⟨gs, 0, none⟩ (.int .i64 (1 + y))).setCell ⟨gs, 1, none⟩ (.slice bo bs.length bc)) (some gs) := grown_trans (grown_set _ _ _ _) (grown_set _ _ _ _)
          have gB : ((w4.setCell ⟨gs, 0, none⟩ (.int .i64 (1 + y))).setCell ⟨gs, 1, none⟩ (.slice bo bs.length bc)).grownBy (((w4.setCell ⟨gs, 0, none⟩ (.int .i64 (1 + y))).setCell ⟨gs, 1, none⟩ (.slice bo bs.length bc)).alloc (.cells #[(.int .i64 (1 + y)), (.slice bo bs.length bc)] 41)) none := grown_alloc (World.grownBy.refl _ _) _
          have HO5 := hide ((unhide HOW).same (w' := ((w4.setCell ⟨gs, 0, none⟩ (.int .i64 (1 + y))).setCell ⟨gs, 1, none⟩ (.slice bo bs.length bc))) (fun g h1 h2 => gA.block g (by omega) (by simp; omega)))
          have HO6 := hide ((unhide HO5).grown gB (by have := gA.size; omega))
          have HD6 := hide (own_grown (own_beneath (unhide OD) gA (fun g g' h h' => by have := ((unhide OD).lt g h).1; simp at h'; omega)) gB)
          have HN6 : Hid ((((w4.setCell ⟨gs, 0, none⟩ (.int .i64 (1 + y))).setCell ⟨gs, 1, none⟩ (.slice bo bs.length bc)).alloc (.cells #[(.int .i64 (1 + y)), (.slice bo bs.length bc)] 41)).heap[w4.heap.size]? = some (.cells #[(.int .i64 (1 + y)), (.slice bo bs.length bc)] 41 (0, 0))) := by
            have hn := heap_alloc_new ((w4.setCell ⟨gs, 0, none⟩ (.int .i64 (1 + y))).setCell ⟨gs, 1, none⟩ (.slice bo bs.length bc)) (.cells #[(.int .i64 (1 + y)), (.slice bo bs.length bc)] 41)
            have en : ((w4.setCell ⟨gs, 0, none⟩ (.int .i64 (1 + y))).setCell ⟨gs, 1, none⟩ (.slice bo bs.length bc)).heap.size = w4.heap.size := by simp
            rw [en] at hn
            exact hn
          have HSZ6 : Hid (w4.heap.size ≤ (((w4.setCell ⟨gs, 0, none⟩ (.int .i64 (1 + y))).setCell ⟨gs, 1, none⟩ (.slice bo bs.length bc)).alloc (.cells #[(.int .i64 (1 + y)), (.slice bo bs.length bc)] 41)).heap.size) := Nat.le_trans gA.size gB.size
          have HC6 := hide ((cWB.beside gA (fun g e => by simp at e; subst e; exact ⟨by omega, fun h b off e' => by have := unhide HC h b off e'; omega⟩)).grown gB)
          have HG6 := hide (grown_tb (grown_tb gWB gA (fun g e => by simp at e; omega)) gB (fun g e => by simp at e))
          clear gA gB HO5 hBS cWB gWB OD HOW
          go_wp2_with (at_builtin; refine append_seg rfl _ _ rfl w.heap.size hi w3.heap.size (.slice so ss.length sc) ss rfl (unhide HO6) (by have := unhide HSZ6; omega) (by omega) (by omega) _ _ (.slice bo bs.length bc) bs rfl (unhide HN6) (unhide HD6) (by omega) (by have := unhide HSZ6; omega) ?_; intro v7 w7 hO7 hg7 hv7)
          have hc7 := (unhide HC6).beside hg7 (fun g e => by
            have := hv7 g e
            exact ⟨by omega, fun h b off e' => by have := unhide HC h b off e'; omega⟩)
          have G7 := grown_tb (unhide HG6) hg7 (fun g e => (hv7 g e).1)
          have hgood := (unhide HGD).push (m := (1 + y)) (zs := bs) HLZ HBZ
          obtain ⟨so7, sc7, rfl⟩ := hO7.form
          have HO7 := hide hO7
          have HGD7 := hide hgood
          clear hO7 hg7 hv7 hgood HO6 HD6 HN6 HC6 HG6 cs HGD HLZ HBZ
          go_wp2
          go_roundw
          case rel => exact ⟨ss ++ [((1 + y), bs)], j - 1, p4, 1, by go_num, rfl, by omega, by simp; omega, by simp; omega, unhide HGD7, hc7, unhide HO7, G7⟩
          case measure => simp [intOf]; omega
        · have HO2 := hide ((unhide HOK).cur g2 (by omega) htb)
          have HBA := hide (heap_alloc_new w2 (.cells #[.int .i64 0, .slice none 0 0] 41))
          have HO2a := hide ((unhide HO2).grown (World.grownBy_alloc w2 (.cells #[.int .i64 0, .slice none 0 0] 41) none) g2')
          have c2a := c2.grown (World.grownBy_alloc w2 (.cells #[.int .i64 0, .slice none 0 0] 41) none)
          have G2a := grown_tb (grown_trans hgk g2) (World.grownBy_alloc w2 (.cells #[.int .i64 0, .slice none 0 0] 41) none) (fun g e => by simp at e)
          have HZA : Hid ((w2.alloc (.cells #[.int .i64 0, .slice none 0 0] 41)).heap.size = w2.heap.size + 1) := by unfold Hid; simp
          go_wp2_with fail
          generalize hgw : (w2.alloc (.cells #[.int .i64 0, .slice none 0 0] 41)) = w2a at *
          obtain ⟨gs, hgs⟩ : ∃ gs, w2.heap.size = gs := ⟨_, rfl⟩
          rw [hgs] at HBA HZA ⊢
          have hBa := unhide HBA
          have hza := unhide HZA
          have hz2 := g2.size
          rw [hgs] at hz2
          clear hgw HBA HZA g2 c2 HO2 hgk HOK
          refine (drawBytes tb ao n cap _ 9 zs _ c2a (by omega) (by omega) (by omega)).mono ?_
          rintro e w3 ⟨bs, bo, bc, p3, rfl, hbl, hbb, o3, c3, hp3, g3⟩
          have G3 := grown_trans G2a g3
          have HO3 := hide ((unhide HO2a).cur g3 (by omega) htb)
          have hB3 := (g3.block gs (by omega) (by simp; omega)).trans hBa
          have hz3 := g3.size
          have OD3 := hide o3
          have HBB := hide hbb
          clear c2a g3 HO2a hBa G2a o3 hbb
          go_wp2_with fail
          refine (pick_of tb ao n cap p3 256 zs w3 c3 (by omega) (by omega) (by omega)).mono ?_
          rintro e w4 ⟨y, p4, rfl, hy0, hy1, c4, hp4, g4⟩
          have G4 := grown_trans G3 g4
          have HO4 := hide ((unhide HO3).cur g4 (by omega) htb)
          have hB4 := (g4.block gs (by omega) (by simp; omega)).trans hB3
          have hz4 := g4.size
          have OD4 := hide (own_beneath (unhide OD3) g4 (fun g g' h h' => by have := ((unhide OD3).lt g h).1; simp at h'; omega))
          clear c3 g4 HO3 hB3 G3 OD3
          go_wp2_with (first | (at_builtin; refine wpList_append_own _ rfl _ _ 22 rfl w2a.heap.size 5 ib (.int .u8 0) 1 1 Tryd.underlying22 hib hb0 hb1 hb2 rfl (by decide) _ _ _ rfl ((unhide OD4).alloc _) ⟨w4.heap.size, 0, none⟩ 1 1 [.int .u8 y] rfl rfl (cell_one_new _ _ _) (by intro u hu; simp at hu; subst hu; rfl) (by unfold maxLen; omega) (by omega) (by simp; omega) ?_; intro v5 w5 hown5 hgrow5 _; have hv5 : ∀ g, (Value.slice bo bs.length bc).ownBlock = some g → w2a.heap.size ≤ g := fun g e => ((unhide OD4).lt g e).1; have hBS := (hgrow5.block gs (by simp; omega) (fun e => by have := hv5 gs e.symm; omega)).trans ((Below.heap_alloc _ _ _ (by omega)).trans hB4); have cs0 := seg_cells hBS; obtain ⟨b5, c5, hv⟩ := own_form hown5; subst hv) | (at_builtin; have OD := hide (own_as hown5 (n' := (bs ++ [y]).length) (xs' := (bs ++ [y]).map (Value.int .u8)) (by simp) (by simp)); have cWB := (c4.grown (World.grownBy_alloc w4 (.cells #[.int .u8 y] 5) none)).beside hgrow5 (fun g e => by have := hv5 g e; exact ⟨by omega, fun h b off e' => by have := unhide HC h b off e'; omega⟩); have gWB := grown_tb (grown_tb G4 (World.grownBy_alloc w4 (.cells #[.int .u8 y] 5) none) (fun g e => by simp at e)) hgrow5 (fun g e => by have := hv5 g e; omega); have HOW := hide (((unhide HO4).grown (World.grownBy_alloc w4 (.cells #[.int .u8 y] 5) none) (by omega)).same (w' := w5) (fun g h1 h2 => hgrow5.block g (by simp; omega) (fun e => by have := hv5 g e.symm; omega))); have hz5 : w4.heap.size ≤ w5.heap.size := Nat.le_trans (by simp) hgrow5.size; have HLZ : (bs ++ [y]).length ≤ 20001 := (by rw [List.length_append]; show bs.length + 1 ≤ 20001; omega); have HBZ := bytes_push (unhide HBB) (show 0 ≤ y ∧ y ≤ 255 from ⟨hy0, by omega⟩); have gA : w5.grownBy ((w5.setCell ⟨gs, 0, none⟩ (.int .i64 0)).setCell ⟨gs, 1, none⟩ (.slice b5 (bs.length + 1) c5)) (some gs) := grown_trans (grown_set _ _ _ _) (grown_set _ _ _ _); have gB : ((w5.setCell ⟨gs, 0, none⟩ (.int .i64 0)).setCell ⟨gs, 1, none⟩ (.slice b5 (bs.length + 1) c5)).grownBy (((w5.setCell ⟨gs, 0, none⟩ (.int .i64 0)).setCell ⟨gs, 1, none⟩ (.slice b5 (bs.length + 1) c5)).alloc (.cells #[(.int .i64 0), (.slice b5 (bs.length + 1) c5)] 41)) none := grown_alloc (World.grownBy.refl _ _) _; have HO5 := hide ((unhide HOW).same (w' := ((w5.setCell ⟨gs, 0, none⟩ (.int .i64 0)).setCell ⟨gs, 1, none⟩ (.slice b5 (bs.length + 1) c5))) (fun g h1 h2 => gA.block g (by omega) (by simp; omega))); have HO6 := hide ((unhide HO5).grown gB (Nat.le_trans (by omega) gA.size)); have HD6 := hide (own_grown (own_beneath (unhide OD) gA (fun g g' h h' => by have := ((unhide OD).lt g h).1; simp at h'; omega)) gB); have HN6 := hide (new_behind w5 gs (.int .i64 0) (.slice b5 (bs.length + 1) c5) (.cells #[(.int .i64 0), (.slice b5 (bs.length + 1) c5)] 41)); have HSZ6 : Hid (w5.heap.size ≤ (((w5.setCell ⟨gs, 0, none⟩ (.int .i64 0)).setCell ⟨gs, 1, none⟩ (.slice b5 (bs.length + 1) c5)).alloc (.cells #[(.int .i64 0), (.slice b5 (bs.length + 1) c5)] 41)).heap.size) := Nat.le_trans gA.size gB.size; have HC6 := hide ((cWB.beside gA (fun g e => by simp at e; subst e; exact ⟨by omega, fun h b off e' => by have := unhide HC h b off e'; omega⟩)).grown gB); have HG6 := hide (grown_tb (grown_tb gWB gA (fun g e => by simp at e; omega)) gB (fun g e => by simp at e)); refine append_seg rfl _ _ rfl w.heap.size hi w2a.heap.size (.slice so ss.length sc) ss rfl (unhide HO6) (by have := unhide HSZ6; omega) (by omega) (by omega) _ _ (.slice b5 (bs.length + 1) c5) (bs ++ [y]) rfl (unhide HN6) (unhide HD6) (by omega) (by have := unhide HSZ6; omega) ?_; intro v7 w7 hO7 hg7 hv7))
          have hc7 := (unhide HC6).beside hg7 (fun g e => by
            have := hv7 g e
            exact ⟨by omega, fun h b off e' => by have := unhide HC h b off e'; omega⟩)
          have G7 := grown_tb (unhide HG6) hg7 (fun g e => (hv7 g e).1)
          have hgood := (unhide HGD).push (m := 0) (zs := (bs ++ [y])) HLZ HBZ
          obtain ⟨so7, sc7, rfl⟩ := hO7.form
          have HO7 := hide hO7
          have HGD7 := hide hgood
          clear hO7 hg7 hv7 hgood HO6 HD6 HN6 HC6 HG6 cs0 HGD HLZ HBZ hown5 hgrow5 hv5 c4 HO4 hB4 G4 OD4 OD cWB gWB HOW gA gB HO5 hBS
          go_wp2
          go_roundw
          case rel => exact ⟨ss ++ [(0, (bs ++ [y]))], j - 1, p4, 3, by go_num, rfl, by omega, by simp; omega, by simp; omega, unhide HGD7, hc7, unhide HO7, G7⟩
          case measure => simp [intOf]; omega
    · obtain rfl : j = 0 := by omega
      obtain ⟨so, sc, rfl⟩ := hok.form
      have hsl : ss.length ≤ 12 := by omega
      have hzr : w.heap.size ≤ wr.heap.size := hgk.size
      go_wp2_with fail
      refine (pick_of tb ao n cap q 24 zs wr hcu (by omega) (by omega) (by omega)).mono ?_
      rintro e w2 ⟨z, p2, rfl, hz0', hz1', c2, hp2, g2⟩
      have O2 := hide (((hok.cur g2 (Nat.le_refl _) htb)).base (hi' := w2.heap.size) (Nat.le_refl _) g2.size)
      have G2 := grown_trans hgk g2
      have hz2' : w.heap.size ≤ w2.heap.size := G2.size
      clear hcu hok hgk g2
      by_cases hzA : z = 0
      · subst hzA
        by_cases hl0 : 0 < ss.length
        · have hdl : decide ((0 : Int) < (ss.length : Int)) = true := decide_eq_true (by omega)
          go_wp2_with fail
          refine (pick_any tb ao n cap p2 ss.length zs w2 c2 (by omega) (by omega) (by omega)).mono ?_
          rintro e w3 ⟨x, p3, rfl, hx0, hx1, c3, hp3, g3⟩
          obtain ⟨k, rfl⟩ := Int.eq_ofNat_of_zero_le hx0
          have O3 := hide ((unhide O2).cur g3 (Nat.le_refl _) htb)
          have G3 := grown_trans G2 g3
          have hz3 := g3.size
          have hks : k < ss.length := by omega
          have HBN := hide (heap_alloc_new w3 (.cells #[.int .i64 0, .int .i64 240, .int .i64 248, .int .i64 254, .int .i64 255, .int .i64 256, .int .i64 (-1), .int .i64 247, .int .i64 239] 3))
          have c3a := c3.grown (World.grownBy_alloc w3 (.cells #[.int .i64 0, .int .i64 240, .int .i64 248, .int .i64 254, .int .i64 255, .int .i64 256, .int .i64 (-1), .int .i64 247, .int .i64 239] 3) none)
          have O3a := hide ((unhide O3).grown (World.grownBy_alloc w3 (.cells #[.int .i64 0, .int .i64 240, .int .i64 248, .int .i64 254, .int .i64 255, .int .i64 256, .int .i64 (-1), .int .i64 247, .int .i64 239] 3) none) (by omega))
          have G3a := grown_tb G3 (World.grownBy_alloc w3 (.cells #[.int .i64 0, .int .i64 240, .int .i64 248, .int .i64 254, .int .i64 255, .int .i64 256, .int .i64 (-1), .int .i64 247, .int .i64 239] 3) none) (fun g e => by simp at e)
          have hza : (w3.alloc (.cells #[.int .i64 0, .int .i64 240, .int .i64 248, .int .i64 254, .int .i64 255, .int .i64 256, .int .i64 (-1), .int .i64 247, .int .i64 239] 3)).heap.size = w3.heap.size + 1 := by simp
          have HZA := hide hza
          clear c2 O2 G2 g3 O3 c3 G3 hza
          go_wp2_with fail
          generalize (w3.alloc (.cells #[.int .i64 0, .int .i64 240, .int .i64 248, .int .i64 254, .int .i64 255, .int .i64 256, .int .i64 (-1), .int .i64 247, .int .i64 239] 3)) = w3a at *
          refine (pick_of tb ao n cap p3 9 zs w3a c3a (by omega) (by omega) (by omega)).mono ?_
          rintro e w4 ⟨y, p4, rfl, hy0, hy1, c4, hp4, g4⟩
          obtain ⟨i, rfl⟩ := Int.eq_ofNat_of_zero_le hy0
          have hza := unhide HZA
          have hB4 := (g4.block w3.heap.size (by omega) (by simp; omega)).trans (unhide HBN)
          have O4 := (unhide O3a).cur g4 (by omega) htb
          have G4 := grown_trans G3a g4
          obtain ⟨u, hcell⟩ : ∃ u, w4.cell? ⟨w3.heap.size, i, none⟩ = some (.int .i64 u) := by
            have h9 : i = 0 ∨ i = 1 ∨ i = 2 ∨ i = 3 ∨ i = 4 ∨ i = 5 ∨ i = 6 ∨ i = 7 ∨ i = 8 := by omega
            rcases h9 with rfl | rfl | rfl | rfl | rfl | rfl | rfl | rfl | rfl <;> exact ⟨_, by rw [cell_of_row w4 _ _ _ _ (0, 0) hB4]; rfl⟩
          obtain ⟨dd, oo1, oo2, oo3⟩ := O4
          obtain ⟨gg, hso, hgg1, hgg2⟩ := own_at oo1 hl0
          subst hso
          have O4 : OwnS w4 w.heap.size w2.heap.size (.slice (some ⟨gg, 0, none⟩) ss.length sc) ss := ⟨dd, oo1, oo2, oo3⟩
          have hgg3 : gg < w2.heap.size := oo2 gg rfl
          have hfz := oo1.frozenAt (k * 2)
          have hold : ∃ u', w4.cell? ⟨gg, k * 2, none⟩ = some u' := by rw [oo1.cellAt (k * 2) (by omega)]; exact ⟨_, List.getElem?_eq_getElem (by rw [oo1.1]; omega)⟩
          obtain ⟨u', hu'⟩ := hold
          have hz4 := g4.size
          have O5 := hide ((O4.setMark k hks u).base (hi' := (w4.setCell ⟨gg, k * 2, none⟩ (.int .i64 u)).heap.size) (Nat.le_refl _) (by simp; omega))
          have c5 := hide (c4.beside (grown_set w4 gg (k * 2) (.int .i64 u)) (fun g e => by simp at e; subst e; exact ⟨by omega, fun h b off e' => by have := unhide HC h b off e'; omega⟩))
          have G5 := hide (grown_tb G4 (grown_set w4 gg (k * 2) (.int .i64 u)) (fun g e => by simp at e; omega))
          have HGD5 := hide ((unhide HGD).setMark k hks u)
          clear O4 oo1 oo2 oo3 c4 G4 g4 hB4 O3a G3a c3a HBN
          have hi9 : i < 9 := by omega
          go_wp2
          go_ret
          refine ⟨_, some ⟨gg, 0, none⟩, sc, p4, by rw [List.length_set]; rfl, ?_, by rw [List.length_set]; omega, unhide HGD5, unhide c5, by omega, unhide G5⟩
          rw [List.length_set]
          exact unhide O5
        · have hdl : decide ((0 : Int) < (ss.length : Int)) = false := decide_eq_false (by omega)
          go_wp2
          go_ret
          exact ⟨ss, so, sc, p2, rfl, unhide O2, by omega, unhide HGD, c2, by omega, G2⟩
      · have hA : (z == 0) = false := by simpa using hzA
        by_cases hzB : z = 1
        · subst hzB
          go_wp2
          go_loopw [3] (fun v wr => ∃ (s2 : List (Int × List Int)) (q2 : Nat), s2.length ≤ 301 ∧ q2 ≤ p + 800 + 2 * s2.length ∧ GoodS s2 ∧ Cur wr tb ao n cap zs q2 ∧ OwnS wr w.heap.size wr.heap.size v s2 ∧ w.grownBy wr (some tb)) (fun v _ => match v with | .slice _ l _ => 302 - l | _ => 0)
          case atStart => exact ⟨ss, p2, by omega, by omega, unhide HGD, c2, unhide O2, G2⟩
          case round =>
            obtain ⟨s2, q2, hs2, hq2, hg2, hc2, ho2, hgr2⟩ := hrel
            obtain ⟨so2, sc2, rfl⟩ := ho2.form
            have HG2 := hide hg2
            have hzr2 := hgr2.size
            clear hg2 c2 O2 G2
            go_wp2_with fail
            refine (pick_of tb ao n cap q2 2 zs _ hc2 (by omega) (by omega) (by omega)).mono ?_
            rintro e w3 ⟨x, p3, rfl, hx0, hx1, c3, hp3, g3⟩
            have O3 := hide (ho2.cur g3 (Nat.le_refl _) htb)
            have G3 := grown_trans hgr2 g3
            have hz3 := g3.size
            clear hc2 ho2 hgr2 g3
            by_cases hlt3 : (s2.length : Int) < 300 + x
            · have hdl : decide ((s2.length : Int) < 300 + x) = true := decide_eq_true hlt3
              have O3a := hide ((unhide O3).grown (World.grownBy_alloc w3 (.cells #[.int .i64 7, .slice none 0 0] 41) none) hz3)
              have HN3 := hide (heap_alloc_new w3 (.cells #[.int .i64 7, .slice none 0 0] 41))
              have HZ3 : Hid ((w3.alloc (.cells #[.int .i64 7, .slice none 0 0] 41)).heap.size = w3.heap.size + 1) := by unfold Hid; simp
              have OD3 : Hid ((w3.alloc (.cells #[.int .i64 7, .slice none 0 0] 41)).ownsRow w3.heap.size 5 1 (.slice none 0 0) ([] : List Int).length (([] : List Int).map (Value.int .u8))) := World.ownsRow_nil _ _ _ _
              have HC3 := hide (c3.grown (World.grownBy_alloc w3 (.cells #[.int .i64 7, .slice none 0 0] 41) none))
              have HGa := hide (grown_tb G3 (World.grownBy_alloc w3 (.cells #[.int .i64 7, .slice none 0 0] 41) none) (fun g e => by simp at e))
              go_wp2_with (at_builtin; refine append_seg rfl _ _ rfl w.heap.size wr.heap.size w3.heap.size (.slice so2 s2.length sc2) s2 rfl (unhide O3a) (by have := unhide HZ3; omega) (by omega) hz3 _ _ (.slice none 0 0) ([] : List Int) rfl (unhide HN3) (unhide OD3) (by omega) (by have := unhide HZ3; omega) ?_; intro v7 w7 hO7 hg7 hv7)
              have hc7 := (unhide HC3).beside hg7 (fun g e => by
                have := hv7 g e
                exact ⟨by omega, fun h b off e' => by have := unhide HC h b off e'; omega⟩)
              have G7 := grown_tb (unhide HGa) hg7 (fun g e => (hv7 g e).1)
              have hgood := (unhide HG2).push (m := 7) (zs := []) (by simp) (by simp)
              obtain ⟨so7, sc7, rfl⟩ := hO7.form
              have HO7 := hide hO7
              have HGD7 := hide hgood
              clear hO7 hg7 hv7 hgood O3a HN3 OD3 HC3 HGa G3 c3 O3
              go_wp2
              go_roundw
              case rel => exact ⟨s2 ++ [(7, [])], p3, by simp; omega, by simp; omega, unhide HGD7, hc7, unhide HO7, G7⟩
              case measure => simp; omega
            · have hdl : decide ((s2.length : Int) < 300 + x) = false := decide_eq_false hlt3
              have O3b := hide ((unhide O3).base (hi' := w3.heap.size) (Nat.le_refl _) hz3)
              go_wp2
              go_ret
              exact ⟨s2, so2, sc2, p3, rfl, unhide O3b, by omega, unhide HG2, c3, by omega, G3⟩
        · have hB : (z == 1) = false := by simpa using hzB
          by_cases hzC : z = 2
          · subst hzC
            go_wp2_with fail
            refine (pick_of tb ao n cap p2 2 zs w2 c2 (by omega) (by omega) (by omega)).mono ?_
            rintro e w3 ⟨x, p3, rfl, hx0, hx1, c3, hp3, g3⟩
            have O3 := hide ((unhide O2).cur g3 (Nat.le_refl _) htb)
            have G3 := grown_trans G2 g3
            have hz3 := g3.size
            obtain ⟨t, hxt⟩ := Int.eq_ofNat_of_zero_le (show 0 ≤ 20000 + x by omega)
            have ht : t ≤ 20001 := by omega
            have HXT := hide hxt
            clear hxt c2 O2 G2 g3
            go_wp2_with (at_make; refine wpList_make_full _ rfl _ _ 22 rfl w3.heap.size 5 ib (.int .u8 0) 1 Tryd.underlying22 hib hb0 hb1 .i64 .i64 _ _ t rfl rfl (unhide HXT) (unhide HXT) (by rw [hb2]; omega) (by unfold maxLen; omega) (Nat.le_refl _) ?_)
            intro w4 hown4 hgrow4
            have OD4 : Hid (w4.ownsRow w3.heap.size 5 1 (.slice (some ⟨w3.heap.size, 0, none⟩) t t) (List.replicate t (0 : Int)).length ((List.replicate t (0 : Int)).map (Value.int .u8))) := by
              unfold Hid
              rw [List.length_replicate, List.map_replicate]
              have e : (madeCells #[Value.int .u8 0] t).toList = List.replicate t (.int .u8 0) := toList_madeCells_one _ _
              rw [← e]; exact hown4
            have O4 := hide ((unhide O3).grown hgrow4 hz3)
            have hz4 := hgrow4.size
            have O4a := hide ((unhide O4).grown (World.grownBy_alloc w4 (.cells #[.int .i64 9, .slice (some ⟨w3.heap.size, 0, none⟩) t t] 41) none) (by omega))
            have HN4 := hide (heap_alloc_new w4 (.cells #[.int .i64 9, .slice (some ⟨w3.heap.size, 0, none⟩) t t] 41))
            have HZ4 : Hid ((w4.alloc (.cells #[.int .i64 9, .slice (some ⟨w3.heap.size, 0, none⟩) t t] 41)).heap.size = w4.heap.size + 1) := by unfold Hid; simp
            have OD5 := hide ((unhide OD4).alloc (.cells #[.int .i64 9, .slice (some ⟨w3.heap.size, 0, none⟩) t t] 41))
            have HC4 := hide ((c3.grown hgrow4).grown (World.grownBy_alloc w4 (.cells #[.int .i64 9, .slice (some ⟨w3.heap.size, 0, none⟩) t t] 41) none))
            have HGa := hide (grown_tb (grown_tb G3 hgrow4 (fun g e => by simp at e)) (World.grownBy_alloc w4 (.cells #[.int .i64 9, .slice (some ⟨w3.heap.size, 0, none⟩) t t] 41) none) (fun g e => by simp at e))
            clear hown4 hgrow4 OD4 O4 O3 c3 G3
            go_wp2_with (at_builtin; refine append_seg rfl _ _ rfl w.heap.size w2.heap.size w3.heap.size (.slice so ss.length sc) ss rfl (unhide O4a) (by have := unhide HZ4; omega) (by omega) hz3 _ _ (.slice (some ⟨w3.heap.size, 0, none⟩) t t) (List.replicate t (0 : Int)) rfl (unhide HN4) (unhide OD5) (by omega) (by have := unhide HZ4; omega) ?_; intro v7 w7 hO7 hg7 hv7)
            have hc7 := (unhide HC4).beside hg7 (fun g e => by
              have := hv7 g e
              exact ⟨by omega, fun h b off e' => by have := unhide HC h b off e'; omega⟩)
            have G7 := grown_tb (unhide HGa) hg7 (fun g e => (hv7 g e).1)
            have hgood := (unhide HGD).push (m := 9) (zs := List.replicate t (0 : Int)) (by rw [List.length_replicate]; exact ht) (fun x hx => by have := List.eq_of_mem_replicate hx; omega)
            obtain ⟨so7, sc7, rfl⟩ := hO7.form
            have HO7 := hide hO7
            have HGD7 := hide hgood
            clear hO7 hg7 hv7 hgood O4a HN4 OD5 HC4 HGa HGD
            go_wp2
            go_ret
            exact ⟨_, so7, sc7, p3, rfl, unhide HO7, by simp; omega, unhide HGD7, hc7, by omega, G7⟩
          · have hC : (z == 2) = false := by simpa using hzC
            go_wp2
            go_ret
            exact ⟨ss, so, sc, p2, rfl, unhide O2, by omega, unhide HGD, c2, by omega, G2⟩

end Go.Proofs.YticecjodbhhcfaaDoor
