/-
  ScanCopy, SpoilPure, RawLast.
-/
import Derived.Test.YtnjcmlmgjoaeeaaMVd

namespace Go.Proofs.Ytnjcmlmgjoaeeaa
open Go.RowKit

/-- A list of numbers that is owned, nil or not, appended to a new one. -/
theorem append_copyN {w : World} {ops : Array Oper} {rest : List Oper} {o : Oper} {a : Act} {Q : Exit → Act → World → Prop} (hgd : o.guard = none) (s x : Operand)
    (ho : o.op = .call { callee := .builtin .append, args := #[s, x], argTypes := #[36, 36] })
    (sz : Nat) (hsz : w.heap.size = sz) (hs : a.eval s = .slice (some ⟨sz, 0, none⟩) 0 0) (v : Value) (A : List Int) (G : List Nat) (hv : OwI .i64 3 w v A G) (hx : a.eval x = v) (hb : A.length ≤ 1000)
    (hK : ∀ uo uc w', OwI .i64 3 w' (.slice uo A.length uc) A (blk (.slice uo A.length uc)) → (∀ g ∈ blk (.slice uo A.length uc), sz ≤ g) → w.grownBy w' none → wpList Try.prog ops Q rest (a.put o.dst (.slice uo A.length uc)) w') :
    wpList Try.prog ops Q (o :: rest) a (w.alloc (.cells #[] 3)) := by
  subst hsz
  obtain ⟨i0, hi, hz0, hz1, hz2⟩ := info_parts info_iS
  rcases hv.1.2 with ⟨e1, e2⟩ | ⟨g, cap, cur, e1, hbb, hh, hc, hm, hs2, ht⟩
  · subst e1
    obtain rfl : A = [] := List.length_eq_zero_iff.1 e2
    refine wpList_append_own_none hgd s x 36 ho 0 3 i0 1 Try.underlying36 hi _ 0 [] hs (World.ownsRow_lit w #[] 0 (Nat.zero_le _) (by unfold maxLen; omega) rfl) hx ?_
    exact hK (some ⟨w.heap.size, 0, none⟩) 0 _ ⟨World.ownsRow_lit w #[] 0 (Nat.zero_le _) (by unfold maxLen; omega) rfl, rfl⟩ (fun g hg => by have : w.heap.size = g := Option.some.inj (mem_blk.1 hg); omega) (World.grownBy_alloc _ _ _)
  · subst e1
    refine append_copyS hgd s x ho hs ⟨g, 0, none⟩ A.length cap A rfl hx (copy_news (n := A.length) rfl hv.1) hb ?_
    intro v' w' h1 h2 h3
    obtain ⟨uo, uc, rfl⟩ := own_form h1
    exact hK uo uc w' ⟨own_base h1 (Nat.zero_le _), rfl⟩ (fun x hx => h3 x (mem_blk.1 hx)) h2

set_option maxRecDepth 20000 in
set_option maxHeartbeats 1600000 in
theorem specCopyScan (w : World) (vo : Option Addr) (vn vc : Nat) (cs : List Int) (fr to hi lo : Int) (G : List Nat) (hv : OwI .i64 3 w (.slice vo vn vc) cs G) (hb : cs.length ≤ 1000) :
    Calls Try.prog 67 #[.agg #[.slice vo vn vc, .int .i64 fr, .int .i64 to, .int .i64 hi, .int .i64 lo]] w fun e w' => ∃ uo uc, e = .returned (.agg #[.slice uo cs.length uc, .int .i64 fr, .int .i64 to, .int .i64 hi, .int .i64 lo]) ∧ OwI .i64 3 w' (.slice uo cs.length uc) cs (blk (.slice uo cs.length uc)) ∧ (∀ g ∈ blk (.slice uo cs.length uc), w.heap.size ≤ g) ∧ w.grownBy w' none := by
  obtain ⟨W2, HW2⟩ : ∃ W2, Hid ((w.alloc (.cells #[.slice vo vn vc, .int .i64 fr, .int .i64 to, .int .i64 hi, .int .i64 lo] 38)).alloc (.cells #[.slice none 0 0, .int .i64 0, .int .i64 0, .int .i64 0, .int .i64 0] 38) = W2) := ⟨_, rfl⟩
  have G0 : w.grownBy W2 none := by rw [← unhide HW2]; exact grown_alloc (grown_alloc (World.grownBy.refl _ _) _) _
  have B0 : W2.heap[w.heap.size]? = some (.cells #[.slice vo vn vc, .int .i64 fr, .int .i64 to, .int .i64 hi, .int .i64 lo] 38 (0, 0)) := by
    rw [← unhide HW2]
    exact at_rowS (World.grownBy_alloc _ _ none) (heap_alloc_new w _) (by simp)
  have B1 : W2.heap[w.heap.size + 1]? = some (.cells #[.slice none 0 0, .int .i64 0, .int .i64 0, .int .i64 0, .int .i64 0] 38 (0, 0)) := by
    rw [← unhide HW2]
    have := heap_alloc_new (w.alloc (.cells #[.slice vo vn vc, .int .i64 fr, .int .i64 to, .int .i64 hi, .int .i64 lo] 38)) (.cells #[.slice none 0 0, .int .i64 0, .int .i64 0, .int .i64 0, .int .i64 0] 38)
    simpa using this
  have hs2 : W2.heap.size = w.heap.size + 2 := by rw [← unhide HW2]; simp
  have HV := hide ((OwI.ok .i64 3).keep hv G0)
  have HB0 := hide B0
  have HB1 := hide B1
  have HG0 := hide G0
  have HS2 := hide hs2
  have C0 : (W2.alloc (.cells #[] 3)).cell? ⟨w.heap.size, 0, none⟩ = some (.slice vo vn vc) := (scanCells (at_rowS (World.grownBy_alloc W2 _ none) B0 (by simp))).1
  rw [← unhide HW2] at C0
  clear hv G0 B0 B1 hs2
  go_enter Try.func67, Try.ntmps67
  go_wp2_with (at_builtin; rw [unhide HW2]; refine append_copyN (w := W2) rfl _ _ rfl (w.heap.size + 1 + 1) (unhide HS2) rfl (.slice vo vn vc) cs G (unhide HV) rfl hb ?_)
  intro uo uc w3 o3 l3 g3
  clear C0 HW2
  have B0 := at_rowS g3 (unhide HB0) (by simp)
  have B1 := at_rowS g3 (unhide HB1) (by simp)
  have HO3 := hide o3
  have HL3 := hide l3
  have HG3 := hide (grown_trans (unhide HG0) g3)
  have hz3 := g3.size
  have c0 := (scanCells B0).1
  have f0 := frozen_of_row w3 w.heap.size 0 _ _ B0
  have D0 := heap_setCell_same w3 w.heap.size 0 _ _ (.slice uo cs.length uc) B0
  simp only [List.setIfInBounds_toArray, List.set_cons_zero] at D0
  have G4 := grown_set w3 w.heap.size 0 (.slice uo cs.length uc)
  have E1 := at_rowS G4 B1 (by simp)
  obtain ⟨w4, HW4⟩ : ∃ w4, Hid (w3.setCell ⟨w.heap.size, 0, none⟩ (.slice uo cs.length uc) = w4) := ⟨_, rfl⟩
  have D0' := D0
  rw [unhide HW4] at D0' E1 G4
  obtain ⟨d0, d1, d2, d3, d4⟩ := scanCells D0
  have HE1 := hide E1
  have HG4 := hide G4
  clear B0 B1 D0 D0' E1 G4 o3 l3 g3 HB0 HB1 HG0 HV HS2
  go_wp2_with (rw [unhide HW4]; refine wpList_store_row rfl 38 _ _ rfl (w.heap.size + 1) rfl #[.slice uo cs.length uc, .int .i64 fr, .int .i64 to, .int .i64 hi, .int .i64 lo] rfl #[.slice none 0 0, .int .i64 0, .int .i64 0, .int .i64 0, .int .i64 0] 38 (unhide HE1) rfl (by kernel_rfl) (by simp [Value.oneCell']) ?_)
  intro w5 B5 g5
  have HF : Hid (OwI .i64 3 w5 (.slice uo cs.length uc) cs (blk (.slice uo cs.length uc)) ∧ (∀ g ∈ blk (.slice uo cs.length uc), w.heap.size ≤ g) ∧ w.grownBy w5 none) := by
    have hl := unhide HL3
    refine ⟨(OwI.ok .i64 3).wr ((OwI.ok .i64 3).wr (unhide HO3) (Wr.ofRow (F := [w.heap.size]) (unhide HG4) (fun x e => by simp at e; simp [e])) (fun x hx e => by simp at e; have := hl x hx; omega)) (Wr.ofRow (F := [w.heap.size + 1]) g5 (fun x e => by simp at e; simp [e])) (fun x hx e => by simp at e; have := hl x hx; omega), fun g hg => by have := hl g hg; omega, ?_⟩
    exact grown_new (grown_new (unhide HG3) (unhide HG4) (fun k e => by simp at e; omega)) g5 (fun k e => by simp at e; omega)
  obtain ⟨s0, s1, s2, s3, s4⟩ := scanCells B5
  clear B5 g5 HO3 HL3 HG3 HG4 HE1 HW4 d0 d1 d2 d3 d4 c0 f0
  go_wp2
  refine bodyPost_ret (v := .agg #[.slice uo cs.length uc, .int .i64 fr, .int .i64 to, .int .i64 hi, .int .i64 lo]) (by simp [results, Try.results67, go_sem, s0, s1, s2, s3, s4]) rfl ?_
  exact ⟨uo, uc, rfl, unhide HF⟩

end Go.Proofs.Ytnjcmlmgjoaeeaa

namespace Go.Proofs.Ytnjcmlmgjoaeeaa
open Go.RowKit

/-- A row's capacity. -/
def capV : Value → Prop
  | .slice _ n c => n ≤ c
  | _ => False
theorem own_capV {w : World} {base sz n : Nat} {e : TypeId} {v : Value} {xs : List Value} (h : w.ownsRow base e sz v n xs) : capV v := by
  rcases h.2 with ⟨e1, _⟩ | ⟨g, c, cur, e1, _, _, hc, _⟩
  · subst e1; exact Nat.le_refl _
  · subst e1; exact hc
/-- A script that is read in no block below lo. -/
def RdT (lo : Nat) (w : World) (u : Value) (X : List Scn) : Prop := capV u ∧ ∀ W, (∀ b, lo ≤ b → b < w.heap.size → W.heap[b]? = w.heap[b]?) → RdSs W u X
theorem RdT.of {lo : Nat} {w : World} {u : Value} {X : List Scn} {F : List Nat} (h : OwSs w u X F) (hF : ∀ g ∈ F, lo ≤ g) : RdT lo w u X :=
  ⟨by obtain ⟨U, Fs, _, h3, _, _⟩ := h; exact own_capV h3, fun _ hW => OwSs.rd (OwSs.ok.same _ _ _ _ _ h (fun g hg => hW g (hF g hg) (OwSs.ok.lt _ _ _ _ h g hg)))⟩
theorem RdT.rd {lo : Nat} {w : World} {u : Value} {X : List Scn} (h : RdT lo w u X) : RdSs w u X := h.2 w (fun _ _ _ => rfl)
theorem RdT.less {lo lo' : Nat} {w : World} {u : Value} {X : List Scn} (h : RdT lo w u X) (hl : lo' ≤ lo) : RdT lo' w u X := ⟨h.1, fun W hW => h.2 W (fun b h1 h2 => hW b (by omega) h2)⟩
theorem RdT.keep {lo : Nat} {w w' : World} {u : Value} {X : List Scn} {tb : Nat} (h : RdT lo w u X) (g : w.grownBy w' (some tb)) (ht : tb < lo) : RdT lo w' u X := ⟨h.1, fun W hW =>
  h.2 W (fun b h1 h2 => (hW b h1 (Nat.lt_of_lt_of_le h2 g.size)).trans (g.block b h2 (by simp; omega)))⟩
theorem RdT.new {lo : Nat} {w w' : World} {u : Value} {X : List Scn} (h : RdT lo w u X) (g : w.grownBy w' none) : RdT lo w' u X := ⟨h.1, fun W hW =>
  h.2 W (fun b h1 h2 => (hW b h1 (Nat.lt_of_lt_of_le h2 g.size)).trans (g.block b h2 (by simp)))⟩
/-- Its beginning. -/
theorem RdSs.take {w : World} {ao : Option Addr} {m cap : Nat} {X : List Scn} (h : RdSs w (.slice ao m cap) X) (k : Nat) (hk : k ≤ X.length) (c' : Nat) : RdSs w (.slice ao k c') (X.take k) := by
  obtain ⟨ao', cap', e, hel⟩ := h
  obtain ⟨rfl, -, -⟩ := Value.slice.inj e
  refine ⟨ao, c', by rw [List.length_take]; congr 1; omega, fun i hi => ?_⟩
  rw [List.length_take] at hi
  obtain ⟨b, off, c, e1, h1, h2⟩ := hel i (by omega)
  exact ⟨b, off, c, e1, h1, by rw [List.getElem_take]; exact h2⟩
theorem RdT.form {lo : Nat} {w : World} {ao : Option Addr} {m cap : Nat} {X : List Scn} (h : RdT lo w (.slice ao m cap) X) : m = X.length ∧ m ≤ cap := by
  obtain ⟨ao', cap', e, _⟩ := h.rd
  obtain ⟨-, e2, -⟩ := Value.slice.inj e
  exact ⟨e2, h.1⟩
theorem RdT.take {lo : Nat} {w : World} {ao : Option Addr} {m cap : Nat} {X : List Scn} (h : RdT lo w (.slice ao m cap) X) (k : Nat) (hk : k ≤ m) : RdT lo w (.slice ao k cap) (X.take k) := by
  have hf := h.form
  exact ⟨by show k ≤ cap; omega, fun W hW => (h.2 W hW).take k (by omega) cap⟩

/-- A script of the drawer's own, beside the drawer. -/
structure Dt (w : World) (tb : Nat) (ao : Option Addr) (n cap : Nat) (zs : List Int) (wr : World) (v : Value) (X : List Scn) (F : List Nat) (q : Nat) : Prop where
  own : OwSs wr v X F
  nd : F.Nodup
  lo : ∀ g ∈ F, w.heap.size ≤ g
  cur : Cur wr tb ao n cap zs q
  grown : w.grownBy wr (some tb)
section
variable {w wr w' : World} {tb : Nat} {ao : Option Addr} {n cap : Nat} {zs : List Int} {v v' : Value} {X R : List Scn} {F F' G : List Nat} {q q' : Nat}
theorem cur_wr (d : Dy w tb ao n) (hs : w.heap.size ≤ wr.heap.size) (c : Cur wr tb ao n cap zs q) {H : List Nat} (g : Wr H wr w') (hH : ∀ x ∈ H, w.heap.size ≤ x) : Cur w' tb ao n cap zs q := by
  have l1 := d.l1
  refine ⟨?_, ?_, c.ne, c.byte, c.len⟩
  · obtain ⟨s, c1, c2⟩ := c.cu
    exact ⟨s, (g.block tb c.lt (fun e => by have := hH _ e; omega)).trans c1, c2⟩
  · refine ⟨c.rd.1, fun i hi => ?_⟩
    obtain ⟨b, off, e1, e2⟩ := c.rd.2 i hi
    have hb := d.code (by omega) b off e1
    refine ⟨b, off, e1, ?_⟩
    have h9 := g.block b (by omega) (fun e => by have := hH _ e; omega)
    rw [← e2]
    simp only [World.cell?, h9]
theorem grown_wr (h : w.grownBy wr (some tb)) {H : List Nat} (g : Wr H wr w') (hH : ∀ x ∈ H, w.heap.size ≤ x) : w.grownBy w' (some tb) :=
  ⟨g.os.trans h.os, g.tape.trans h.tape, g.output.trans h.output, Nat.le_trans h.size g.size, fun k hk hne => (g.block k (by have := h.size; omega) (fun e => by have := hH _ e; omega)).trans (h.block k hk hne)⟩
theorem Dt.new (h : Dt w tb ao n cap zs wr v X F q) (g : wr.grownBy w' none) : Dt w tb ao n cap zs w' v X F q :=
  ⟨OwSs.ok.keep h.own g, h.nd, h.lo, h.cur.grown g, grown_trans h.grown (grown_any g)⟩
theorem Dt.pick (h : Dt w tb ao n cap zs wr v X F q) (d : Dy w tb ao n) (c : Cur w' tb ao n cap zs q') (g : wr.grownBy w' (some tb)) : Dt w tb ao n cap zs w' v X F q' := by
  have l1 := d.l1
  exact ⟨OwSs.ok.wr h.own (Wr.ofRow (F := [tb]) g (fun x e => by simp at e; simp [e])) (fun x hx e => by simp at e; have := h.lo x hx; omega), h.nd, h.lo, c, grown_trans h.grown g⟩
theorem Dt.blkF (h : Dt w tb ao n cap zs wr v X F q) : ∀ g, v.ownBlock = some g → g ∈ F := fun g e => by
  obtain ⟨U, Fs, _, _, _, e9⟩ := h.own
  rw [e9]; simp [mem_blk.2 e]
theorem Dt.other (h : Dt w tb ao n cap zs wr v X F q) (d : Dy w tb ao n) (o : OwSs w' v' R F') (nd : F'.Nodup) (hm : ∀ x ∈ F', w.heap.size ≤ x) {H : List Nat} (g : Wr H wr w') (hH : ∀ x ∈ H, w.heap.size ≤ x) : Dt w tb ao n cap zs w' v' R F' q :=
  ⟨o, nd, hm, cur_wr d h.grown.size h.cur g hH, grown_wr h.grown g hH⟩
/-- A scan is appended. -/
theorem Dt.app {wn : World} (h : Dt w tb ao n cap zs wr v X F q) (d : Dy w tb ao n) (gn : wr.grownBy wn none) {ops : Array Oper} {rest : List Oper} {o : Oper} {a : Act} {Q : Exit → Act → World → Prop} (hgd : o.guard = none) (s x : Operand)
    (ho : o.op = .call { callee := .builtin .append, args := #[s, x], argTypes := #[27, 27] }) (hs : a.eval s = v) (u : Value) (y : Scn) (G : List Nat) (hu : OwI .i64 3 wn u y.cs G) (hlo : ∀ x ∈ G, wr.heap.size ≤ x) (cs : Array Value) (hcs : cs = #[u, .int .i64 y.fr, .int .i64 y.to, .int .i64 y.hi, .int .i64 y.lo])
    (H : Nat) (hH : wn.heap.size = H) (hx : a.eval x = .slice (some ⟨H, 0, none⟩) 1 1) (hb : X.length ≤ 10000)
    (hK : ∀ v' w' F', Dt w tb ao n cap zs w' v' (X ++ [y]) F' q → Wr (blk v) wr w' → (∀ x ∈ F', x ∈ F ∨ wr.heap.size ≤ x) → wpList Try.prog ops Q rest (a.put o.dst v') w') :
    wpList Try.prog ops Q (o :: rest) a (wn.alloc (.cells cs 38)) := by
  subst hcs
  have hn := h.new gn
  have gs := gn.size
  have hz := h.grown.size
  have hG : G.Nodup := hu.nodup
  have h1 : ∀ i (h : i < [y].length), OwScE wn (five u (.int .i64 y.fr) (.int .i64 y.to) (.int .i64 y.hi) (.int .i64 y.lo)) [y][i] ([G].getD i []) := fun i hi => by
    obtain rfl : i = 0 := by simpa using hi
    exact ⟨⟨rfl, rfl, rfl, rfl⟩, hu⟩
  refine append_rowsG (w := wn) OwScE.ok Try.underlying27 info_scan rfl (by decide) (by decide) hgd s x ho v X F hs hn.own hn.nd _ 1 (fun _ => five u (.int .i64 y.fr) (.int .i64 y.to) (.int .i64 y.hi) (.int .i64 y.lo)) rfl [y] rfl [G] rfl h1 (by simpa using hG) (fun z hz hF => ?_) ?_ H hH hx (by omega) _ rfl ?_
  · have e1 := hlo z (by simpa using hz)
    have e2 := OwSs.ok.lt _ _ _ _ h.own z hF
    omega
  · intro z hz
    obtain ⟨uo, un, uc, rfl⟩ := (OwI.ok .i64 3).form _ _ _ _ hu
    simp at hz
    rcases hz with rfl | rfl | rfl | rfl | rfl <;> rfl
  · intro v' w' F' o' n' m' g'
    have hD : Dt w tb ao n cap zs w' v' (X ++ [y]) F' q := hn.other d o' n' (fun z hz => by
      rcases m' z hz with e | e | e
      · exact h.lo z e
      · have := hlo z (by simpa using e); omega
      · omega) g' (fun z hz => h.lo z (h.blkF z (mem_blk.1 hz)))
    refine hK v' w' F' hD ((Wr.ofNone gn).trans g') (fun z hz => ?_)
    rcases m' z hz with e | e | e
    · exact .inl e
    · exact .inr (hlo z (by simpa using e))
    · exact .inr (by omega)
end

/-- Rows of numbers and rows of scans lie in different blocks. -/
theorem row_kinds {w : World} {base base' sz n n' : Nat} {u v : Value} {xs ys : List Value} (h : w.ownsRow base 38 sz v n xs) (h' : w.ownsRow base' 3 1 u n' ys) : ∀ x, v.ownBlock = some x → u.ownBlock ≠ some x := by
  intro x hx hy
  rcases h.2 with ⟨e1, _⟩ | ⟨g, c, cur, e1, _, hh, _⟩
  · subst e1; simp [Value.ownBlock] at hx
  · subst e1
    rcases h'.2 with ⟨e2, _⟩ | ⟨g', c', cur', e2, _, hh', _⟩
    · subst e2; simp [Value.ownBlock] at hy
    · subst e2
      have e3 : g = x := Option.some.inj hx
      have e4 : g' = x := Option.some.inj hy
      subst e3 e4
      rw [hh] at hh'
      simp at hh'
theorem OwSs.kinds {w : World} {v u : Value} {X : List Scn} {F G : List Nat} {cs : List Int} (h : OwSs w v X F) (h' : OwI .i64 3 w u cs G) : ∀ x ∈ G, x ∉ blk v := fun x hx hy => by
  obtain ⟨U, Fs, _, h3, _, _⟩ := h
  rw [h'.2] at hx
  exact row_kinds h3 h'.1 x (mem_blk.1 hy) (mem_blk.1 hx)

/-- Five cells of a row are written. -/
def put5 (w : World) (g k : Nat) (u : Value) (y : Scn) : World := ((((w.setCell ⟨g, k * 5, none⟩ u).setCell ⟨g, k * 5 + 1, none⟩ (.int .i64 y.fr)).setCell ⟨g, k * 5 + 2, none⟩ (.int .i64 y.to)).setCell ⟨g, k * 5 + 3, none⟩ (.int .i64 y.hi)).setCell ⟨g, k * 5 + 4, none⟩ (.int .i64 y.lo)
theorem put5_grown (w : World) (g k : Nat) (u : Value) (y : Scn) : w.grownBy (put5 w g k u y) (some g) :=
  grown_trans (grown_trans (grown_trans (grown_trans (grown_set _ g _ _) (grown_set _ g _ _)) (grown_set _ g _ _)) (grown_set _ g _ _)) (grown_set _ g _ _)

/-- A scan of a script is written anew; its components may have been written ahead of that. -/
theorem put_rd {w w1 : World} {lo g oc k : Nat} {X : List Scn} {F : List Nat} (h : OwSs w (.slice (some ⟨g, 0, none⟩) X.length oc) X F) (nd : F.Nodup) (hlo : ∀ x ∈ F, lo ≤ x) (hk : k < X.length) {cv : Value} (hc : w.cell? ⟨g, k * 5, none⟩ = some cv) {H : List Nat} (hw : Wr (blk cv ++ H) w w1) (hH : ∀ x ∈ H, x ∉ F) {u : Value} {y : Scn} {G : List Nat} (hu : OwI .i64 3 w1 u y.cs G) (hG : ∀ x ∈ G, lo ≤ x) :
    RdT lo (put5 w1 g k u y) (.slice (some ⟨g, 0, none⟩) X.length oc) (X.set k y) := by
  obtain ⟨U, Fs, h2, h3, h4, rfl⟩ := h
  have hgF : g ∈ blk (.slice (some ⟨g, 0, none⟩) X.length oc) := mem_blk.2 rfl
  have hn := List.nodup_append.1 nd
  have hgi : ∀ j, j < X.length → g ∉ Fs.getD j [] := fun j hj hx => hn.2.2 g hgF g (flat_in (by omega) g hx) rfl
  have eU : U k 0 = cv := by
    have := cellG h3 k 0 hk (by omega)
    rw [Nat.add_zero, hc] at this
    exact (Option.some.inj this).symm
  have eF : Fs.getD k [] = blk cv := by rw [← eU]; exact (h4 k hk).2.2
  have hgH : g ∉ blk cv ++ H := fun e => by
    rcases List.mem_append.1 e with e | e
    · exact hgi k hk (by rw [eF]; exact e)
    · exact hH g e (by simp [hgF])
  have h3' := own_sameAt (w' := w1) h3 (fun x hx => hw.block x (h3.lt x hx).2 (by have e9 : g = x := Option.some.inj hx; subst e9; exact hgH))
  have hgG : ∀ x ∈ G, x ≠ g := fun x hx e => by
    subst e
    rw [hu.2] at hx
    exact row_kinds h3' hu.1 x rfl (mem_blk.1 hx)
  have g5 := put5_grown w1 g k u y
  have h5 := own5 h3' k u (.int .i64 y.fr) (.int .i64 y.to) (.int .i64 y.hi) (.int .i64 y.lo)
  refine ⟨own_capV h5, fun W hW => ?_⟩
  have hlog : lo ≤ g := hlo g (by simp [hgF])
  have h6 : W.ownsRow 0 38 5 (.slice (some ⟨g, 0, none⟩) X.length oc) X.length _ := own_sameAt h5 (fun x hx => hW x (by have e9 : g = x := Option.some.inj hx; omega) (h5.lt x hx).2)
  have hsame : ∀ x, lo ≤ x → x < w1.heap.size → x ≠ g → W.heap[x]? = w1.heap[x]? := fun x h7 h8 h9 =>
    (hW x h7 (Nat.lt_of_lt_of_le h8 g5.size)).trans (g5.block x h8 (by simp; exact h9))
  refine ⟨some ⟨g, 0, none⟩, oc, by simp, fun i hi => ?_⟩
  rw [List.length_set] at hi
  refine ⟨g, 0, _, rfl, fun j hj => by rw [Nat.zero_add]; exact cellG h6 i j hi hj, ?_⟩
  by_cases e9 : k = i
  · subst e9
    rw [List.getElem_set_self]
    simp only [if_true]
    exact ⟨⟨rfl, rfl, rfl, rfl⟩, OwI.rd ((OwI.ok .i64 3).same w1 W _ _ _ hu (fun x hx => hsame x (hG x hx) ((OwI.ok .i64 3).lt _ _ _ _ hu x hx) (hgG x hx)))⟩
  · rw [List.getElem_set_ne e9]
    have ec : (fun q => if i = k then five u (.int .i64 y.fr) (.int .i64 y.to) (.int .i64 y.hi) (.int .i64 y.lo) q else U i q) = U i := by funext q; rw [if_neg (fun e => e9 e.symm)]
    rw [ec]
    have hi4 := h4 i hi
    refine ⟨hi4.1, OwI.rd ((OwI.ok .i64 3).same w W _ _ _ hi4.2 (fun x hx => ?_))⟩
    have hxF : x ∈ Fs.flatten := flat_in (by omega) x hx
    have hxw := (OwI.ok .i64 3).lt _ _ _ _ hi4.2 x hx
    have hxH : x ∉ blk cv ++ H := fun e => by
      rcases List.mem_append.1 e with e | e
      · exact flat_apart hn.2.1 (by omega) (by omega) (fun e => e9 e.symm) x hx (by rw [eF]; exact e)
      · exact hH x e (by simp [hxF])
    exact (hsame x (hlo x (by simp [hxF])) (Nat.lt_of_lt_of_le hxw hw.size) (fun e => by subst e; exact hgi i hi hx)).trans (hw.block x hxw hxH)

theorem rowsK_split (n k sz : Nat) (hsz : 0 < sz) (hk : k ≤ n) (U : Nat → Nat → Value) : rowsK n sz U = rowsK k sz U ++ rowsK (n - k) sz (fun i q => U (k + i) q) := by
  rw [rowsK_append k (n - k) sz hsz, show k + (n - k) = n by omega]
  apply rowsK_congr
  intro i q _ _
  by_cases h : i < k
  · rw [if_pos h]
  · rw [if_neg h, show k + (i - k) = i by omega]
theorem rowsK_mem {n sz : Nat} {U : Nat → Nat → Value} (hsz : 0 < sz) {j : Nat} {v : Value} (h : (rowsK n sz U)[j]? = some v) : j / sz < n ∧ j % sz < sz ∧ j = j / sz * sz + j % sz ∧ v = U (j / sz) (j % sz) := by
  have hl := (List.getElem?_eq_some_iff.1 h).1
  rw [rowsK_len] at hl
  have hi : j / sz < n := Nat.div_lt_of_lt_mul (by rw [Nat.mul_comm]; exact hl)
  have hq : j % sz < sz := Nat.mod_lt _ hsz
  have hd : j = (j / sz) * sz + j % sz := by have := Nat.div_add_mod j sz; rw [Nat.mul_comm] at this; omega
  refine ⟨hi, hq, hd, ?_⟩
  rw [hd, rowsK_get n sz U _ _ hi hq] at h
  exact (Option.some.inj h).symm
theorem own_cut {w : World} {base g n oc k : Nat} {e : TypeId} {U : Nat → Nat → Value} (h : w.ownsRow base e 5 (.slice (some ⟨g, 0, none⟩) n oc) n (rowsK n 5 U)) (hk : k ≤ n) : w.ownsRow base e 5 (.slice (some ⟨g, 0, none⟩) k oc) k (rowsK k 5 U) := by
  refine ⟨rowsK_len _ _ _, ?_⟩
  rcases h.2 with ⟨e1, _⟩ | ⟨g', c, cur, e1, hb, hh, hc, hm, hs, ht⟩
  · simp at e1
  · obtain ⟨e2, -, e3⟩ := Value.slice.inj e1
    subst e3
    obtain rfl : g = g' := by simpa using e2
    refine .inr ⟨g, oc, cur, rfl, hb, hh, by omega, hm, hs, ?_⟩
    have e4 : cur.toList.take (k * 5) = (cur.toList.take (n * 5)).take (k * 5) := by rw [List.take_take]; congr 1; omega
    rw [e4, ht, rowsK_split n k 5 (by omega) hk, List.take_left' (rowsK_len _ _ _)]

/-- A scan of a script is taken out of it. -/
theorem cut_rd {w : World} {lo g oc k : Nat} {X : List Scn} {F : List Nat} (h : OwSs w (.slice (some ⟨g, 0, none⟩) X.length oc) X F) (nd : F.Nodup) (hlo : ∀ x ∈ F, lo ≤ x) (hk : k < X.length) :
    ∃ U : Nat → Nat → Value, w.ownsRow 0 38 5 (.slice (some ⟨g, 0, none⟩) k oc) k (rowsK k 5 U) ∧ (∀ j v, (rowsK (X.length - (k + 1)) 5 (fun i q => U (k + 1 + i) q))[j]? = some v → w.cell? ((⟨g, (k + 1) * 5, none⟩ : Addr).add j) = some v) ∧ (∀ v ∈ rowsK (X.length - (k + 1)) 5 (fun i q => U (k + 1 + i) q), v.oneCell' = true) ∧
      ∀ w' v', w'.ownsRow 0 38 5 v' (k + (X.length - (k + 1))) (rowsK k 5 U ++ rowsK (X.length - (k + 1)) 5 (fun i q => U (k + 1 + i) q)) → w.grownBy w' (some g) → (v'.ownBlock = some g ∨ v'.ownBlock = some w.heap.size) → lo ≤ w.heap.size → RdT lo w' v' (X.eraseIdx k) := by
  obtain ⟨U, Fs, h2, h3, h4, rfl⟩ := h
  have hgF : g ∈ blk (.slice (some ⟨g, 0, none⟩) X.length oc) := mem_blk.2 rfl
  have hn := List.nodup_append.1 nd
  have hgi : ∀ j, j < X.length → g ∉ Fs.getD j [] := fun j hj hx => hn.2.2 g hgF g (flat_in (by omega) g hx) rfl
  refine ⟨U, own_cut h3 (by omega), fun j v hj => ?_, fun v hv => ?_, fun w' v' h1 hg hb hl => ⟨own_capV h1, fun W hW => ?_⟩⟩
  · obtain ⟨hi, hq, hd, rfl⟩ := rowsK_mem (by omega) hj
    have := cellG h3 (k + 1 + j / 5) (j % 5) (by omega) hq
    rw [Addr.add_lit, ← this]
    congr 2
    omega
  · obtain ⟨j, hj⟩ := List.mem_iff_getElem?.1 hv
    obtain ⟨hi, hq, hd, rfl⟩ := rowsK_mem (by omega) hj
    have h5 := h4 (k + 1 + j / 5) (by omega)
    obtain ⟨⟨e1, e2, e3, e4⟩, h6⟩ := h5
    obtain ⟨uo, un, uc, e0⟩ := (OwI.ok .i64 3).form _ _ _ _ h6
    have hc : j % 5 = 0 ∨ j % 5 = 1 ∨ j % 5 = 2 ∨ j % 5 = 3 ∨ j % 5 = 4 := by omega
    rcases hc with hc | hc | hc | hc | hc <;> rw [hc]
    · rw [e0]; rfl
    · rw [e1]; rfl
    · rw [e2]; rfl
    · rw [e3]; rfl
    · rw [e4]; rfl
  · rw [rowsK_append k _ 5 (by omega)] at h1
    have hlen : (X.eraseIdx k).length = k + (X.length - (k + 1)) := by rw [List.length_eraseIdx_of_lt hk]; omega
    have hsm : ∀ x, lo ≤ x → x < w.heap.size → x ≠ g → W.heap[x]? = w.heap[x]? := fun x h5 h6 h7 => (hW x h5 (Nat.lt_of_lt_of_le h6 hg.size)).trans (hg.block x h6 (by simp; exact h7))
    have hlog : lo ≤ g := hlo g (by simp [hgF])
    have h6 := own_sameAt (w' := W) h1 (fun x hx => hW x (by rcases hb with e | e <;> rw [e] at hx <;> have := Option.some.inj hx <;> omega) (h1.lt x hx).2)
    obtain ⟨ao, cap, rfl⟩ := own_form h6
    refine ⟨ao, cap, by rw [hlen], fun i hi => ?_⟩
    rw [hlen] at hi
    obtain ⟨g', rfl, _, _⟩ := own_at h6 (by omega)
    refine ⟨g', 0, _, rfl, fun j hj => by rw [Nat.zero_add]; exact cellG h6 i j hi hj, ?_⟩
    have hel : ∀ i' (h : i' < X.length), RdScE W (U i') X[i'] := fun i' hi' => by
      have hi4 := h4 i' hi'
      refine ⟨hi4.1, OwI.rd ((OwI.ok .i64 3).same w W _ _ _ hi4.2 (fun x hx => ?_))⟩
      exact hsm x (hlo x (by simp [flat_in (show i' < Fs.length by omega) x hx])) ((OwI.ok .i64 3).lt _ _ _ _ hi4.2 x hx) (fun e => by subst e; exact hgi i' hi' hx)
    rw [List.getElem_eraseIdx]
    by_cases h9 : i < k
    · simp only [h9, if_true, dif_pos]
      exact hel i (by omega)
    · simp only [h9, if_false, dif_neg, not_false_eq_true]
      have := hel (i + 1) (by omega)
      rw [show k + 1 + (i - k) = i + 1 by omega]
      exact this

end Go.Proofs.Ytnjcmlmgjoaeeaa

namespace Go.Proofs.Ytnjcmlmgjoaeeaa
open Go.RowKit

section
variable {P : Program} {ops : Array Oper} {md : Region.Mode} {S : World → Prop} {Q : Exit → Act → World → Prop} {m : Nat}
def lexRawT (md : Region.Mode) (ops : Array Oper) (m f : Nat) : List Bool → Nat → Array Bool → Bool
  | [], _, _ => true
  | true :: ms, k, listed => (Region.ready md ops listed).contains k && Region.free md ops listed k && (k != m) && waits md ops (f + 1) m k && lexRawT md ops m f ms (k + 1) (listed.setIfInBounds k true)
  | false :: ms, k, listed => lexRawT md ops m f ms (k + 1) listed
theorem anyT_raw {f fl : Nat} (hs : Region.noSelect ops = true) (hQ : ∀ c a d v w, Q (.panic c) (Act.put a d v) w → Q (.panic c) a w) :
    ∀ (l : List Oper) (ms : List Bool) (k : Nat) (listed : Array Bool) (a : Act) (w : World), l.length = ms.length → (∀ j, j < l.length → l[j]? = ops[k + j]?) → Cl md ops listed →
    lexRawT md ops m f ms k listed = true → S w → heldF P ops S (fun a' => wpAnyT P md ops Q S m fl (listedOf ms k listed) a' w) l ms a → wpAnyT P md ops Q S m (takenF ms + fl) listed a w
  | [], [], _, listed, a, w, _, _, _, _, _, h => by simp only [takenF, Nat.zero_add]; exact h
  | [], _ :: _, _, _, _, _, hl, _, _, _, _, _ => by simp at hl
  | _ :: _, [], _, _, _, _, hl, _, _, _, _, _ => by simp at hl
  | o :: l, true :: ms, k, listed, a, w, hl, ha, hcl, hB, hS, h => by
    have h0 : ops[k]? = some o := by have := ha 0 (by simp); simpa using this.symm
    simp only [lexRawT, Bool.and_eq_true, bne_iff_ne] at hB
    obtain ⟨⟨⟨⟨hr, hf⟩, hne⟩, hw⟩, hB'⟩ := hB
    obtain ⟨v, hy, hK⟩ := h
    have hrm : k ∈ Region.ready md ops listed := by simpa using hr
    have e : takenF (true :: ms) + fl = (takenF ms + fl) + 1 := by simp only [takenF]; omega
    rw [e]
    exact wpAnyT_first h0 hne hw (Region.noSelect_spec hs) (fun c a' w' hq => hQ c a' _ _ w' hq) _ listed a w hcl (Region.free_spec h0 hf) hrm hy hS
      (anyT_raw hs hQ l ms (k + 1) _ _ w (by simpa using hl) (fun j hj => by have := ha (j + 1) (by simpa using hj); simpa [Nat.add_assoc, Nat.add_comm 1 j] using this) (hcl.set hrm) hB' hS hK)
  | o :: l, false :: ms, k, listed, a, w, hl, ha, hcl, hB, hS, h =>
    anyT_raw hs hQ l ms (k + 1) listed a w (by simpa using hl) (fun j hj => by have := ha (j + 1) (by simpa using hj); simpa [Nat.add_assoc, Nat.add_comm 1 j] using this) hcl hB hS h

theorem anyT_step1 {l : List Oper} {i f : Nat} {o : Oper} {listed : Array Bool} {a : Act} {w : World} (ho : l[i]? = some o) (hr : Region.ready md l.toArray listed = [i])
    (h : ∀ K' : Act → World → Prop, Shut (∀ a w, (i = m ∨ S w) → wpAnyT P md l.toArray Q S m f (listed.setIfInBounds i true) a w → K' a w) → if Region.wanted o (yielded l.toArray a.tmps) = true then Oper.wp P o a w K' Q else K' (a.put o.dst undef) w) :
    wpAnyT P md l.toArray Q S m (f + 1) listed a w := by
  refine ⟨fun h1 => by rw [hr] at h1; simp at h1, fun j hj => ?_⟩
  rw [hr] at hj
  obtain rfl : j = i := by simpa using hj
  exact wpOp_step (by simpa using ho) (fun K' hK => h K' (fun a' w' hS ht => hK a' w' ⟨hS, ht⟩))
theorem anyT_step2 {l : List Oper} {i j f : Nat} {oi oj : Oper} {listed : Array Bool} {a : Act} {w : World} (hoi : l[i]? = some oi) (hoj : l[j]? = some oj) (hr : Region.ready md l.toArray listed = [i, j])
    (hi : ∀ K' : Act → World → Prop, Shut (∀ a w, (i = m ∨ S w) → wpAnyT P md l.toArray Q S m f (listed.setIfInBounds i true) a w → K' a w) → if Region.wanted oi (yielded l.toArray a.tmps) = true then Oper.wp P oi a w K' Q else K' (a.put oi.dst undef) w)
    (hj : ∀ K' : Act → World → Prop, Shut (∀ a w, (j = m ∨ S w) → wpAnyT P md l.toArray Q S m f (listed.setIfInBounds j true) a w → K' a w) → if Region.wanted oj (yielded l.toArray a.tmps) = true then Oper.wp P oj a w K' Q else K' (a.put oj.dst undef) w) :
    wpAnyT P md l.toArray Q S m (f + 1) listed a w := by
  refine ⟨fun h1 => by rw [hr] at h1; simp at h1, fun q hq => ?_⟩
  rw [hr] at hq
  rcases List.mem_cons.1 hq with rfl | hq
  · exact wpOp_step (by simpa using hoi) (fun K' hK => hi K' (fun a' w' hS ht => hK a' w' ⟨hS, ht⟩))
  · obtain rfl : q = j := by simpa using hq
    exact wpOp_step (by simpa using hoj) (fun K' hK => hj K' (fun a' w' hS ht => hK a' w' ⟨hS, ht⟩))
theorem anyT_done {listed : Array Bool} {a : Act} {w : World} (hr : Region.ready md ops listed = []) (h : Q .normal a w) : ∀ f, wpAnyT P md ops Q S m f listed a w
  | 0 => ⟨hr, h⟩
  | _ + 1 => ⟨fun _ => h, fun j hj => by rw [hr] at hj; cases hj⟩
end

theorem wp_region_rawT {P : Program} {id : Nat} {Q : Exit → Act → World → Prop} {a : Act} {w : World} {l : List Oper} (f : Nat) (S : World → Prop) (ms : List Bool) (hm : P.follows .mixedOrders = true) (hQ : ∀ c a d v w, Q (.panic c) (Act.put a d v) w → Q (.panic c) a w)
    (hl : l.length = ms.length) (hB : (Region.noSelect l.toArray && lexRawT .any l.toArray (l.length - 1) f ms 0 (Array.replicate l.length false)) = true)
    (hS : S w.drew) (h : heldF P l.toArray S (fun a' => wpAnyT P .any l.toArray Q S (l.length - 1) (leftF ms) (listedOf ms 0 (Array.replicate l.length false)) a' w.drew) l ms a) : (Code.region id l.toArray true).wp P Q a w := by
  rw [Bool.and_eq_true] at hB
  refine wp_region_any hm (wpAny_of_T (S := S) (m := l.length - 1) _ _ _ _ ?_)
  have := anyT_raw (P := P) (ops := l.toArray) (md := .any) (S := S) (Q := Q) (m := l.length - 1) (f := f) (fl := leftF ms) hB.1 hQ l ms 0 (Array.replicate l.length false) a w.drew hl (fun j hj => by simp) (Cl.none _) hB.2 hS h
  rw [count_all ms, ← hl] at this
  simpa using this

end Go.Proofs.Ytnjcmlmgjoaeeaa
