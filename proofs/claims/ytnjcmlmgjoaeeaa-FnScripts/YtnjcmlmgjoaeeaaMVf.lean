/-
  SpoilDraw, InfoInt, InfoByte, AppRd, Spoil, FrameWrite, FrameWrite2, FrameRead.
-/
import Derived.Test.YtnjcmlmgjoaeeaaRows
import Derived.WalkKit
import Derived.Laws.AppendOwnNone
import Derived.Deep.AppendLies
import Derived.Deep.RegionHeld3
import Derived.Test.YtnjcmlmgjoaeeaaMVe

namespace Go.Proofs.Ytnjcmlmgjoaeeaa
open Go.RowKit

theorem lit_atS {w w' : World} {row : Option Nat} {cs : Array Value} {t : TypeId} (g : (w.alloc (.cells cs t)).grownBy w' row) (hne : row ≠ some w.heap.size) (z : Nat) (hz : z < cs.size) (hint : ∀ v ∈ cs.toList, ∃ u : Int, v = .int .i64 u) : ∃ u : Int, w'.cell? ⟨w.heap.size, z, none⟩ = some (.int .i64 u) := by
  have hL := at_rowS g (heap_alloc_new w (.cells cs t)) hne
  rw [cell_of_row w' _ z _ _ (0, 0) hL]
  obtain ⟨u, hu⟩ := hint cs[z] (by simp)
  exact ⟨u, by rw [Array.getElem?_eq_getElem hz, hu]⟩

/-- A scan of a script that is owned. -/
theorem OwSs.look {w : World} {v : Value} {S : List Scn} {F : List Nat} (h : OwSs w v S F) (i : Nat) (hi : i < S.length) (a : Scn) (ha : S.getD i Scn.zero = a) : ∃ g cap co cc, v = .slice (some ⟨g, 0, none⟩) S.length cap ∧ g ∈ F ∧ OwI .i64 3 w (.slice co a.cs.length cc) a.cs (blk (.slice co a.cs.length cc)) ∧ (∀ x ∈ blk (.slice co a.cs.length cc), x ∈ F) ∧ (∀ j, w.frozen? ⟨g, j, none⟩ = false) ∧
    w.cell? ⟨g, i * 5, none⟩ = some (.slice co a.cs.length cc) ∧ w.cell? ⟨g, i * 5 + 1, none⟩ = some (.int .i64 a.fr) ∧ w.cell? ⟨g, i * 5 + 2, none⟩ = some (.int .i64 a.to) ∧ w.cell? ⟨g, i * 5 + 3, none⟩ = some (.int .i64 a.hi) ∧ w.cell? ⟨g, i * 5 + 4, none⟩ = some (.int .i64 a.lo) := by
  obtain ⟨U, Fs, h2, h3, h4, rfl⟩ := h
  have ea : S[i] = a := by rw [← ha]; simp [hi]
  obtain ⟨so, cap, rfl⟩ := own_form h3
  obtain ⟨g, rfl, _, _⟩ := own_at h3 (by omega)
  have h5 := h4 i hi
  rw [ea] at h5
  obtain ⟨⟨e1, e2, e3, e4⟩, h6⟩ := h5
  obtain ⟨co, cc, e0⟩ := own_form h6.1
  have hF := h6.2
  rw [e0] at h6 hF
  have hc := fun j hj => cellG h3 i j hi hj
  refine ⟨g, cap, co, cc, rfl, by simp [blk, Value.ownBlock], ⟨h6.1, rfl⟩, fun x hx => ?_, fun j => h3.frozenAt j, ?_, ?_, ?_, ?_, ?_⟩
  · have := flat_in (show i < Fs.length by omega) x (by rw [hF]; exact hx)
    simp [this]
  · have := hc 0 (by omega); rw [e0] at this; exact this
  · rw [hc 1 (by omega), e1]
  · rw [hc 2 (by omega), e2]
  · rw [hc 3 (by omega), e3]
  · rw [hc 4 (by omega), e4]

/-- A script, and one of its scans in a box. -/
structure Bx (w : World) (tb : Nat) (ao : Option Addr) (n cap : Nat) (zs : List Int) (wr : World) (g oc m : Nat) (S : List Scn) (F : List Nat) (k xb : Nat) (cv : Value) (cs : List Int) (bx : Array Value) (q : Nat) : Prop where
  d : Dt w tb ao n cap zs wr (.slice (some ⟨g, 0, none⟩) m oc) S F q
  lm : S.length = m
  km : k < m
  c : wr.cell? ⟨g, k * 5, none⟩ = some cv
  o : OwI .i64 3 wr cv cs (blk cv)
  og : ∀ x ∈ blk cv, x ∈ F
  gF : g ∈ F
  b : wr.heap[xb]? = some (.cells bx 38 (0, 0))
  bl : w.heap.size ≤ xb
  bF : xb ∉ F
section
variable {w wr w' : World} {tb : Nat} {ao : Option Addr} {n cap : Nat} {zs : List Int} {g oc m : Nat} {S : List Scn} {F : List Nat} {k xb : Nat} {cv : Value} {cs : List Int} {bx : Array Value} {q q' : Nat}
theorem Bx.gt (h : Bx w tb ao n cap zs wr g oc m S F k xb cv cs bx q) : g < wr.heap.size := OwSs.ok.lt _ _ _ _ h.d.own g h.gF
theorem Bx.new (h : Bx w tb ao n cap zs wr g oc m S F k xb cv cs bx q) (gr : wr.grownBy w' none) : Bx w tb ao n cap zs w' g oc m S F k xb cv cs bx q :=
  ⟨h.d.new gr, h.lm, h.km, gr.cell h.c (by simp), (OwI.ok .i64 3).keep h.o gr, h.og, h.gF, at_rowS gr h.b (by simp), h.bl, h.bF⟩
theorem Bx.pick (h : Bx w tb ao n cap zs wr g oc m S F k xb cv cs bx q) (d : Dy w tb ao n) (c : Cur w' tb ao n cap zs q') (gr : wr.grownBy w' (some tb)) : Bx w tb ao n cap zs w' g oc m S F k xb cv cs bx q' := by
  have l1 := d.l1
  have l2 := h.d.lo g h.gF
  have l3 := h.bl
  exact ⟨h.d.pick d c gr, h.lm, h.km, gr.cell h.c (by simp; omega), (OwI.ok .i64 3).wr h.o (Wr.ofRow (F := [tb]) gr (fun x e => by simp at e; simp [e])) (fun x hx e => by simp at e; have := h.d.lo x (h.og x hx); omega), h.og, h.gF, at_rowS gr h.b (fun e => by have := Option.some.inj e; omega), h.bl, h.bF⟩
theorem Bx.set (h : Bx w tb ao n cap zs wr g oc m S F k xb cv cs bx q) (d : Dy w tb ao n) (j : Nat) (y : Value) (bx' : Array Value) (e : bx.setIfInBounds j y = bx') : Bx w tb ao n cap zs (wr.setCell ⟨xb, j, none⟩ y) g oc m S F k xb cv cs bx' q := by
  have gs := grown_set wr xb j y
  have hw : Wr [xb] wr (wr.setCell ⟨xb, j, none⟩ y) := Wr.ofRow gs (fun x e => by simp at e; simp [e])
  have hne : ∀ x ∈ F, x ∉ [xb] := fun x hx e => by simp at e; subst e; exact h.bF hx
  have hb := heap_setCell_same wr xb j _ _ y h.b
  rw [e] at hb
  refine ⟨h.d.other d (OwSs.ok.wr h.d.own hw hne) h.d.nd h.d.lo hw (fun x hx => by simp at hx; subst hx; exact h.bl), h.lm, h.km, gs.cell h.c (fun e => ?_), (OwI.ok .i64 3).wr h.o hw (fun x hx => hne x (h.og x hx)), h.og, h.gF, hb, h.bl, h.bF⟩
  have e2 : g = xb := Option.some.inj e
  exact h.bF (by rw [← e2]; exact h.gF)
/-- The scan is put back, its components as they were or others. -/
theorem Bx.put (h : Bx w tb ao n cap zs wr g oc m S F k xb cv cs bx q) (d : Dy w tb ao n) {u : Value} {y : Scn} {G : List Nat} (hu : OwI .i64 3 wr u y.cs G) (hG : ∀ x ∈ G, w.heap.size ≤ x) : RdT w.heap.size (put5 wr g k u y) (.slice (some ⟨g, 0, none⟩) m oc) (S.set k y) ∧ Cur (put5 wr g k u y) tb ao n cap zs q ∧ w.grownBy (put5 wr g k u y) (some tb) := by
  have hm := h.lm
  have hk := h.km
  subst hm
  have g5 := put5_grown wr g k u y
  have hw : Wr [g] wr (put5 wr g k u y) := Wr.ofRow g5 (fun x e => by simp at e; simp [e])
  exact ⟨put_rd (H := []) h.d.own h.d.nd h.d.lo hk h.c (Wr.refl _ _) (fun x hx => by simp at hx) hu hG, cur_wr d h.d.grown.size h.d.cur hw (fun x hx => by simp at hx; subst hx; exact h.d.lo _ h.gF), grown_wr h.d.grown hw (fun x hx => by simp at hx; subst hx; exact h.d.lo _ h.gF)⟩
theorem Bx.row (h : Bx w tb ao n cap zs wr g oc m S F k xb cv cs bx q) : ∃ z1 z2 z3 z4 : Value, wr.cell? ⟨g, k * 5 + 1, none⟩ = some z1 ∧ wr.cell? ⟨g, k * 5 + 2, none⟩ = some z2 ∧ wr.cell? ⟨g, k * 5 + 3, none⟩ = some z3 ∧ wr.cell? ⟨g, k * 5 + 4, none⟩ = some z4 ∧ ∀ j, wr.frozen? ⟨g, j, none⟩ = false := by
  have hm := h.lm
  have hk := h.km
  subst hm
  obtain ⟨g', _, _, _, e, _, _, _, f, _, c1, c2, c3, c4⟩ := h.d.own.look k hk _ rfl
  obtain ⟨e1, -, -⟩ := Value.slice.inj e
  obtain rfl : g = g' := by simpa using e1
  exact ⟨_, _, _, _, c1, c2, c3, c4, f⟩
end
/-- The capacity of a script's row. -/
theorem own_cap5 {w : World} {S : List Scn} {F : List Nat} {g m uc : Nat} (h : OwSs w (.slice (some ⟨g, 0, none⟩) m uc) S F) (hm : S.length = m) : m ≤ uc ∧ uc ≤ maxLen := by
  obtain ⟨U, Fs, h2, h3, h4, rfl⟩ := h
  rcases h3.2 with ⟨e, _⟩ | ⟨g', c, cur, e, _, _, hc, hx, _⟩
  · simp at e
  · obtain ⟨-, -, e3⟩ := Value.slice.inj e
    subst e3
    omega
def lenV : Value → Nat
  | .slice _ n _ => n
  | _ => 0
/-- Scans that lie somewhere behind a row that is owned. -/
theorem step_append_cutS {w : World} {ops : Array Oper} {o : Oper} {a : Act} {K : Act → World → Prop} {Q : Exit → Act → World → Prop} {E : Prop} (hgd : o.guard = none) (s x : Operand)
    (ho : o.op = .call { callee := .builtin .append, args := #[s, x], argTypes := #[27, 27] })
    (v : Value) (n : Nat) (xs : List Value) (hs : a.eval s = v) (hown : w.ownsRow 0 38 5 v n xs) (ado : Option Addr) (m c : Nat) (news : List Value) (hx : a.eval x = .slice ado m c) (hl : news.length = m * 5) (hado : ∃ ad, ado = some ad ∧ ∀ j u, news[j]? = some u → w.cell? (ad.add j) = some u) (h1 : ∀ u ∈ news, u.oneCell' = true) (hb : n + m ≤ 2000)
    (hK : ∀ v' w', w'.ownsRow 0 38 5 v' (n + m) (xs ++ news) → w.grownBy w' v.ownBlock → (v'.ownBlock = v.ownBlock ∨ v'.ownBlock = some w.heap.size) → K (a.put o.dst v') w') :
    if Region.wanted o (yielded ops a.tmps) = true then Oper.wp Try.prog o a w K Q else E := by
  obtain ⟨ad, rfl, hnews⟩ := hado
  have hw : Region.wanted o (yielded ops a.tmps) = true := by simp [Region.wanted, hgd]
  rw [if_pos hw]
  obtain ⟨i0, hi, hz0, hz1, hz2⟩ := info_parts info_scan
  obtain ⟨v', w', hr, h2, h3, _, h5⟩ := run_append_own_at (P := Try.prog) w 0 27 o.type 38 i0 _ 5 56 Try.underlying27 hi hz0 hz1 hz2 rfl (by decide) v n xs hown ad m c news hl hnews h1 (by unfold maxLen; omega) (by omega) (Nat.zero_le _)
  unfold Oper.wp execOp
  simp only [ho, resolve, invoke, builtin, Sem.run_bind, Sem.run_pure, Result.andThen_ok, List.map_toArray, List.map_cons, List.map_nil, hs, hx, hr]
  exact hK v' w' h2 h3 h5
/-- One number behind a row that is owned. -/
theorem step_append_oneS {w : World} {ops : Array Oper} {o : Oper} {a : Act} {K : Act → World → Prop} {Q : Exit → Act → World → Prop} {E : Prop} (hgd : o.guard = none) (s x : Operand)
    (ho : o.op = .call { callee := .builtin .append, args := #[s, x], argTypes := #[36, 36] })
    (v : Value) (A : List Int) (G : List Nat) (hs : a.eval s = v) (hv : OwI .i64 3 w v A G) (t : Int) (H : Nat) (hH : w.heap.size = H) (hx : a.eval x = .slice (some ⟨H, 0, none⟩) 1 1) (hb : A.length ≤ 1000)
    (hK : ∀ uo uc w', OwI .i64 3 w' (.slice uo (A.length + 1) uc) (A ++ [t]) (blk (.slice uo (A.length + 1) uc)) → (∀ x ∈ blk (.slice uo (A.length + 1) uc), x ∈ blk v ∨ w.heap.size ≤ x) → Wr (blk v) w w' → K (a.put o.dst (.slice uo (A.length + 1) uc)) w') :
    if Region.wanted o (yielded ops a.tmps) = true then Oper.wp Try.prog o a (w.alloc (.cells #[.int .i64 t] 3)) K Q else E := by
  subst hH
  obtain ⟨i0, hi, hz0, hz1, hz2⟩ := info_parts info_iS
  refine step_append_lies _ hgd s x 36 ho 0 3 i0 _ 1 8 Try.underlying36 hi hz0 hz1 hz2 rfl (by decide) v A.length _ hs (hv.1.alloc _) ⟨w.heap.size, 0, none⟩ 1 1 [.int .i64 t] hx rfl (World.news_of_block (cs := #[.int .i64 t]) (t := 3) (fr := (0, 0)) (heap_alloc_new w _)) (by intro u hu; simp at hu; subst hu; rfl) (by omega) (by unfold maxLen; omega) (by omega) (Nat.zero_le _) _ rfl ?_
  intro g c' w' h1 h2 h3 h4
  have hga : w.grownBy w' v.ownBlock := ⟨h2.os, h2.tape, h2.output, by have h := h2.size; simp at h; omega, fun k hk hr => (h2.block k (by simp; omega) hr).trans (Below.heap_alloc _ _ _ hk)⟩
  refine hK (some ⟨g, 0, none⟩) c' w' ⟨?_, rfl⟩ (fun x hx => ?_) (Wr.ofRow hga (fun x e => mem_blk.2 e))
  · rw [List.map_append, List.length_append]; exact h1
  · have e9 : g = x := Option.some.inj (mem_blk.1 hx)
    subst e9
    rcases h3 with h3 | h3
    · exact .inl (mem_blk.2 h3)
    · simp at h3; exact .inr (by omega)
section
variable {w wr w' w8 : World} {tb : Nat} {ao : Option Addr} {n cap : Nat} {zs : List Int} {g oc m : Nat} {S : List Scn} {F : List Nat} {k xb : Nat} {cv : Value} {cs : List Int} {bx : Array Value} {q q' : Nat}
/-- The scan is put back behind its components were written. -/
theorem Bx.put4 (h : Bx w tb ao n cap zs wr g oc m S F k xb cv cs bx q) (d : Dy w tb ao n) {u : Value} {A : List Int} (gw : Wr (blk cv) wr w') (o : OwI .i64 3 w' u A (blk u)) (l : ∀ x ∈ blk u, x ∈ blk cv ∨ wr.heap.size ≤ x) (g8 : w'.grownBy w8 (some xb)) {y : Scn} (hy : y.cs = A) :
    ((∃ z, w8.cell? ⟨g, k * 5, none⟩ = some z) ∧ (∃ z, w8.cell? ⟨g, k * 5 + 1, none⟩ = some z) ∧ (∃ z, w8.cell? ⟨g, k * 5 + 2, none⟩ = some z) ∧ (∃ z, w8.cell? ⟨g, k * 5 + 3, none⟩ = some z) ∧ (∃ z, w8.cell? ⟨g, k * 5 + 4, none⟩ = some z) ∧ ∀ j, w8.frozen? ⟨g, j, none⟩ = false) ∧
    RdT w.heap.size (put5 w8 g k u y) (.slice (some ⟨g, 0, none⟩) m oc) (S.set k y) ∧ Cur (put5 w8 g k u y) tb ao n cap zs q ∧ w.grownBy (put5 w8 g k u y) (some tb) := by
  obtain ⟨z1, z2, z3, z4, r1, r2, r3, r4, rf⟩ := h.row
  have r0 := h.c
  have hm := h.lm
  have hk := h.km
  have hgt := h.gt
  have hlo := h.d.lo
  have hxb := (Array.getElem?_eq_some_iff.1 h.b).1
  have hgx : g ≠ xb := fun e => h.bF (by rw [← e]; exact h.gF)
  have hgc : g ∉ blk cv := fun e => by
    have h9 := h.d.own.kinds h.o g e
    exact h9 (by simp [blk, Value.ownBlock])
  have hg8 : w8.heap[g]? = wr.heap[g]? := (g8.block g (Nat.lt_of_lt_of_le hgt gw.size) (by simp; exact hgx)).trans (gw.block g hgt hgc)
  have hcell : ∀ j, w8.cell? ⟨g, j, none⟩ = wr.cell? ⟨g, j, none⟩ := fun j => by simp only [World.cell?, hg8]
  have hfz : ∀ j, w8.frozen? ⟨g, j, none⟩ = wr.frozen? ⟨g, j, none⟩ := fun j => World.frozen?_of_block hg8
  have hw8 : Wr (blk cv ++ [xb]) wr w8 := ⟨g8.os.trans gw.os, g8.tape.trans gw.tape, g8.output.trans gw.output, Nat.le_trans gw.size g8.size, fun x hx hn => by
    simp at hn
    exact (g8.block x (Nat.lt_of_lt_of_le hx gw.size) (by simp; exact hn.2)).trans (gw.block x hx hn.1)⟩
  have hux : ∀ x ∈ blk u, w.heap.size ≤ x ∧ x ≠ xb := fun x hx => by
    rcases l x hx with h1 | h1
    · exact ⟨hlo x (h.og x h1), fun e => h.bF (by rw [← e]; exact h.og x h1)⟩
    · have := h.d.grown.size
      omega
  have o8 : OwI .i64 3 w8 u y.cs (blk u) := by rw [hy]; exact (OwI.ok .i64 3).wr o (Wr.ofRow (F := [xb]) g8 (fun x e => by simp at e; simp [e])) (fun x hx e => by simp at e; exact (hux x hx).2 e)
  subst hm
  have g5 := put5_grown w8 g k u y
  have hw5 : Wr (g :: (blk cv ++ [xb])) wr (put5 w8 g k u y) := (hw8.mono (fun x hx => by simp at hx ⊢; exact .inr hx)).trans (Wr.ofRow g5 (fun x e => by simp at e; simp [e]))
  have hH : ∀ x ∈ g :: (blk cv ++ [xb]), w.heap.size ≤ x := fun x hx => by
    simp at hx
    rcases hx with rfl | hx | rfl
    · exact hlo _ h.gF
    · exact hlo x (h.og x hx)
    · exact h.bl
  refine ⟨⟨⟨_, (hcell _).trans r0⟩, ⟨_, (hcell _).trans r1⟩, ⟨_, (hcell _).trans r2⟩, ⟨_, (hcell _).trans r3⟩, ⟨_, (hcell _).trans r4⟩, fun j => (hfz j).trans (rf j)⟩, ?_, cur_wr d h.d.grown.size h.d.cur hw5 hH, grown_wr h.d.grown hw5 hH⟩
  exact put_rd (H := [xb]) h.d.own h.d.nd hlo hk h.c hw8 (fun x hx => by simp at hx; subst hx; exact h.bF) o8 (fun x hx => (hux x hx).1)
end
theorem few_set {m : Nat} {S : List Scn} {k : Nat} {y : Scn} (h : Few m S) (hy : y.cs.length ≤ m) : Few m (S.set k y) := fun a ha => (List.mem_or_eq_of_mem_set ha).elim (h a) (fun e => by subst e; exact hy)
theorem few_mono {m m' : Nat} {S : List Scn} (h : Few m S) (hm : m ≤ m') : Few m' S := fun a ha => Nat.le_trans (h a ha) hm

set_option maxRecDepth 20000 in
set_option maxHeartbeats 12800000 in
theorem drawSpoil (tb : Nat) (ao : Option Addr) (n cap p0 : Nat) (zs : List Int) (w : World) (h : Cur w tb ao n cap zs p0) (hp : p0 ≤ 1000000) (hcode : 0 < n → ∀ b off, ao = some ⟨b, off, none⟩ → b < w.heap.size) (so : Option Addr) (m sc : Nat) (S : List Scn) (F0 : List Nat) (hS : OwSs w (.slice so m sc) S F0) (HM : Hid (S.length = m)) (hfew : Few 4 S) (hlen : m ≤ 1000) :
    Calls Try.prog 40 #[.pointer (some ⟨tb, 0, none⟩), .slice so m sc] w fun e w' => ∃ v X q, e = .returned v ∧ RdT w.heap.size w' v X ∧ Few 5 X ∧ X.length ≤ 1001 ∧ Cur w' tb ao n cap zs q ∧ q ≤ p0 + 1000 ∧ w.grownBy w' (some tb) := by
  have DY : Hid (Dy w tb ao n) := ⟨h.lt, hcode⟩
  have hl := h.lt
  have HF4 := hide hfew
  have gA : w.grownBy (w.alloc (.cells #[] 38)) none := World.grownBy_alloc _ _ _
  have O0 : OwSs (w.alloc (.cells #[] 38)) (.slice (some ⟨w.heap.size, 0, none⟩) 0 0) [] [w.heap.size] :=
    ⟨fun _ _ => .slice none 0 0, [], rfl, (by have := World.ownsRow_lit w (e := 38) (size := 5) (base := 0) #[] 0 (Nat.zero_le _) (by unfold maxLen; omega) rfl; exact this), fun i hi => absurd hi (by simp), rfl⟩
  have HF0 : Hid (∀ x ∈ F0, x < w.heap.size) := fun x hx => OwSs.ok.lt _ _ _ _ hS x hx
  have D0 : Hid (Dt w tb ao n cap zs (w.alloc (.cells #[] 38)) (.slice (some ⟨w.heap.size, 0, none⟩) 0 0) (S.take 0) [w.heap.size] p0) := ⟨O0, by simp, fun x hx => by simp at hx; omega, h.grown gA, grown_any gA⟩
  have H0 := hide (OwSs.ok.keep hS gA)
  clear h hcode hS gA O0 hfew
  go_enter Try.func40, Try.ntmps40
  go_wp2
  go_loopw [5, 6] (fun ov iv wr => ∃ (i : Nat) (uo : Option Addr) (uc : Nat) (F : List Nat), i ≤ m ∧ iv = .int .i64 i ∧ ov = .slice uo i uc ∧ Hid (Dt w tb ao n cap zs wr (.slice uo i uc) (S.take i) F p0) ∧ Hid (OwSs wr (.slice so m sc) S F0)) (fun _ iv _ => m - (intOf iv).toNat)
  case atStart => exact ⟨0, _, _, _, Nat.zero_le _, rfl, rfl, D0, H0⟩
  case round =>
    clear D0 H0
    obtain ⟨i, uo, uc, F, hin, rfl, rfl, hD, hO⟩ := hrel
    by_cases hlt : i < m
    · have hd : decide ((i : Int) < (m : Int)) = true := decide_eq_true (by omega)
      have i0 : (0 : Int) ≤ (i : Int) := by omega
      have hltI : (i : Int) < (m : Int) := by omega
      obtain ⟨a, HA⟩ : ∃ a, Hid (S.getD i Scn.zero = a) := ⟨_, hide rfl⟩
      obtain ⟨g, sc', co, cc, ev, _, hoi, _, _, k0, k1, k2, k3, k4⟩ := (unhide hO).look i (by rw [unhide HM]; exact hlt) a (unhide HA)
      obtain ⟨eso, -, esc⟩ := Value.slice.inj ev
      subst eso esc
      have HNX : Hid (S.take i ++ [a] = S.take (i + 1)) := by
        have hl9 : i < S.length := by rw [unhide HM]; exact hlt
        unfold Hid
        rw [List.take_succ_eq_append_getElem hl9, ← unhide HA]
        simp [hl9]
      have hcl : a.cs.length ≤ 1000 := by
        have hl9 : i < S.length := by rw [unhide HM]; exact hlt
        have := unhide HF4 S[i] (List.getElem_mem hl9)
        have e9 : S[i] = a := by rw [← unhide HA]; simp [hl9]
        rw [e9] at this
        omega
      have hlX : (S.take i).length = i := by rw [List.length_take, unhide HM]; omega
      obtain ⟨cs, fr, to, hi, lo⟩ := a
      dsimp only at hoi k0 k1 k2 k3 k4 hcl
      obtain ⟨X, HX⟩ : ∃ X, Hid (S.take i = X) := ⟨_, hide rfl⟩
      rw [unhide HX] at hD hlX
      have HLX := hide hlX
      have HOI := hide hoi
      clear ev hoi HA hlX
      go_wp2_with fail
      clear k0 k1 k2 k3 k4
      refine (specCopyScan wr co cs.length cc cs fr to hi lo _ (unhide HOI) hcl).mono ?_
      rintro e w2 ⟨uo2, uc2, rfl, o2, l2, g2⟩
      have HO2 := hide o2
      have HL2 := hide l2
      have HG2 := hide g2
      clear o2 l2 g2 HOI
      go_wp2_with (at_builtin; refine Dt.app (wn := w2) (unhide hD) (unhide DY) (unhide HG2) rfl _ _ rfl rfl (.slice uo2 cs.length uc2) ⟨cs, fr, to, hi, lo⟩ _ (unhide HO2) (unhide HL2) _ rfl w2.heap.size rfl rfl (by rw [unhide HLX]; omega) ?_)
      intro v5 w5 F5 S5 wr5 _
      have HO5 := hide (OwSs.ok.wr (unhide hO) wr5 (fun x hx hy => by have := unhide HF0 x hx; have := (unhide hD).lo x ((unhide hD).blkF x (mem_blk.1 hy)); omega))
      rw [← unhide HX, unhide HNX] at S5
      obtain ⟨vo5, vc5, rfl⟩ := OwG.form S5.own
      have hl5 : (S.take (i + 1)).length = i + 1 := by rw [List.length_take, unhide HM]; omega
      rw [hl5] at S5 ⊢
      have HS5 := hide S5
      clear S5 wr5 hO hD HG2 HL2 HO2 HLX HNX hl5 HX
      go_wp2
      go_roundw
      case rel => exact ⟨i + 1, vo5, vc5, F5, by omega, by go_num, rfl, HS5, HO5⟩
      case measure => simp [intOf]; omega
    · obtain rfl : m = i := by omega
      have hd : decide ((m : Int) < (m : Int)) = false := decide_eq_false (by omega)
      have ht : S.take m = S := List.take_of_length_le (by rw [unhide HM]; exact Nat.le_refl _)
      rw [ht] at hD
      clear hO ht HF0
      by_cases hm0 : m = 0
      · subst hm0
        have hz : (((0 : Nat) : Int) == 0) = true := rfl
        have HLX := HM
        go_wp2_with (at_builtin; refine Dt.app (wn := wr) (unhide hD) (unhide DY) (World.grownBy.refl _ _) rfl _ _ rfl rfl (.slice none 0 0) Scn.zero [] (OwI.nil _ _ _) (fun x hx => by simp at hx) _ rfl wr.heap.size rfl rfl (by rw [unhide HLX]; omega) ?_)
        intro v5 w5 F5 S5 _ _
        obtain ⟨vo5, vc5, rfl⟩ := OwG.form S5.own
        have HE : Hid (RdT w.heap.size (w5) (.slice vo5 (S ++ [Scn.zero]).length vc5) (S ++ [Scn.zero]) ∧ Few 5 (S ++ [Scn.zero]) ∧ (S ++ [Scn.zero]).length ≤ 1001 ∧ Cur (w5) tb ao n cap zs p0 ∧ p0 ≤ p0 + 1000 ∧ w.grownBy (w5) (some tb)) := ⟨RdT.of S5.own S5.lo, few_mono ((unhide HF4).snoc (by simp [Scn.zero])) (by omega), by rw [List.length_append, unhide HM]; simp, S5.cur, by omega, S5.grown⟩
        obtain ⟨L, HL⟩ : ∃ L, Hid (S ++ [Scn.zero] = L) := ⟨_, hide rfl⟩
        rw [unhide HL] at HE ⊢
        clear S5 hD HL
        go_wp2
        go_ret
        exact ⟨_, _, _, rfl, unhide HE⟩
      · have hz : ((m : Int) == 0) = false := by simp; omega
        go_wp2_with fail
        refine (pick_any tb ao n cap p0 (m : Int) zs wr (unhide hD).cur (by omega) (by omega) (by omega)).mono ?_
        rintro e w1 ⟨x1, q1, rfl, hx1, hy1, hc1, hq1, g1⟩
        have D1 := hide ((unhide hD).pick (unhide DY) hc1 g1)
        obtain ⟨k, rfl⟩ := Int.eq_ofNat_of_zero_le hx1
        have hkm : k < m := by omega
        clear hD hc1 g1
        obtain ⟨a, HA⟩ : ∃ a, Hid (S.getD k Scn.zero = a) := ⟨_, hide rfl⟩
        obtain ⟨g, oc, co, cc, ev, hgF, hoi, hog, hfz, k0, k1, k2, k3, k4⟩ := (unhide D1).own.look k (by rw [unhide HM]; exact hkm) a (unhide HA)
        obtain ⟨euo, -, euc⟩ := Value.slice.inj ev
        subst euo euc
        have hcl : a.cs.length ≤ 4 := by
          have hl9 : k < S.length := by rw [unhide HM]; exact hkm
          have := unhide HF4 S[k] (List.getElem_mem hl9)
          have e9 : S[k] = a := by rw [← unhide HA]; simp [hl9]
          rw [e9] at this
          exact this
        obtain ⟨cs, fr, to, hi, lo⟩ := a
        dsimp only at hoi hog k0 k1 k2 k3 k4 hcl
        obtain ⟨cn, HCN⟩ : ∃ cn, Hid (cs.length = cn) := ⟨_, hide rfl⟩
        rw [unhide HCN] at hoi hog k0 hcl
        have HB0 := hide (heap_alloc_new w1 (.cells #[.slice none 0 0, .int .i64 0, .int .i64 0, .int .i64 0, .int .i64 0] 38))
        have HGA : Hid (w1.grownBy (w1.alloc (.cells #[.slice none 0 0, .int .i64 0, .int .i64 0, .int .i64 0, .int .i64 0] 38)) none) := World.grownBy_alloc _ _ _
        have hb1 := (unhide D1).grown.size
        have HK := hide (And.intro hoi (And.intro hog (And.intro hgF k0)))
        clear hoi hog hgF hfz ev HA
        go_wp2_with (refine wpList_store_row rfl 38 _ _ rfl w1.heap.size rfl #[.slice co cn cc, .int .i64 fr, .int .i64 to, .int .i64 hi, .int .i64 lo] rfl #[.slice none 0 0, .int .i64 0, .int .i64 0, .int .i64 0, .int .i64 0] 38 (unhide HB0) rfl (by kernel_rfl) (by simp [Value.oneCell']) ?_)
        intro w2 hB2 g2
        have G2 : w1.grownBy w2 none := grown_new (unhide HGA) g2 (fun x e => by simp at e; omega)
        obtain ⟨xb, HXB⟩ : ∃ xb, Hid (w1.heap.size = xb) := ⟨_, hide rfl⟩
        rw [unhide HXB] at hB2 hb1 ⊢
        have HX : Hid (Bx w tb ao n cap zs w2 g uc m S F k xb (.slice co cn cc) cs #[.slice co cn cc, .int .i64 fr, .int .i64 to, .int .i64 hi, .int .i64 lo] q1) := ⟨(unhide D1).new G2, unhide HM, hkm, G2.cell (unhide HK).2.2.2 (by simp), (OwI.ok .i64 3).keep (unhide HK).1 G2, (unhide HK).2.1, (unhide HK).2.2.1, hB2, hb1, fun hx => by have := OwSs.ok.lt _ _ _ _ (unhide D1).own xb hx; have := unhide HXB; omega⟩
        clear D1 HB0 HGA HK k0 k1 k2 k3 k4 hB2 g2 G2 HXB
        go_wp2_with fail
        refine (pick_of tb ao n cap q1 8 zs w2 (unhide HX).d.cur (by omega) (by omega) (by omega)).mono ?_
        rintro e w3 ⟨x3, q3, rfl, hx3, hy3, hc3, hq3, g3⟩
        have HX3 := hide ((unhide HX).pick (unhide DY) hc3 g3)
        have hk0 : (0 : Int) ≤ (k : Int) := by omega
        have hk1 : (k : Int) < (m : Int) := by omega
        have hxb := (unhide HX3).bl
        have htx : tb < xb := by omega
        clear HX hc3 g3
        have hcase : x3 = 0 ∨ x3 = 1 ∨ x3 = 2 ∨ x3 = 3 ∨ x3 = 4 ∨ x3 = 5 ∨ x3 = 6 ∨ x3 = 7 := by omega
        clear hx3 hy3 hx1 hy1
        rcases hcase with rfl | rfl | rfl | rfl | rfl | rfl | rfl | rfl
        · go_wp2
          refine wp_region_noPanic ?_
          have HX4 := hide ((unhide HX3).new (grown_drew (World.grownBy.refl w3 none)))
          clear HX3
          refine wp_region_rawT 20 (fun W => W.heap[xb]? = some (.cells #[.slice co cn cc, .int .i64 fr, .int .i64 to, .int .i64 hi, .int .i64 lo] 38 (0, 0))) [true, true, true, true, false, false, true, false, false, false, false, false] (by kernel_rfl) (fun _ _ _ _ _ h => h) rfl (by kernel_rfl) (unhide HX4).b ?_
          generalize w3.drew = w4 at *
          refine heldF_take (v := ?_) (Or.inl ⟨by rfl, ?_⟩) ?_
          rotate_left 1
          · intro w' hSw
            try dsimp only at hSw
            have s1 := scanCells hSw
            go_simp
            try with_reducible rfl
          try simp only [Act.put, List.setIfInBounds_toArray, List.set_cons_zero, List.set_cons_succ]
          refine heldF_take (v := ?_) (Or.inl ⟨by rfl, ?_⟩) ?_
          rotate_left 1
          · intro w' hSw
            try dsimp only at hSw
            have s1 := scanCells hSw
            go_simp
            try with_reducible rfl
          try simp only [Act.put, List.setIfInBounds_toArray, List.set_cons_zero, List.set_cons_succ]
          refine heldF_take (v := ?_) (Or.inl ⟨by rfl, ?_⟩) ?_
          rotate_left 1
          · intro w' hSw
            try dsimp only at hSw
            have s1 := scanCells hSw
            go_simp
            try with_reducible rfl
          try simp only [Act.put, List.setIfInBounds_toArray, List.set_cons_zero, List.set_cons_succ]
          refine heldF_take (v := ?_) (Or.inl ⟨by rfl, ?_⟩) ?_
          rotate_left 1
          · intro w' hSw
            try dsimp only at hSw
            have s1 := scanCells hSw
            go_simp
            try with_reducible rfl
          try simp only [Act.put, List.setIfInBounds_toArray, List.set_cons_zero, List.set_cons_succ]
          refine heldF_skip ?_
          refine heldF_skip ?_
          refine heldF_take (v := ?_) (Or.inl ⟨by rfl, ?_⟩) ?_
          rotate_left 1
          · intro w' hSw
            try dsimp only at hSw
            have s1 := scanCells hSw
            go_simp
            try with_reducible rfl
          try simp only [Act.put, List.setIfInBounds_toArray, List.set_cons_zero, List.set_cons_succ]
          refine heldF_skip ?_
          refine heldF_skip ?_
          refine heldF_skip ?_
          refine heldF_skip ?_
          refine heldF_skip ?_
          refine heldF_nil ?_
          refine anyT_step1 (i := 4) rfl (by kernel_rfl) (fun K hK => ?_)
          go_simp
          refine (odd_of tb ao n cap q3 zs w4 (unhide HX4).d.cur (by omega)).mono ?_
          rintro e w5 ⟨o5, q5, rfl, hc5, hq5, g5⟩
          have HX5 := hide ((unhide HX4).pick (unhide DY) hc5 g5)
          clear HX4 hc5 g5
          go_simp
          refine hK.out _ _ (.inr (unhide HX5).b) ?_
          clear hK K
          try simp only [Act.put, List.setIfInBounds_toArray, List.set_cons_zero, List.set_cons_succ]
          refine anyT_step2 (i := 5) (j := 7) rfl rfl (by kernel_rfl) (fun K hK => ?_) (fun K hK => ?_)
          · go_simp
            have HX6 := hide ((unhide HX5).new (World.grownBy_alloc w5 (.cells #[.int .i64 (IntKind.i64.wrap (fr + 1)), .int .i64 (-1), .int .i64 o5] 3) none))
            have hwt := (unhide HX5).d.cur.lt
            refine hK.out _ _ (.inr (unhide HX6).b) ?_
            clear hK K
            try simp only [Act.put, List.setIfInBounds_toArray, List.set_cons_zero, List.set_cons_succ]
            refine anyT_step1 (i := 7) rfl (by kernel_rfl) (fun K hK => ?_)
            go_simp
            refine (pick_of tb ao n cap q5 3 zs _ (unhide HX6).d.cur (by omega) (by omega) (by omega)).mono ?_
            rintro e w7 ⟨z, q7, rfl, hz0, hz1, hc7, hq7, g7⟩
            obtain ⟨z, rfl⟩ := Int.eq_ofNat_of_zero_le hz0
            obtain ⟨u, hu⟩ := lit_atS g7 (by simp; omega) z (by simp; omega) (by intro v hv; simp at hv; rcases hv with rfl | rfl | rfl <;> exact ⟨_, rfl⟩)
            have HX7 := hide ((unhide HX6).pick (unhide DY) hc7 g7)
            clear HX6 HX5 hc7 g7
            go_simp
            refine hK.out _ _ (.inr (unhide HX7).b) ?_
            clear hK K
            try simp only [Act.put, List.setIfInBounds_toArray, List.set_cons_zero, List.set_cons_succ]
            obtain ⟨b0, b1, b2, b3, b4⟩ := scanCells (unhide HX7).b
            have bf := frozen_of_row w7 xb 1 _ _ (unhide HX7).b
            have HX8 := hide ((unhide HX7).set (unhide DY) 1 (.int .i64 u) _ rfl)
            simp only [List.setIfInBounds_toArray, List.set_cons_zero, List.set_cons_succ] at HX8
            refine anyT_step1 (i := 8) rfl (by kernel_rfl) (fun K hK => ?_)
            go_simp
            refine hK.out _ _ (.inr (unhide HX7).b) ?_
            clear hK K
            try simp only [Act.put, List.setIfInBounds_toArray, List.set_cons_zero, List.set_cons_succ]
            refine anyT_step1 (i := 9) rfl (by kernel_rfl) (fun K hK => ?_)
            go_simp
            refine hK.out _ _ (.inr (unhide HX7).b) ?_
            clear hK K
            try simp only [Act.put, List.setIfInBounds_toArray, List.set_cons_zero, List.set_cons_succ]
            refine anyT_step1 (i := 10) rfl (by kernel_rfl) (fun K hK => ?_)
            go_simp
            refine hK.out _ _ (.inr (unhide HX7).b) ?_
            clear hK K
            try simp only [Act.put, List.setIfInBounds_toArray, List.set_cons_zero, List.set_cons_succ]
            refine anyT_step1 (i := 11) rfl (by kernel_rfl) (fun K hK => ?_)
            go_simp
            refine hK.out _ _ (.inl rfl) ?_
            clear hK K
            refine anyT_done (by kernel_rfl) (NoPanic.normal ?_) _
            clear b0 b1 b2 b3 b4 bf hu HX7
            generalize w7.setCell ⟨xb, 1, none⟩ (.int .i64 u) = w8 at *
            obtain ⟨z1, z2, z3, z4, r1, r2, r3, r4, rf⟩ := (unhide HX8).row
            have r0 := (unhide HX8).c
            have rf0 := rf (k * 5)
            have rf1 := rf (k * 5 + 1)
            have rf2 := rf (k * 5 + 2)
            have rf3 := rf (k * 5 + 3)
            have rf4 := rf (k * 5 + 4)
            obtain ⟨b0, b1, b2, b3, b4⟩ := scanCells (unhide HX8).b
            have HE : Hid (RdT w.heap.size (put5 w8 g k (.slice co cn cc) ⟨cs, u, to, hi, lo⟩) (.slice (some ⟨g, 0, none⟩) m uc) (S.set k ⟨cs, u, to, hi, lo⟩) ∧ Few 5 (S.set k ⟨cs, u, to, hi, lo⟩) ∧ (S.set k ⟨cs, u, to, hi, lo⟩).length ≤ 1001 ∧ Cur (put5 w8 g k (.slice co cn cc) ⟨cs, u, to, hi, lo⟩) tb ao n cap zs q7 ∧ q7 ≤ p0 + 1000 ∧ w.grownBy (put5 w8 g k (.slice co cn cc) ⟨cs, u, to, hi, lo⟩) (some tb)) := by
              have h9 := (unhide HX8).put (unhide DY) (u := .slice co cn cc) (y := ⟨cs, u, to, hi, lo⟩) (by have := (unhide HX8).o; exact this) (fun x hx => (unhide HX8).d.lo x ((unhide HX8).og x hx))
              exact ⟨h9.1, few_set (few_mono (unhide HF4) (by omega)) (by show cs.length ≤ 5; rw [unhide HCN]; omega), by rw [List.length_set, unhide HM]; omega, h9.2.1, by omega, h9.2.2⟩
            clear rf HX8
            go_wp2
            go_ret
            exact ⟨_, _, _, rfl, unhide HE⟩
          · go_simp
            refine (pick_of tb ao n cap q5 3 zs w5 (unhide HX5).d.cur (by omega) (by omega) (by omega)).mono ?_
            rintro e w6 ⟨z, q7, rfl, hz0, hz1, hc7, hq7, g7⟩
            obtain ⟨z, rfl⟩ := Int.eq_ofNat_of_zero_le hz0
            have HX6 := hide ((unhide HX5).pick (unhide DY) hc7 g7)
            clear HX5 hc7 g7
            go_simp
            refine hK.out _ _ (.inr (unhide HX6).b) ?_
            clear hK K
            try simp only [Act.put, List.setIfInBounds_toArray, List.set_cons_zero, List.set_cons_succ]
            refine anyT_step1 (i := 5) rfl (by kernel_rfl) (fun K hK => ?_)
            go_simp
            obtain ⟨u, hu⟩ := lit_atS (World.grownBy.refl (w6.alloc (.cells #[.int .i64 (IntKind.i64.wrap (fr + 1)), .int .i64 (-1), .int .i64 o5] 3)) none) (by simp) z (by simp; omega) (by intro v hv; simp at hv; rcases hv with rfl | rfl | rfl <;> exact ⟨_, rfl⟩)
            have HX7 := hide ((unhide HX6).new (World.grownBy_alloc w6 (.cells #[.int .i64 (IntKind.i64.wrap (fr + 1)), .int .i64 (-1), .int .i64 o5] 3) none))
            clear HX6
            refine hK.out _ _ (.inr (unhide HX7).b) ?_
            clear hK K
            try simp only [Act.put, List.setIfInBounds_toArray, List.set_cons_zero, List.set_cons_succ]
            generalize w6.alloc (.cells #[.int .i64 (IntKind.i64.wrap (fr + 1)), .int .i64 (-1), .int .i64 o5] 3) = w7 at *
            obtain ⟨b0, b1, b2, b3, b4⟩ := scanCells (unhide HX7).b
            have bf := frozen_of_row w7 xb 1 _ _ (unhide HX7).b
            have HX8 := hide ((unhide HX7).set (unhide DY) 1 (.int .i64 u) _ rfl)
            simp only [List.setIfInBounds_toArray, List.set_cons_zero, List.set_cons_succ] at HX8
            refine anyT_step1 (i := 8) rfl (by kernel_rfl) (fun K hK => ?_)
            go_simp
            refine hK.out _ _ (.inr (unhide HX7).b) ?_
            clear hK K
            try simp only [Act.put, List.setIfInBounds_toArray, List.set_cons_zero, List.set_cons_succ]
            refine anyT_step1 (i := 9) rfl (by kernel_rfl) (fun K hK => ?_)
            go_simp
            refine hK.out _ _ (.inr (unhide HX7).b) ?_
            clear hK K
            try simp only [Act.put, List.setIfInBounds_toArray, List.set_cons_zero, List.set_cons_succ]
            refine anyT_step1 (i := 10) rfl (by kernel_rfl) (fun K hK => ?_)
            go_simp
            refine hK.out _ _ (.inr (unhide HX7).b) ?_
            clear hK K
            try simp only [Act.put, List.setIfInBounds_toArray, List.set_cons_zero, List.set_cons_succ]
            refine anyT_step1 (i := 11) rfl (by kernel_rfl) (fun K hK => ?_)
            go_simp
            refine hK.out _ _ (.inl rfl) ?_
            clear hK K
            refine anyT_done (by kernel_rfl) (NoPanic.normal ?_) _
            clear b0 b1 b2 b3 b4 bf hu HX7
            generalize w7.setCell ⟨xb, 1, none⟩ (.int .i64 u) = w8 at *
            obtain ⟨z1, z2, z3, z4, r1, r2, r3, r4, rf⟩ := (unhide HX8).row
            have r0 := (unhide HX8).c
            have rf0 := rf (k * 5)
            have rf1 := rf (k * 5 + 1)
            have rf2 := rf (k * 5 + 2)
            have rf3 := rf (k * 5 + 3)
            have rf4 := rf (k * 5 + 4)
            obtain ⟨b0, b1, b2, b3, b4⟩ := scanCells (unhide HX8).b
            have HE : Hid (RdT w.heap.size (put5 w8 g k (.slice co cn cc) ⟨cs, u, to, hi, lo⟩) (.slice (some ⟨g, 0, none⟩) m uc) (S.set k ⟨cs, u, to, hi, lo⟩) ∧ Few 5 (S.set k ⟨cs, u, to, hi, lo⟩) ∧ (S.set k ⟨cs, u, to, hi, lo⟩).length ≤ 1001 ∧ Cur (put5 w8 g k (.slice co cn cc) ⟨cs, u, to, hi, lo⟩) tb ao n cap zs q7 ∧ q7 ≤ p0 + 1000 ∧ w.grownBy (put5 w8 g k (.slice co cn cc) ⟨cs, u, to, hi, lo⟩) (some tb)) := by
              have h9 := (unhide HX8).put (unhide DY) (u := .slice co cn cc) (y := ⟨cs, u, to, hi, lo⟩) (by have := (unhide HX8).o; exact this) (fun x hx => (unhide HX8).d.lo x ((unhide HX8).og x hx))
              exact ⟨h9.1, few_set (few_mono (unhide HF4) (by omega)) (by show cs.length ≤ 5; rw [unhide HCN]; omega), by rw [List.length_set, unhide HM]; omega, h9.2.1, by omega, h9.2.2⟩
            clear rf HX8
            go_wp2
            go_ret
            exact ⟨_, _, _, rfl, unhide HE⟩
        · go_wp2
          refine wp_region_noPanic ?_
          have HX4 := hide ((unhide HX3).new (grown_drew (World.grownBy.refl w3 none)))
          clear HX3
          refine wp_region_rawT 20 (fun W => W.heap[xb]? = some (.cells #[.slice co cn cc, .int .i64 fr, .int .i64 to, .int .i64 hi, .int .i64 lo] 38 (0, 0))) [true, true, true, true, true, true, true, false, false, true, false, false, false, false, false] (by kernel_rfl) (fun _ _ _ _ _ h => h) rfl (by kernel_rfl) (unhide HX4).b ?_
          generalize w3.drew = w4 at *
          refine heldF_take (v := ?_) (Or.inl ⟨by rfl, ?_⟩) ?_
          rotate_left 1
          · intro w' hSw
            try dsimp only at hSw
            have s1 := scanCells hSw
            go_simp
            try with_reducible rfl
          try simp only [Act.put, List.setIfInBounds_toArray, List.set_cons_zero, List.set_cons_succ]
          refine heldF_take (v := ?_) (Or.inl ⟨by rfl, ?_⟩) ?_
          rotate_left 1
          · intro w' hSw
            try dsimp only at hSw
            have s1 := scanCells hSw
            go_simp
            try with_reducible rfl
          try simp only [Act.put, List.setIfInBounds_toArray, List.set_cons_zero, List.set_cons_succ]
          refine heldF_take (v := ?_) (Or.inl ⟨by rfl, ?_⟩) ?_
          rotate_left 1
          · intro w' hSw
            try dsimp only at hSw
            have s1 := scanCells hSw
            go_simp
            try with_reducible rfl
          try simp only [Act.put, List.setIfInBounds_toArray, List.set_cons_zero, List.set_cons_succ]
          refine heldF_take (v := ?_) (Or.inl ⟨by rfl, ?_⟩) ?_
          rotate_left 1
          · intro w' hSw
            try dsimp only at hSw
            have s1 := scanCells hSw
            go_simp
            try with_reducible rfl
          try simp only [Act.put, List.setIfInBounds_toArray, List.set_cons_zero, List.set_cons_succ]
          refine heldF_take (v := ?_) (Or.inl ⟨by rfl, ?_⟩) ?_
          rotate_left 1
          · intro w' hSw
            try dsimp only at hSw
            have s1 := scanCells hSw
            go_simp
            try with_reducible rfl
          try simp only [Act.put, List.setIfInBounds_toArray, List.set_cons_zero, List.set_cons_succ]
          refine heldF_take (v := ?_) (Or.inl ⟨by rfl, ?_⟩) ?_
          rotate_left 1
          · intro w' hSw
            try dsimp only at hSw
            have s1 := scanCells hSw
            go_simp
            try with_reducible rfl
          try simp only [Act.put, List.setIfInBounds_toArray, List.set_cons_zero, List.set_cons_succ]
          refine heldF_take (v := ?_) (Or.inl ⟨by rfl, ?_⟩) ?_
          rotate_left 1
          · intro w' hSw
            try dsimp only at hSw
            have s1 := scanCells hSw
            go_simp
            try with_reducible rfl
          try simp only [Act.put, List.setIfInBounds_toArray, List.set_cons_zero, List.set_cons_succ]
          refine heldF_skip ?_
          refine heldF_skip ?_
          refine heldF_take (v := ?_) (Or.inl ⟨by rfl, ?_⟩) ?_
          rotate_left 1
          · intro w' hSw
            try dsimp only at hSw
            have s1 := scanCells hSw
            go_simp
            try with_reducible rfl
          try simp only [Act.put, List.setIfInBounds_toArray, List.set_cons_zero, List.set_cons_succ]
          refine heldF_skip ?_
          refine heldF_skip ?_
          refine heldF_skip ?_
          refine heldF_skip ?_
          refine heldF_skip ?_
          refine heldF_nil ?_
          refine anyT_step1 (i := 7) rfl (by kernel_rfl) (fun K hK => ?_)
          go_simp
          refine (odd_of tb ao n cap q3 zs w4 (unhide HX4).d.cur (by omega)).mono ?_
          rintro e w5 ⟨o5, q5, rfl, hc5, hq5, g5⟩
          have HX5 := hide ((unhide HX4).pick (unhide DY) hc5 g5)
          clear HX4 hc5 g5
          go_simp
          refine hK.out _ _ (.inr (unhide HX5).b) ?_
          clear hK K
          try simp only [Act.put, List.setIfInBounds_toArray, List.set_cons_zero, List.set_cons_succ]
          refine anyT_step2 (i := 8) (j := 10) rfl rfl (by kernel_rfl) (fun K hK => ?_) (fun K hK => ?_)
          · go_simp
            have HX6 := hide ((unhide HX5).new (World.grownBy_alloc w5 (.cells #[.int .i64 (IntKind.i64.wrap (to + 1)), .int .i64 (IntKind.i64.wrap (to - 1)), .int .i64 64, .int .i64 o5] 3) none))
            have hwt := (unhide HX5).d.cur.lt
            refine hK.out _ _ (.inr (unhide HX6).b) ?_
            clear hK K
            try simp only [Act.put, List.setIfInBounds_toArray, List.set_cons_zero, List.set_cons_succ]
            refine anyT_step1 (i := 10) rfl (by kernel_rfl) (fun K hK => ?_)
            go_simp
            refine (pick_of tb ao n cap q5 4 zs _ (unhide HX6).d.cur (by omega) (by omega) (by omega)).mono ?_
            rintro e w7 ⟨z, q7, rfl, hz0, hz1, hc7, hq7, g7⟩
            obtain ⟨z, rfl⟩ := Int.eq_ofNat_of_zero_le hz0
            obtain ⟨u, hu⟩ := lit_atS g7 (by simp; omega) z (by simp; omega) (by intro v hv; simp at hv; rcases hv with rfl | rfl | rfl | rfl <;> exact ⟨_, rfl⟩)
            have HX7 := hide ((unhide HX6).pick (unhide DY) hc7 g7)
            clear HX6 HX5 hc7 g7
            go_simp
            refine hK.out _ _ (.inr (unhide HX7).b) ?_
            clear hK K
            try simp only [Act.put, List.setIfInBounds_toArray, List.set_cons_zero, List.set_cons_succ]
            obtain ⟨b0, b1, b2, b3, b4⟩ := scanCells (unhide HX7).b
            have bf := frozen_of_row w7 xb 2 _ _ (unhide HX7).b
            have HX8 := hide ((unhide HX7).set (unhide DY) 2 (.int .i64 u) _ rfl)
            simp only [List.setIfInBounds_toArray, List.set_cons_zero, List.set_cons_succ] at HX8
            refine anyT_step1 (i := 11) rfl (by kernel_rfl) (fun K hK => ?_)
            go_simp
            refine hK.out _ _ (.inr (unhide HX7).b) ?_
            clear hK K
            try simp only [Act.put, List.setIfInBounds_toArray, List.set_cons_zero, List.set_cons_succ]
            refine anyT_step1 (i := 12) rfl (by kernel_rfl) (fun K hK => ?_)
            go_simp
            refine hK.out _ _ (.inr (unhide HX7).b) ?_
            clear hK K
            try simp only [Act.put, List.setIfInBounds_toArray, List.set_cons_zero, List.set_cons_succ]
            refine anyT_step1 (i := 13) rfl (by kernel_rfl) (fun K hK => ?_)
            go_simp
            refine hK.out _ _ (.inr (unhide HX7).b) ?_
            clear hK K
            try simp only [Act.put, List.setIfInBounds_toArray, List.set_cons_zero, List.set_cons_succ]
            refine anyT_step1 (i := 14) rfl (by kernel_rfl) (fun K hK => ?_)
            go_simp
            refine hK.out _ _ (.inl rfl) ?_
            clear hK K
            refine anyT_done (by kernel_rfl) (NoPanic.normal ?_) _
            clear b0 b1 b2 b3 b4 bf hu HX7
            generalize w7.setCell ⟨xb, 2, none⟩ (.int .i64 u) = w8 at *
            obtain ⟨z1, z2, z3, z4, r1, r2, r3, r4, rf⟩ := (unhide HX8).row
            have r0 := (unhide HX8).c
            have rf0 := rf (k * 5)
            have rf1 := rf (k * 5 + 1)
            have rf2 := rf (k * 5 + 2)
            have rf3 := rf (k * 5 + 3)
            have rf4 := rf (k * 5 + 4)
            obtain ⟨b0, b1, b2, b3, b4⟩ := scanCells (unhide HX8).b
            have HE : Hid (RdT w.heap.size (put5 w8 g k (.slice co cn cc) ⟨cs, fr, u, hi, lo⟩) (.slice (some ⟨g, 0, none⟩) m uc) (S.set k ⟨cs, fr, u, hi, lo⟩) ∧ Few 5 (S.set k ⟨cs, fr, u, hi, lo⟩) ∧ (S.set k ⟨cs, fr, u, hi, lo⟩).length ≤ 1001 ∧ Cur (put5 w8 g k (.slice co cn cc) ⟨cs, fr, u, hi, lo⟩) tb ao n cap zs q7 ∧ q7 ≤ p0 + 1000 ∧ w.grownBy (put5 w8 g k (.slice co cn cc) ⟨cs, fr, u, hi, lo⟩) (some tb)) := by
              have h9 := (unhide HX8).put (unhide DY) (u := .slice co cn cc) (y := ⟨cs, fr, u, hi, lo⟩) (by have := (unhide HX8).o; exact this) (fun x hx => (unhide HX8).d.lo x ((unhide HX8).og x hx))
              exact ⟨h9.1, few_set (few_mono (unhide HF4) (by omega)) (by show cs.length ≤ 5; rw [unhide HCN]; omega), by rw [List.length_set, unhide HM]; omega, h9.2.1, by omega, h9.2.2⟩
            clear rf HX8
            go_wp2
            go_ret
            exact ⟨_, _, _, rfl, unhide HE⟩
          · go_simp
            refine (pick_of tb ao n cap q5 4 zs w5 (unhide HX5).d.cur (by omega) (by omega) (by omega)).mono ?_
            rintro e w6 ⟨z, q7, rfl, hz0, hz1, hc7, hq7, g7⟩
            obtain ⟨z, rfl⟩ := Int.eq_ofNat_of_zero_le hz0
            have HX6 := hide ((unhide HX5).pick (unhide DY) hc7 g7)
            clear HX5 hc7 g7
            go_simp
            refine hK.out _ _ (.inr (unhide HX6).b) ?_
            clear hK K
            try simp only [Act.put, List.setIfInBounds_toArray, List.set_cons_zero, List.set_cons_succ]
            refine anyT_step1 (i := 8) rfl (by kernel_rfl) (fun K hK => ?_)
            go_simp
            obtain ⟨u, hu⟩ := lit_atS (World.grownBy.refl (w6.alloc (.cells #[.int .i64 (IntKind.i64.wrap (to + 1)), .int .i64 (IntKind.i64.wrap (to - 1)), .int .i64 64, .int .i64 o5] 3)) none) (by simp) z (by simp; omega) (by intro v hv; simp at hv; rcases hv with rfl | rfl | rfl | rfl <;> exact ⟨_, rfl⟩)
            have HX7 := hide ((unhide HX6).new (World.grownBy_alloc w6 (.cells #[.int .i64 (IntKind.i64.wrap (to + 1)), .int .i64 (IntKind.i64.wrap (to - 1)), .int .i64 64, .int .i64 o5] 3) none))
            clear HX6
            refine hK.out _ _ (.inr (unhide HX7).b) ?_
            clear hK K
            try simp only [Act.put, List.setIfInBounds_toArray, List.set_cons_zero, List.set_cons_succ]
            generalize w6.alloc (.cells #[.int .i64 (IntKind.i64.wrap (to + 1)), .int .i64 (IntKind.i64.wrap (to - 1)), .int .i64 64, .int .i64 o5] 3) = w7 at *
            obtain ⟨b0, b1, b2, b3, b4⟩ := scanCells (unhide HX7).b
            have bf := frozen_of_row w7 xb 2 _ _ (unhide HX7).b
            have HX8 := hide ((unhide HX7).set (unhide DY) 2 (.int .i64 u) _ rfl)
            simp only [List.setIfInBounds_toArray, List.set_cons_zero, List.set_cons_succ] at HX8
            refine anyT_step1 (i := 11) rfl (by kernel_rfl) (fun K hK => ?_)
            go_simp
            refine hK.out _ _ (.inr (unhide HX7).b) ?_
            clear hK K
            try simp only [Act.put, List.setIfInBounds_toArray, List.set_cons_zero, List.set_cons_succ]
            refine anyT_step1 (i := 12) rfl (by kernel_rfl) (fun K hK => ?_)
            go_simp
            refine hK.out _ _ (.inr (unhide HX7).b) ?_
            clear hK K
            try simp only [Act.put, List.setIfInBounds_toArray, List.set_cons_zero, List.set_cons_succ]
            refine anyT_step1 (i := 13) rfl (by kernel_rfl) (fun K hK => ?_)
            go_simp
            refine hK.out _ _ (.inr (unhide HX7).b) ?_
            clear hK K
            try simp only [Act.put, List.setIfInBounds_toArray, List.set_cons_zero, List.set_cons_succ]
            refine anyT_step1 (i := 14) rfl (by kernel_rfl) (fun K hK => ?_)
            go_simp
            refine hK.out _ _ (.inl rfl) ?_
            clear hK K
            refine anyT_done (by kernel_rfl) (NoPanic.normal ?_) _
            clear b0 b1 b2 b3 b4 bf hu HX7
            generalize w7.setCell ⟨xb, 2, none⟩ (.int .i64 u) = w8 at *
            obtain ⟨z1, z2, z3, z4, r1, r2, r3, r4, rf⟩ := (unhide HX8).row
            have r0 := (unhide HX8).c
            have rf0 := rf (k * 5)
            have rf1 := rf (k * 5 + 1)
            have rf2 := rf (k * 5 + 2)
            have rf3 := rf (k * 5 + 3)
            have rf4 := rf (k * 5 + 4)
            obtain ⟨b0, b1, b2, b3, b4⟩ := scanCells (unhide HX8).b
            have HE : Hid (RdT w.heap.size (put5 w8 g k (.slice co cn cc) ⟨cs, fr, u, hi, lo⟩) (.slice (some ⟨g, 0, none⟩) m uc) (S.set k ⟨cs, fr, u, hi, lo⟩) ∧ Few 5 (S.set k ⟨cs, fr, u, hi, lo⟩) ∧ (S.set k ⟨cs, fr, u, hi, lo⟩).length ≤ 1001 ∧ Cur (put5 w8 g k (.slice co cn cc) ⟨cs, fr, u, hi, lo⟩) tb ao n cap zs q7 ∧ q7 ≤ p0 + 1000 ∧ w.grownBy (put5 w8 g k (.slice co cn cc) ⟨cs, fr, u, hi, lo⟩) (some tb)) := by
              have h9 := (unhide HX8).put (unhide DY) (u := .slice co cn cc) (y := ⟨cs, fr, u, hi, lo⟩) (by have := (unhide HX8).o; exact this) (fun x hx => (unhide HX8).d.lo x ((unhide HX8).og x hx))
              exact ⟨h9.1, few_set (few_mono (unhide HF4) (by omega)) (by show cs.length ≤ 5; rw [unhide HCN]; omega), by rw [List.length_set, unhide HM]; omega, h9.2.1, by omega, h9.2.2⟩
            clear rf HX8
            go_wp2
            go_ret
            exact ⟨_, _, _, rfl, unhide HE⟩
        · go_wp2
          refine wp_region_noPanic ?_
          have HX4 := hide ((unhide HX3).new (grown_drew (World.grownBy.refl w3 none)))
          clear HX3
          refine wp_region_rawT 20 (fun W => W.heap[xb]? = some (.cells #[.slice co cn cc, .int .i64 fr, .int .i64 to, .int .i64 hi, .int .i64 lo] 38 (0, 0))) [true, true, true, false, true, false, false, false, false, false] (by kernel_rfl) (fun _ _ _ _ _ h => h) rfl (by kernel_rfl) (unhide HX4).b ?_
          generalize w3.drew = w4 at *
          refine heldF_take (v := ?_) (Or.inl ⟨by rfl, ?_⟩) ?_
          rotate_left 1
          · intro w' hSw
            try dsimp only at hSw
            have s1 := scanCells hSw
            go_simp
            try with_reducible rfl
          try simp only [Act.put, List.setIfInBounds_toArray, List.set_cons_zero, List.set_cons_succ]
          refine heldF_take (v := ?_) (Or.inl ⟨by rfl, ?_⟩) ?_
          rotate_left 1
          · intro w' hSw
            try dsimp only at hSw
            have s1 := scanCells hSw
            go_simp
            try with_reducible rfl
          try simp only [Act.put, List.setIfInBounds_toArray, List.set_cons_zero, List.set_cons_succ]
          refine heldF_take (v := ?_) (Or.inl ⟨by rfl, ?_⟩) ?_
          rotate_left 1
          · intro w' hSw
            try dsimp only at hSw
            have s1 := scanCells hSw
            go_simp
            try with_reducible rfl
          try simp only [Act.put, List.setIfInBounds_toArray, List.set_cons_zero, List.set_cons_succ]
          refine heldF_skip ?_
          refine heldF_take (v := ?_) (Or.inl ⟨by rfl, ?_⟩) ?_
          rotate_left 1
          · intro w' hSw
            try dsimp only at hSw
            have s1 := scanCells hSw
            go_simp
            try with_reducible rfl
          try simp only [Act.put, List.setIfInBounds_toArray, List.set_cons_zero, List.set_cons_succ]
          refine heldF_skip ?_
          refine heldF_skip ?_
          refine heldF_skip ?_
          refine heldF_skip ?_
          refine heldF_skip ?_
          refine heldF_nil ?_
          refine anyT_step2 (i := 3) (j := 5) rfl rfl (by kernel_rfl) (fun K hK => ?_) (fun K hK => ?_)
          · go_simp
            have HX6 := hide ((unhide HX4).new (World.grownBy_alloc w4 (.cells #[.int .i64 13, .int .i64 14, .int .i64 (IntKind.i64.wrap (lo + 1)), .int .i64 (-1)] 3) none))
            have hwt := (unhide HX4).d.cur.lt
            refine hK.out _ _ (.inr (unhide HX6).b) ?_
            clear hK K
            try simp only [Act.put, List.setIfInBounds_toArray, List.set_cons_zero, List.set_cons_succ]
            refine anyT_step1 (i := 5) rfl (by kernel_rfl) (fun K hK => ?_)
            go_simp
            refine (pick_of tb ao n cap q3 4 zs _ (unhide HX6).d.cur (by omega) (by omega) (by omega)).mono ?_
            rintro e w7 ⟨z, q7, rfl, hz0, hz1, hc7, hq7, g7⟩
            obtain ⟨z, rfl⟩ := Int.eq_ofNat_of_zero_le hz0
            obtain ⟨u, hu⟩ := lit_atS g7 (by simp; omega) z (by simp; omega) (by intro v hv; simp at hv; rcases hv with rfl | rfl | rfl | rfl <;> exact ⟨_, rfl⟩)
            have HX7 := hide ((unhide HX6).pick (unhide DY) hc7 g7)
            clear HX6 HX4 hc7 g7
            go_simp
            refine hK.out _ _ (.inr (unhide HX7).b) ?_
            clear hK K
            try simp only [Act.put, List.setIfInBounds_toArray, List.set_cons_zero, List.set_cons_succ]
            obtain ⟨b0, b1, b2, b3, b4⟩ := scanCells (unhide HX7).b
            have bf := frozen_of_row w7 xb 4 _ _ (unhide HX7).b
            have HX8 := hide ((unhide HX7).set (unhide DY) 4 (.int .i64 u) _ rfl)
            simp only [List.setIfInBounds_toArray, List.set_cons_zero, List.set_cons_succ] at HX8
            refine anyT_step1 (i := 6) rfl (by kernel_rfl) (fun K hK => ?_)
            go_simp
            refine hK.out _ _ (.inr (unhide HX7).b) ?_
            clear hK K
            try simp only [Act.put, List.setIfInBounds_toArray, List.set_cons_zero, List.set_cons_succ]
            refine anyT_step1 (i := 7) rfl (by kernel_rfl) (fun K hK => ?_)
            go_simp
            refine hK.out _ _ (.inr (unhide HX7).b) ?_
            clear hK K
            try simp only [Act.put, List.setIfInBounds_toArray, List.set_cons_zero, List.set_cons_succ]
            refine anyT_step1 (i := 8) rfl (by kernel_rfl) (fun K hK => ?_)
            go_simp
            refine hK.out _ _ (.inr (unhide HX7).b) ?_
            clear hK K
            try simp only [Act.put, List.setIfInBounds_toArray, List.set_cons_zero, List.set_cons_succ]
            refine anyT_step1 (i := 9) rfl (by kernel_rfl) (fun K hK => ?_)
            go_simp
            refine hK.out _ _ (.inl rfl) ?_
            clear hK K
            refine anyT_done (by kernel_rfl) (NoPanic.normal ?_) _
            clear b0 b1 b2 b3 b4 bf hu HX7
            generalize w7.setCell ⟨xb, 4, none⟩ (.int .i64 u) = w8 at *
            obtain ⟨z1, z2, z3, z4, r1, r2, r3, r4, rf⟩ := (unhide HX8).row
            have r0 := (unhide HX8).c
            have rf0 := rf (k * 5)
            have rf1 := rf (k * 5 + 1)
            have rf2 := rf (k * 5 + 2)
            have rf3 := rf (k * 5 + 3)
            have rf4 := rf (k * 5 + 4)
            obtain ⟨b0, b1, b2, b3, b4⟩ := scanCells (unhide HX8).b
            have HE : Hid (RdT w.heap.size (put5 w8 g k (.slice co cn cc) ⟨cs, fr, to, hi, u⟩) (.slice (some ⟨g, 0, none⟩) m uc) (S.set k ⟨cs, fr, to, hi, u⟩) ∧ Few 5 (S.set k ⟨cs, fr, to, hi, u⟩) ∧ (S.set k ⟨cs, fr, to, hi, u⟩).length ≤ 1001 ∧ Cur (put5 w8 g k (.slice co cn cc) ⟨cs, fr, to, hi, u⟩) tb ao n cap zs q7 ∧ q7 ≤ p0 + 1000 ∧ w.grownBy (put5 w8 g k (.slice co cn cc) ⟨cs, fr, to, hi, u⟩) (some tb)) := by
              have h9 := (unhide HX8).put (unhide DY) (u := .slice co cn cc) (y := ⟨cs, fr, to, hi, u⟩) (by have := (unhide HX8).o; exact this) (fun x hx => (unhide HX8).d.lo x ((unhide HX8).og x hx))
              exact ⟨h9.1, few_set (few_mono (unhide HF4) (by omega)) (by show cs.length ≤ 5; rw [unhide HCN]; omega), by rw [List.length_set, unhide HM]; omega, h9.2.1, by omega, h9.2.2⟩
            clear rf HX8
            go_wp2
            go_ret
            exact ⟨_, _, _, rfl, unhide HE⟩
          · go_simp
            refine (pick_of tb ao n cap q3 4 zs w4 (unhide HX4).d.cur (by omega) (by omega) (by omega)).mono ?_
            rintro e w6 ⟨z, q7, rfl, hz0, hz1, hc7, hq7, g7⟩
            obtain ⟨z, rfl⟩ := Int.eq_ofNat_of_zero_le hz0
            have HX6 := hide ((unhide HX4).pick (unhide DY) hc7 g7)
            clear HX4 hc7 g7
            go_simp
            refine hK.out _ _ (.inr (unhide HX6).b) ?_
            clear hK K
            try simp only [Act.put, List.setIfInBounds_toArray, List.set_cons_zero, List.set_cons_succ]
            refine anyT_step1 (i := 3) rfl (by kernel_rfl) (fun K hK => ?_)
            go_simp
            obtain ⟨u, hu⟩ := lit_atS (World.grownBy.refl (w6.alloc (.cells #[.int .i64 13, .int .i64 14, .int .i64 (IntKind.i64.wrap (lo + 1)), .int .i64 (-1)] 3)) none) (by simp) z (by simp; omega) (by intro v hv; simp at hv; rcases hv with rfl | rfl | rfl | rfl <;> exact ⟨_, rfl⟩)
            have HX7 := hide ((unhide HX6).new (World.grownBy_alloc w6 (.cells #[.int .i64 13, .int .i64 14, .int .i64 (IntKind.i64.wrap (lo + 1)), .int .i64 (-1)] 3) none))
            clear HX6
            refine hK.out _ _ (.inr (unhide HX7).b) ?_
            clear hK K
            try simp only [Act.put, List.setIfInBounds_toArray, List.set_cons_zero, List.set_cons_succ]
            generalize w6.alloc (.cells #[.int .i64 13, .int .i64 14, .int .i64 (IntKind.i64.wrap (lo + 1)), .int .i64 (-1)] 3) = w7 at *
            obtain ⟨b0, b1, b2, b3, b4⟩ := scanCells (unhide HX7).b
            have bf := frozen_of_row w7 xb 4 _ _ (unhide HX7).b
            have HX8 := hide ((unhide HX7).set (unhide DY) 4 (.int .i64 u) _ rfl)
            simp only [List.setIfInBounds_toArray, List.set_cons_zero, List.set_cons_succ] at HX8
            refine anyT_step1 (i := 6) rfl (by kernel_rfl) (fun K hK => ?_)
            go_simp
            refine hK.out _ _ (.inr (unhide HX7).b) ?_
            clear hK K
            try simp only [Act.put, List.setIfInBounds_toArray, List.set_cons_zero, List.set_cons_succ]
            refine anyT_step1 (i := 7) rfl (by kernel_rfl) (fun K hK => ?_)
            go_simp
            refine hK.out _ _ (.inr (unhide HX7).b) ?_
            clear hK K
            try simp only [Act.put, List.setIfInBounds_toArray, List.set_cons_zero, List.set_cons_succ]
            refine anyT_step1 (i := 8) rfl (by kernel_rfl) (fun K hK => ?_)
            go_simp
            refine hK.out _ _ (.inr (unhide HX7).b) ?_
            clear hK K
            try simp only [Act.put, List.setIfInBounds_toArray, List.set_cons_zero, List.set_cons_succ]
            refine anyT_step1 (i := 9) rfl (by kernel_rfl) (fun K hK => ?_)
            go_simp
            refine hK.out _ _ (.inl rfl) ?_
            clear hK K
            refine anyT_done (by kernel_rfl) (NoPanic.normal ?_) _
            clear b0 b1 b2 b3 b4 bf hu HX7
            generalize w7.setCell ⟨xb, 4, none⟩ (.int .i64 u) = w8 at *
            obtain ⟨z1, z2, z3, z4, r1, r2, r3, r4, rf⟩ := (unhide HX8).row
            have r0 := (unhide HX8).c
            have rf0 := rf (k * 5)
            have rf1 := rf (k * 5 + 1)
            have rf2 := rf (k * 5 + 2)
            have rf3 := rf (k * 5 + 3)
            have rf4 := rf (k * 5 + 4)
            obtain ⟨b0, b1, b2, b3, b4⟩ := scanCells (unhide HX8).b
            have HE : Hid (RdT w.heap.size (put5 w8 g k (.slice co cn cc) ⟨cs, fr, to, hi, u⟩) (.slice (some ⟨g, 0, none⟩) m uc) (S.set k ⟨cs, fr, to, hi, u⟩) ∧ Few 5 (S.set k ⟨cs, fr, to, hi, u⟩) ∧ (S.set k ⟨cs, fr, to, hi, u⟩).length ≤ 1001 ∧ Cur (put5 w8 g k (.slice co cn cc) ⟨cs, fr, to, hi, u⟩) tb ao n cap zs q7 ∧ q7 ≤ p0 + 1000 ∧ w.grownBy (put5 w8 g k (.slice co cn cc) ⟨cs, fr, to, hi, u⟩) (some tb)) := by
              have h9 := (unhide HX8).put (unhide DY) (u := .slice co cn cc) (y := ⟨cs, fr, to, hi, u⟩) (by have := (unhide HX8).o; exact this) (fun x hx => (unhide HX8).d.lo x ((unhide HX8).og x hx))
              exact ⟨h9.1, few_set (few_mono (unhide HF4) (by omega)) (by show cs.length ≤ 5; rw [unhide HCN]; omega), by rw [List.length_set, unhide HM]; omega, h9.2.1, by omega, h9.2.2⟩
            clear rf HX8
            go_wp2
            go_ret
            exact ⟨_, _, _, rfl, unhide HE⟩
        · go_wp2_with fail
          refine (pick_of tb ao n cap q3 4 zs w3 (unhide HX3).d.cur (by omega) (by omega) (by omega)).mono ?_
          rintro e w4 ⟨u, q4, rfl, hu0, hu1, hc4, hq4, g4⟩
          have HX4 := hide ((unhide HX3).pick (unhide DY) hc4 g4)
          obtain ⟨b0, b1, b2, b3, b4⟩ := scanCells (unhide HX4).b
          have bf := frozen_of_row w4 xb 3 _ _ (unhide HX4).b
          have HX8 := hide ((unhide HX4).set (unhide DY) 3 (.int .i64 u) _ rfl)
          simp only [List.setIfInBounds_toArray, List.set_cons_zero, List.set_cons_succ] at HX8
          clear HX3 HX4 hc4 g4
          obtain ⟨w8, HW8⟩ : ∃ w8, Hid (w4.setCell ⟨xb, 3, none⟩ (.int .i64 u) = w8) := ⟨_, hide rfl⟩
          obtain ⟨z1, z2, z3, z4, r1, r2, r3, r4, rf⟩ := (unhide HX8).row
          have r0 := (unhide HX8).c
          have rf0 := rf (k * 5)
          have rf1 := rf (k * 5 + 1)
          have rf2 := rf (k * 5 + 2)
          have rf3 := rf (k * 5 + 3)
          have rf4 := rf (k * 5 + 4)
          obtain ⟨b0, b1, b2, b3, b4⟩ := scanCells (unhide HX8).b
          have HE : Hid (RdT w.heap.size (put5 (w4.setCell ⟨xb, 3, none⟩ (.int .i64 u)) g k (.slice co cn cc) ⟨cs, fr, to, u, lo⟩) (.slice (some ⟨g, 0, none⟩) m uc) (S.set k ⟨cs, fr, to, u, lo⟩) ∧ Few 5 (S.set k ⟨cs, fr, to, u, lo⟩) ∧ (S.set k ⟨cs, fr, to, u, lo⟩).length ≤ 1001 ∧ Cur (put5 (w4.setCell ⟨xb, 3, none⟩ (.int .i64 u)) g k (.slice co cn cc) ⟨cs, fr, to, u, lo⟩) tb ao n cap zs q4 ∧ q4 ≤ p0 + 1000 ∧ w.grownBy (put5 (w4.setCell ⟨xb, 3, none⟩ (.int .i64 u)) g k (.slice co cn cc) ⟨cs, fr, to, u, lo⟩) (some tb)) := by
            have h9 := (unhide HX8).put (unhide DY) (u := .slice co cn cc) (y := ⟨cs, fr, to, u, lo⟩) (by have := (unhide HX8).o; exact this) (fun x hx => (unhide HX8).d.lo x ((unhide HX8).og x hx))
            exact ⟨h9.1, few_set (few_mono (unhide HF4) (by omega)) (by show cs.length ≤ 5; rw [unhide HCN]; omega), by rw [List.length_set, unhide HM]; omega, h9.2.1, by omega, h9.2.2⟩
          clear rf HX8
          go_wp2
          go_ret
          exact ⟨_, _, _, rfl, unhide HE⟩
        · go_wp2
          refine wp_region_noPanic ?_
          have HX4 := hide ((unhide HX3).new (grown_drew (World.grownBy.refl w3 none)))
          clear HX3
          refine wp_region_tailL 20 (fun W => W.heap[xb]? = some (.cells #[.slice co cn cc, .int .i64 fr, .int .i64 to, .int .i64 hi, .int .i64 lo] 38 (0, 0))) [true, true, true, false, false, false, false, false, false] (by kernel_rfl) (fun _ _ _ _ _ h => h) rfl (by decide) (by kernel_rfl) (unhide HX4).b ?_
          generalize w3.drew = w4 at *
          refine heldF_take (v := ?_) (Or.inl ⟨by rfl, ?_⟩) ?_
          rotate_left 1
          · intro w' hSw
            try dsimp only at hSw
            have s1 := scanCells hSw
            go_simp
            try with_reducible rfl
          try simp only [Act.put, List.setIfInBounds_toArray, List.set_cons_zero, List.set_cons_succ]
          refine heldF_take (v := ?_) (Or.inl ⟨by rfl, ?_⟩) ?_
          rotate_left 1
          · intro w' hSw
            try dsimp only at hSw
            have s1 := scanCells hSw
            go_simp
            try with_reducible rfl
          try simp only [Act.put, List.setIfInBounds_toArray, List.set_cons_zero, List.set_cons_succ]
          refine heldF_take (v := ?_) (Or.inl ⟨by rfl, ?_⟩) ?_
          rotate_left 1
          · intro w' hSw
            try dsimp only at hSw
            have s1 := scanCells hSw
            go_simp
            try with_reducible rfl
          try simp only [Act.put, List.setIfInBounds_toArray, List.set_cons_zero, List.set_cons_succ]
          refine heldF_skip ?_
          refine heldF_skip ?_
          refine heldF_skip ?_
          refine heldF_skip ?_
          refine heldF_skip ?_
          refine heldF_skip ?_
          refine heldF_nil ?_
          refine tailL_skip (tailL_skip (tailL_skip (tailL_step (fun K hK => ?_))))
          go_simp
          refine (pick_of tb ao n cap q3 5 zs w4 (unhide HX4).d.cur (by omega) (by omega) (by omega)).mono ?_
          rintro e w5 ⟨x5, q5, rfl, hx50, hx51, hc5, hq5, g5⟩
          have HX5 := hide ((unhide HX4).pick (unhide DY) hc5 g5)
          clear HX4 hc5 g5
          go_simp
          refine hK.out _ _ (.inr (unhide HX5).b) ?_
          clear hK K
          try simp only [Act.put, List.setIfInBounds_toArray, List.set_cons_zero, List.set_cons_succ]
          have ew := i64_in (x5 - 1) (by omega)
          refine tailL_step (fun K hK => ?_)
          go_simp
          refine hK.out _ _ (.inr (unhide HX5).b) ?_
          clear hK K
          try simp only [Act.put, List.setIfInBounds_toArray, List.set_cons_zero, List.set_cons_succ]
          refine tailL_step (fun K hK => ?_)
          go_simp
          refine hK.out _ _ (.inr (at_rowS (World.grownBy_alloc w5 (.cells #[.int .i64 (x5 - 1)] 3) none) (unhide HX5).b (by simp))) ?_
          clear hK K
          try simp only [Act.put, List.setIfInBounds_toArray, List.set_cons_zero, List.set_cons_succ]
          have hcn : cs.length ≤ 4 := by rw [unhide HCN]; exact hcl
          have HO5 : Hid (OwI .i64 3 w5 (.slice co cs.length cc) cs (blk (.slice co cs.length cc))) := by have h9 := (unhide HX5).o; rw [← unhide HCN] at h9; exact h9
          rw [← unhide HCN] at HX5 ⊢
          refine tailL_step (fun K hK => ?_)
          refine step_append_oneS (w := w5) (by rfl) _ _ (by rfl) (.slice co cs.length cc) cs _ (by rfl) (unhide HO5) (x5 - 1) w5.heap.size rfl (by rfl) (by omega) ?_
          intro uo6 uc6 w6 o6 l6 g6
          have hx6 : ∀ x ∈ blk (.slice co cs.length cc), x ∈ F := (unhide HX5).og
          have hb6 : w6.heap[xb]? = some (.cells #[.slice co cs.length cc, .int .i64 fr, .int .i64 to, .int .i64 hi, .int .i64 lo] 38 (0, 0)) := (g6.block xb (Array.getElem?_eq_some_iff.1 (unhide HX5).b).1 (fun hx => (unhide HX5).bF (hx6 xb hx))).trans (unhide HX5).b
          have HB6 := hide hb6
          have HO6 := hide o6
          have HL6 := hide l6
          have HG6 := hide g6
          clear o6 l6 g6 hb6 hx6
          refine hK.out _ _ (.inr (by first | exact unhide HB6 | (rw [← unhide HCN]; exact unhide HB6) | (have h9 := unhide HB6; rw [unhide HCN] at h9; exact h9))) ?_
          clear hK K
          try simp only [Act.put, List.setIfInBounds_toArray, List.set_cons_zero, List.set_cons_succ]
          refine tailL_step (fun K hK => ?_)
          go_simp
          refine hK.out _ _ (.inr (by first | exact unhide HB6 | (have h9 := unhide HB6; rw [unhide HCN] at h9; exact h9))) ?_
          clear hK K
          try simp only [Act.put, List.setIfInBounds_toArray, List.set_cons_zero, List.set_cons_succ]
          obtain ⟨b0, b1, b2, b3, b4⟩ := scanCells (unhide HB6)
          have bf := frozen_of_row w6 xb 0 _ _ (unhide HB6)
          refine tailL_step (fun K hK => ?_)
          go_simp
          refine hK.out _ _ (.inl rfl) ?_
          clear hK K
          refine tailL_nil (NoPanic.normal ?_)
          have hB8 := heap_setCell_same w6 xb 0 _ _ (.slice uo6 (cs.length + 1) uc6) (unhide HB6)
          simp only [List.setIfInBounds_toArray, List.set_cons_zero] at hB8
          have G8 := grown_set w6 xb 0 (.slice uo6 (cs.length + 1) uc6)
          clear b0 b1 b2 b3 b4 bf
          obtain ⟨w8, HW8⟩ : ∃ w8, Hid (w6.setCell ⟨xb, 0, none⟩ (.slice uo6 (cs.length + 1) uc6) = w8) := ⟨_, hide rfl⟩
          rw [unhide HW8] at hB8 G8 ⊢
          clear HW8
          have HEND := hide ((unhide HX5).put4 (unhide DY) (unhide HG6) (unhide HO6) (unhide HL6) G8 (y := ⟨cs ++ [x5 - 1], fr, to, hi, lo⟩) rfl)
          obtain ⟨r0, r1, r2, r3, r4, rf⟩ := (unhide HEND).1
          obtain ⟨z0, r0⟩ := r0
          obtain ⟨z1, r1⟩ := r1
          obtain ⟨z2, r2⟩ := r2
          obtain ⟨z3, r3⟩ := r3
          obtain ⟨z4, r4⟩ := r4
          have rf0 := rf (k * 5)
          have rf1 := rf (k * 5 + 1)
          have rf2 := rf (k * 5 + 2)
          have rf3 := rf (k * 5 + 3)
          have rf4 := rf (k * 5 + 4)
          obtain ⟨b0, b1, b2, b3, b4⟩ := scanCells hB8
          have HE : Hid (RdT w.heap.size (put5 w8 g k (.slice uo6 (cs.length + 1) uc6) ⟨cs ++ [x5 - 1], fr, to, hi, lo⟩) (.slice (some ⟨g, 0, none⟩) m uc) (S.set k ⟨cs ++ [x5 - 1], fr, to, hi, lo⟩) ∧ Few 5 (S.set k ⟨cs ++ [x5 - 1], fr, to, hi, lo⟩) ∧ (S.set k ⟨cs ++ [x5 - 1], fr, to, hi, lo⟩).length ≤ 1001 ∧ Cur (put5 w8 g k (.slice uo6 (cs.length + 1) uc6) ⟨cs ++ [x5 - 1], fr, to, hi, lo⟩) tb ao n cap zs q5 ∧ q5 ≤ p0 + 1000 ∧ w.grownBy (put5 w8 g k (.slice uo6 (cs.length + 1) uc6) ⟨cs ++ [x5 - 1], fr, to, hi, lo⟩) (some tb)) := by
            have h9 := (unhide HEND).2
            exact ⟨h9.1, few_set (few_mono (unhide HF4) (by omega)) (by show (cs ++ [x5 - 1]).length ≤ 5; simp; omega), by rw [List.length_set, unhide HM]; omega, h9.2.1, by omega, h9.2.2⟩
          obtain ⟨cl, HCL⟩ : ∃ cl, Hid (cs.length + 1 = cl) := ⟨_, hide rfl⟩
          rw [unhide HCL] at b0 HE ⊢
          clear rf HEND HX5 HB6 HO6 HL6 HG6 G8 hB8 HO5 ew
          go_wp2
          go_ret
          exact ⟨_, _, _, rfl, unhide HE⟩
        · have e5 := i64_in ((k : Int) + 1) (by omega)
          go_wp2
          refine wp_region_noPanic ?_
          have HX4 := hide ((unhide HX3).new (grown_drew (World.grownBy.refl w3 none)))
          clear HX3
          have hoc : m ≤ uc ∧ uc ≤ maxLen := own_cap5 (unhide HX4).d.own (unhide HM)
          have hk2 : (k : Int) + 1 ≤ (m : Int) := by omega
          have hk3 : (0 : Int) ≤ (k : Int) + 1 := by omega
          have hk4 : (k : Int) ≤ (uc : Int) := by omega
          have hk5 : (m : Int) ≤ (uc : Int) := by omega
          have en : ((k : Int) + 1).toNat = k + 1 := by omega
          obtain ⟨U, cu1, cu2, cu3, cu4⟩ := cut_rd (k := k) (by have h9 := (unhide HX4).d.own; rw [← unhide HM] at h9; exact h9) (unhide HX4).d.nd (unhide HX4).d.lo (by rw [unhide HM]; exact hkm)
          rw [unhide HM] at cu2 cu3 cu4
          have HCU := hide (And.intro cu1 (And.intro cu2 (And.intro cu3 cu4)))
          clear cu1 cu2 cu3 cu4
          refine wp_region_tailL 20 (fun _ => True) [true, true, true, true, true, true, true, false, false] (by kernel_rfl) (fun _ _ _ _ _ h => h) rfl (by decide) (by kernel_rfl) trivial ?_
          generalize w3.drew = w4 at *
          refine heldF_take (v := ?_) (Or.inl ⟨by rfl, ?_⟩) ?_
          rotate_left 1
          · intro w' hSw
            go_simp
            try with_reducible rfl
          try simp only [Act.put, List.setIfInBounds_toArray, List.set_cons_zero, List.set_cons_succ]
          refine heldF_take (v := ?_) (Or.inl ⟨by rfl, ?_⟩) ?_
          rotate_left 1
          · intro w' hSw
            go_simp
            try with_reducible rfl
          try simp only [Act.put, List.setIfInBounds_toArray, List.set_cons_zero, List.set_cons_succ]
          refine heldF_take (v := ?_) (Or.inl ⟨by rfl, ?_⟩) ?_
          rotate_left 1
          · intro w' hSw
            go_simp
            try with_reducible rfl
          try simp only [Act.put, List.setIfInBounds_toArray, List.set_cons_zero, List.set_cons_succ]
          refine heldF_take (v := ?_) (Or.inl ⟨by rfl, ?_⟩) ?_
          rotate_left 1
          · intro w' hSw
            go_simp
            try with_reducible rfl
          try simp only [Act.put, List.setIfInBounds_toArray, List.set_cons_zero, List.set_cons_succ]
          refine heldF_take (v := ?_) (Or.inl ⟨by rfl, ?_⟩) ?_
          rotate_left 1
          · intro w' hSw
            go_simp
            try with_reducible rfl
          try simp only [Act.put, List.setIfInBounds_toArray, List.set_cons_zero, List.set_cons_succ]
          refine heldF_take (v := ?_) (Or.inl ⟨by rfl, ?_⟩) ?_
          rotate_left 1
          · intro w' hSw
            go_simp
            try with_reducible rfl
          try simp only [Act.put, List.setIfInBounds_toArray, List.set_cons_zero, List.set_cons_succ]
          refine heldF_take (v := ?_) (Or.inl ⟨by rfl, ?_⟩) ?_
          rotate_left 1
          · intro w' hSw
            go_simp
            try with_reducible rfl
          try simp only [Act.put, List.setIfInBounds_toArray, List.set_cons_zero, List.set_cons_succ]
          refine heldF_skip (heldF_skip (heldF_nil ?_))
          refine tailL_skip ?_
          refine tailL_skip ?_
          refine tailL_skip ?_
          refine tailL_skip ?_
          refine tailL_skip ?_
          refine tailL_skip ?_
          refine tailL_skip ?_
          refine tailL_step (fun K hK => ?_)
          refine step_append_cutS (w := w4) (by rfl) _ _ (by rfl) (.slice (some ⟨g, 0, none⟩) k uc) k _ (by rfl) (unhide HCU).1 _ (m - (k + 1)) (uc - (k + 1)) _ (by rfl) (rowsK_len _ _ _) ?_ (unhide HCU).2.2.1 (by omega) ?_
          · by_cases huc : uc = k + 1
            · rw [if_pos huc]
              refine ⟨_, rfl, fun j v hj => ?_⟩
              have h0 : m - (k + 1) = 0 := by omega
              have hl9 := (List.getElem?_eq_some_iff.1 hj).1
              rw [rowsK_len, h0] at hl9
              omega
            · rw [if_neg huc]
              exact ⟨_, rfl, (unhide HCU).2.1⟩
          intro v5 w5 o5 g5 b5
          have HE : Hid (RdT w.heap.size (w5) (v5) (S.eraseIdx k) ∧ Few 5 (S.eraseIdx k) ∧ (S.eraseIdx k).length ≤ 1001 ∧ Cur (w5) tb ao n cap zs q3 ∧ q3 ≤ p0 + 1000 ∧ w.grownBy (w5) (some tb)) := by
            have hgl := (unhide HX4).d.lo g (unhide HX4).gF
            have hw : Wr [g] w4 w5 := Wr.ofRow g5 (fun x e => by have : g = x := Option.some.inj e; simp [this])
            have hH : ∀ x ∈ [g], w.heap.size ≤ x := fun x hx => by simp at hx; subst hx; exact hgl
            exact ⟨(unhide HCU).2.2.2 w5 v5 o5 g5 b5 (unhide HX4).d.grown.size, fun a ha => Nat.le_trans (unhide HF4 a (List.mem_of_mem_eraseIdx ha)) (by omega), by rw [List.length_eraseIdx_of_lt (by rw [unhide HM]; exact hkm), unhide HM]; omega, cur_wr (unhide DY) (unhide HX4).d.grown.size (unhide HX4).d.cur hw hH, by omega, grown_wr (unhide HX4).d.grown hw hH⟩
          obtain ⟨vo5, vc5, rfl⟩ := own_form o5
          obtain ⟨ln, HLN⟩ : ∃ ln, Hid (k + (m - (k + 1)) = ln) := ⟨_, hide rfl⟩
          rw [unhide HLN] at HE ⊢
          clear o5 g5 b5 HCU HX4 HLN e5 en hk2 hk3 hk4 hk5 hoc
          refine hK.out _ _ (.inr trivial) ?_
          clear hK K
          try simp only [Act.put, List.setIfInBounds_toArray, List.set_cons_zero, List.set_cons_succ]
          refine tailL_step (fun K hK => ?_)
          go_simp
          refine hK.out _ _ (.inl rfl) ?_
          clear hK K
          refine tailL_nil (NoPanic.normal ?_)
          go_wp2
          all_goals (go_ret; have h9 := unhide HE; first | exact ⟨_, _, _, rfl, h9⟩ | exact ⟨_, rfl, _, h9.1, h9.2.1, h9.2.2.1, _, h9.2.2.2⟩)
        · have HO3 := hide (unhide HX3).o
          have HB3 := hide (unhide HX3).b
          have HD3 := hide (unhide HX3).d
          have hbF3 := (unhide HX3).bF
          have HLO : Hid (∀ x ∈ blk (.slice co cn cc), w.heap.size ≤ x) := fun x hx => (unhide HX3).d.lo x ((unhide HX3).og x hx)
          clear HX3
          go_wp2
          go_loopw [5] (fun ov wr => ∃ (vo : Option Addr) (vn vc : Nat) (X : List Scn) (F : List Nat) (q : Nat), ov = .slice vo vn vc ∧ m ≤ vn ∧ vn ≤ 1000 ∧ q ≤ q3 + 2 * (vn - m) ∧ (vn ≤ 41 ∨ vn = m) ∧ Hid (X.length = vn) ∧ Hid (Few 4 X) ∧ Hid (Dt w tb ao n cap zs wr (.slice vo vn vc) X F q) ∧ xb ∉ F ∧ Hid (wr.heap[xb]? = some (.cells #[.slice co cn cc, .int .i64 fr, .int .i64 to, .int .i64 hi, .int .i64 lo] 38 (0, 0))) ∧ Hid (OwI .i64 3 wr (.slice co cn cc) cs (blk (.slice co cn cc)))) (fun ov _ => 41 - lenV ov)
          case atStart => exact ⟨_, m, uc, S, F, q3, rfl, Nat.le_refl _, hlen, by omega, .inr rfl, HM, HF4, HD3, hbF3, HB3, HO3⟩
          case round =>
            clear HD3 HB3 HO3 hbF3
            obtain ⟨vo, vn, vc, X, F, q, rfl, hmv, hv1, hq, hv41, HXL, HXF, hD, hbF, hB, hO⟩ := hrel
            go_wp2_with fail
            refine (pick_of tb ao n cap q 2 zs wr (unhide hD).cur (by omega) (by omega) (by omega)).mono ?_
            rintro e w5 ⟨x5, q5, rfl, hx50, hx51, hc5, hq5, g5⟩
            have hbx : xb < wr.heap.size := (Array.getElem?_eq_some_iff.1 (unhide hB)).1
            have D5 := hide ((unhide hD).pick (unhide DY) hc5 g5)
            have B5 := hide (at_rowS g5 (unhide hB) (fun e => by have := Option.some.inj e; omega))
            have O5 := hide ((OwI.ok .i64 3).wr (unhide hO) (Wr.ofRow (F := [tb]) g5 (fun x e => by simp at e; simp [e])) (fun x hx e => by simp at e; have := unhide HLO x hx; omega))
            clear hD hB hO hc5 g5 hbx
            have e5 := i64_in (40 + x5) (by omega)
            by_cases hgo : (vn : Int) < 40 + x5
            · have hdg : decide ((vn : Int) < 40 + x5) = true := decide_eq_true hgo
              obtain ⟨b0, b1, b2, b3, b4⟩ := scanCells (unhide B5)
              have hcn : cs.length ≤ 1000 := by rw [unhide HCN]; omega
              go_wp2_with fail
              clear b0 b1 b2 b3 b4
              refine (specCopyScan w5 co cn cc cs fr to hi lo _ (unhide O5) hcn).mono ?_
              rintro e w6 ⟨uo6, uc6, rfl, o6, l6, g6⟩
              have HO6 := hide o6
              have HL6 := hide l6
              have HG6 := hide g6
              clear o6 l6 g6
              go_wp2_with (at_builtin; refine Dt.app (wn := w6) (unhide D5) (unhide DY) (unhide HG6) rfl _ _ rfl rfl (.slice uo6 cs.length uc6) ⟨cs, fr, to, hi, lo⟩ _ (unhide HO6) (unhide HL6) _ rfl w6.heap.size rfl rfl (by rw [unhide HXL]; omega) ?_)
              intro v7 w7 F7 S7 wr7 m7
              have hbx : xb < w5.heap.size := (Array.getElem?_eq_some_iff.1 (unhide B5)).1
              have B7 := hide ((wr7.block xb hbx (fun hx => hbF ((unhide D5).blkF xb (mem_blk.1 hx)))).trans (unhide B5))
              have O7 := hide ((OwI.ok .i64 3).wr (unhide O5) wr7 ((unhide D5).own.kinds (unhide O5)))
              have hbF7 : xb ∉ F7 := fun hx => by rcases m7 xb hx with h9 | h9; exact hbF h9; omega
              obtain ⟨X7, HX7⟩ : ∃ X7, Hid (X ++ [(⟨cs, fr, to, hi, lo⟩ : Scn)] = X7) := ⟨_, hide rfl⟩
              have HXL7 : Hid (X7.length = vn + 1) := by unfold Hid; rw [← unhide HX7, List.length_append, unhide HXL]; rfl
              have HXF7 : Hid (Few 4 X7) := by unfold Hid; rw [← unhide HX7]; exact (unhide HXF).snoc (by show cs.length ≤ 4; rw [unhide HCN]; exact hcl)
              rw [unhide HX7] at S7
              obtain ⟨vo7, vc7, rfl⟩ := OwG.form S7.own
              rw [unhide HXL7] at S7 ⊢
              have D7 := hide S7
              clear S7 wr7 m7 D5 B5 O5 HG6 HL6 HO6 HX7 HXL HXF hbF hbx e5
              go_wp2
              go_roundw
              case rel => exact ⟨vo7, vn + 1, vc7, X7, F7, q5, rfl, by omega, by omega, by omega, .inl (by omega), HXL7, HXF7, D7, hbF7, B7, O7⟩
              case measure => simp [lenV]; omega
            · have hdg : decide ((vn : Int) < 40 + x5) = false := decide_eq_false hgo
              have hkv : k < vn := by omega
              have hk1 : (k : Int) < (vn : Int) := by omega
              obtain ⟨g9, c9, co9, cc9, ev, hgF9, ho9, hog9, _, k09, _, _, _, _⟩ := (unhide D5).own.look k (by rw [unhide HXL]; exact hkv) _ rfl
              obtain ⟨evo, -, evc⟩ := Value.slice.inj ev
              subst evo evc
              have HX8 : Hid (Bx w tb ao n cap zs w5 g9 vc vn X F k xb _ _ #[.slice co cn cc, .int .i64 fr, .int .i64 to, .int .i64 hi, .int .i64 lo] q5) := ⟨unhide D5, unhide HXL, hkv, k09, ho9, hog9, hgF9, unhide B5, hxb, hbF⟩
              clear ev hgF9 ho9 hog9 k09 D5
              obtain ⟨z1, z2, z3, z4, r1, r2, r3, r4, rf⟩ := (unhide HX8).row
              have r0 := (unhide HX8).c
              have rf0 := rf (k * 5)
              have rf1 := rf (k * 5 + 1)
              have rf2 := rf (k * 5 + 2)
              have rf3 := rf (k * 5 + 3)
              have rf4 := rf (k * 5 + 4)
              obtain ⟨b0, b1, b2, b3, b4⟩ := scanCells (unhide HX8).b
              have HE : Hid (RdT w.heap.size (put5 w5 g9 k (.slice co cn cc) ⟨cs, fr, to, hi, lo⟩) (.slice (some ⟨g9, 0, none⟩) vn vc) (X.set k ⟨cs, fr, to, hi, lo⟩) ∧ Few 5 (X.set k ⟨cs, fr, to, hi, lo⟩) ∧ (X.set k ⟨cs, fr, to, hi, lo⟩).length ≤ 1001 ∧ Cur (put5 w5 g9 k (.slice co cn cc) ⟨cs, fr, to, hi, lo⟩) tb ao n cap zs q5 ∧ q5 ≤ p0 + 1000 ∧ w.grownBy (put5 w5 g9 k (.slice co cn cc) ⟨cs, fr, to, hi, lo⟩) (some tb)) := by
                have h9 := (unhide HX8).put (unhide DY) (u := .slice co cn cc) (y := ⟨cs, fr, to, hi, lo⟩) (unhide O5) (unhide HLO)
                exact ⟨h9.1, few_set (few_mono (unhide HXF) (by omega)) (by show cs.length ≤ 5; rw [unhide HCN]; omega), by rw [List.length_set, unhide HXL]; omega, h9.2.1, by omega, h9.2.2⟩
              clear rf HX8
              go_wp2
              go_ret
              exact ⟨_, _, _, rfl, unhide HE⟩
        · have HX4 := hide ((unhide HX3).new (World.grownBy_alloc w3 (.cells #[] 3) none))
          have hxw : xb < w3.heap.size := (Array.getElem?_eq_some_iff.1 (unhide HX3).b).1
          have hww := (unhide HX3).d.grown.size
          obtain ⟨b0, b1, b2, b3, b4⟩ := scanCells (unhide HX4).b
          have bf := frozen_of_row (w3.alloc (.cells #[] 3)) xb 0 _ _ (unhide HX4).b
          have HX8 := hide ((unhide HX4).set (unhide DY) 0 (.slice (some ⟨w3.heap.size, 0, none⟩) 0 0) _ rfl)
          simp only [List.setIfInBounds_toArray, List.set_cons_zero] at HX8
          have HOU : Hid (OwI .i64 3 ((w3.alloc (.cells #[] 3)).setCell ⟨xb, 0, none⟩ (.slice (some ⟨w3.heap.size, 0, none⟩) 0 0)) (.slice (some ⟨w3.heap.size, 0, none⟩) 0 0) [] [w3.heap.size]) := by
            have h9 : OwI .i64 3 (w3.alloc (.cells #[] 3)) (.slice (some ⟨w3.heap.size, 0, none⟩) 0 0) [] [w3.heap.size] := ⟨World.ownsRow_lit w3 #[] 0 (Nat.zero_le _) (by unfold maxLen; omega) rfl, rfl⟩
            exact (OwI.ok .i64 3).wr h9 (Wr.ofRow (F := [xb]) (grown_set (w3.alloc (.cells #[] 3)) xb 0 (.slice (some ⟨w3.heap.size, 0, none⟩) 0 0)) (fun x e => by simp at e; simp [e])) (fun x hx e => by simp at hx e; omega)
          have HWW := hide hww
          clear HX3 HX4 hxw hww
          obtain ⟨z1, z2, z3, z4, r1, r2, r3, r4, rf⟩ := (unhide HX8).row
          have r0 := (unhide HX8).c
          have rf0 := rf (k * 5)
          have rf1 := rf (k * 5 + 1)
          have rf2 := rf (k * 5 + 2)
          have rf3 := rf (k * 5 + 3)
          have rf4 := rf (k * 5 + 4)
          obtain ⟨b0, b1, b2, b3, b4⟩ := scanCells (unhide HX8).b
          have HE : Hid (RdT w.heap.size (put5 ((w3.alloc (.cells #[] 3)).setCell ⟨xb, 0, none⟩ (.slice (some ⟨w3.heap.size, 0, none⟩) 0 0)) g k (.slice (some ⟨w3.heap.size, 0, none⟩) 0 0) ⟨[], fr, to, hi, lo⟩) (.slice (some ⟨g, 0, none⟩) m uc) (S.set k ⟨[], fr, to, hi, lo⟩) ∧ Few 5 (S.set k ⟨[], fr, to, hi, lo⟩) ∧ (S.set k ⟨[], fr, to, hi, lo⟩).length ≤ 1001 ∧ Cur (put5 ((w3.alloc (.cells #[] 3)).setCell ⟨xb, 0, none⟩ (.slice (some ⟨w3.heap.size, 0, none⟩) 0 0)) g k (.slice (some ⟨w3.heap.size, 0, none⟩) 0 0) ⟨[], fr, to, hi, lo⟩) tb ao n cap zs q3 ∧ q3 ≤ p0 + 1000 ∧ w.grownBy (put5 ((w3.alloc (.cells #[] 3)).setCell ⟨xb, 0, none⟩ (.slice (some ⟨w3.heap.size, 0, none⟩) 0 0)) g k (.slice (some ⟨w3.heap.size, 0, none⟩) 0 0) ⟨[], fr, to, hi, lo⟩) (some tb)) := by
            have h9 := (unhide HX8).put (unhide DY) (u := .slice (some ⟨w3.heap.size, 0, none⟩) 0 0) (y := ⟨[], fr, to, hi, lo⟩) (unhide HOU) (fun x hx => by have := unhide HWW; simp at hx; omega)
            exact ⟨h9.1, few_set (few_mono (unhide HF4) (by omega)) (by simp), by rw [List.length_set, unhide HM]; omega, h9.2.1, by omega, h9.2.2⟩
          clear rf HX8
          go_wp2
          go_ret
          exact ⟨_, _, _, rfl, unhide HE⟩

end Go.Proofs.Ytnjcmlmgjoaeeaa

namespace Go.Proofs.Ytnjcmlmgjoaeeaa
end Go.Proofs.Ytnjcmlmgjoaeeaa

namespace Go.Proofs.Ytnjcmlmgjoaeeaa
theorem Try.info5 : (Try.prog.info? 5).map (fun i => (i.zero, i.size, i.bytes)) = some (some (.int .u8 0), 1, 1) := by kernel_rfl
end Go.Proofs.Ytnjcmlmgjoaeeaa

namespace Go.Proofs.Ytnjcmlmgjoaeeaa
open Go.RowKit

theorem new_cells (w : World) (xs : Array Value) (t : TypeId) : ∀ j u, xs.toList[j]? = some u → (w.alloc (.cells xs t)).cell? ((⟨w.heap.size, 0, none⟩ : Addr).add j) = some u := by
  intro j u hj
  have h := heap_alloc_new w (.cells xs t)
  rw [Addr.add_lit, Nat.zero_add, cell_of_row _ _ j _ _ (0, 0) h]
  simpa using hj
theorem rd_news {w : World} {x : Addr} {m : Nat} {zs : List Int} (h : Rd .u8 w (some x) m zs) : ∀ j u, (zs.map (Value.int .u8))[j]? = some u → w.cell? (x.add j) = some u := by
  intro j u hj
  have hl := h.1
  have hjl : j < m := by
    have := (List.getElem?_eq_some_iff.1 hj).1
    simp at this; omega
  obtain ⟨b, off, e, hc⟩ := h.2 j hjl
  simp only [Option.some.injEq] at e
  subst e
  rw [Addr.add_lit, hc]
  rw [List.getElem?_map] at hj
  have hj2 : j < zs.length := by omega
  simp [hj2] at hj ⊢
  exact hj

theorem append_rd {w : World} {ops : Array Oper} {rest : List Oper} {o : Oper} {a : Act} {Q : Exit → Act → World → Prop} (hgd : o.guard = none) (s x : Operand)
    (ho : o.op = .call { callee := .builtin .append, args := #[s, x], argTypes := #[22, 22] })
    (base : Nat) (v : Value) (n : Nat) (xs : List Value) (hs : a.eval s = v) (hown : w.ownsRow base 5 1 v n xs)
    (dd : Option Addr) (m c : Nat) (zs : List Int) (hx : a.eval x = .slice dd m c) (hr : Rd .u8 w dd m zs) (hnil : dd = none → c = 0)
    (hb : n + m ≤ 1000000) (hbase : base ≤ w.heap.size)
    (h : ∀ v' w', w'.ownsRow base 5 1 v' (n + m) (xs ++ zs.map (Value.int .u8)) → w.grownBy w' v.ownBlock → wpList Try.prog ops Q rest (a.put o.dst v') w') :
    wpList Try.prog ops Q (o :: rest) a w := by
  obtain ⟨i0, hi, hz0, hz1, hz2⟩ := info_parts Try.info5
  cases dd with
  | none =>
    have hm : m = 0 := by
      rcases Nat.eq_zero_or_pos m with e | e
      · exact e
      · obtain ⟨b, off, e, _⟩ := hr.2 0 e
        cases e
    subst hm
    have hz : zs = [] := List.length_eq_zero_iff.1 hr.1
    subst hz
    rw [hnil rfl] at hx
    refine wpList_append_own_none hgd s x 22 ho base 5 i0 1 Try.underlying22 hi v n xs hs hown hx (h v w ?_ (World.grownBy.refl _ _))
    simpa using hown
  | some ad =>
    refine wpList_append_own _ hgd s x 22 ho base 5 i0 (.int .u8 0) 1 1 Try.underlying22 hi hz0 hz1 hz2 rfl (by decide) v n xs hs hown ad m c (zs.map (Value.int .u8)) hx (by simp [hr.1]) (rd_news hr) ?_ (by unfold maxLen; omega) (by omega) hbase (fun v' w' h1 h2 _ => h v' w' h1 h2)
    intro u hu
    obtain ⟨y, _, rfl⟩ := List.mem_map.1 hu
    rfl

theorem own_nil {w : World} {base : Nat} {e : TypeId} {bo : Option Addr} {n c : Nat} {xs : List Value} (h : w.ownsRow base e 1 (.slice bo n c) n xs) : bo = none → c = 0 := by
  intro hn
  rcases h.2 with ⟨hv, _⟩ | ⟨q, _, _, hv, _⟩
  · simp at hv; exact hv.2.2
  · rw [hn] at hv; simp at hv
theorem own_as {w : World} {base : Nat} {e : TypeId} {v : Value} {n n' : Nat} {xs xs' : List Value} (h : w.ownsRow base e 1 v n xs) (hn : n = n') (hx : xs = xs') : w.ownsRow base e 1 v n' xs' := by subst hn; subst hx; exact h
/-- A new struct of two cells, seen behind what else grew. -/
theorem two_cells {w w' : World} {a b : Value} {t : TypeId} {o : Obj} {row : Option Nat} (hg : ((w.alloc (.cells #[a, b] t)).alloc o).grownBy w' row) (hr : ∀ g, row = some g → g < w.heap.size) : w'.cell? ⟨w.heap.size, 0, none⟩ = some a ∧ w'.cell? ⟨w.heap.size, 1, none⟩ = some b := by
  have h := heap_alloc_new w (.cells #[a, b] t)
  have h2 : ((w.alloc (.cells #[a, b] t)).alloc o).heap[w.heap.size]? = some (.cells #[a, b] t) := by rw [Below.heap_alloc _ _ _ (by simp)]; exact h
  have h3 := (hg.block w.heap.size (by simp; omega) (fun e => by have := hr _ e.symm; omega)).trans h2
  exact ⟨by rw [cell_of_row w' _ 0 _ _ (0, 0) h3]; rfl, by rw [cell_of_row w' _ 1 _ _ (0, 0) h3]; rfl⟩
end Go.Proofs.Ytnjcmlmgjoaeeaa

namespace Go.Proofs.Ytnjcmlmgjoaeeaa
open Go.RowKit

/-- What has grown by new rows and by the cursor's alone. -/
theorem grown_tb {a b c : World} {tb : Nat} {row : Option Nat} (h : a.grownBy b (some tb)) (hg : b.grownBy c row) (hge : ∀ g, row = some g → a.heap.size ≤ g) : a.grownBy c (some tb) :=
  ⟨hg.os.trans h.os, hg.tape.trans h.tape, hg.output.trans h.output, Nat.le_trans h.size hg.size, fun k hk hr => (hg.block k (Nat.lt_of_lt_of_le hk h.size) (fun e => by have := hge k e.symm; omega)).trans (h.block k hk hr)⟩
theorem bytes_push {bs : List Int} {y : Int} (h : ∀ x ∈ bs, 0 ≤ x ∧ x ≤ 255) (hy : 0 ≤ y ∧ y ≤ 255) : ∀ x ∈ bs ++ [y], 0 ≤ x ∧ x ≤ 255 := by
  intro x hx
  rcases List.mem_append.1 hx with h1 | h1
  · exact h x h1
  · simp at h1; subst h1; exact hy
theorem rd_sub {w : World} {ao : Option Addr} {n : Nat} {zs : List Int} (h : Rd .u8 w ao n zs) (k m : Nat) (hk : k + m ≤ n) (b off : Nat) (he : ao = some ⟨b, off, none⟩) : Rd .u8 w (some ⟨b, off + k, none⟩) m ((zs.drop k).take m) := by
  subst he
  refine ⟨by have := h.1; simp; omega, fun i hi => ?_⟩
  obtain ⟨b', off', e, hc⟩ := h.2 (k + i) (by omega)
  simp only [Option.some.injEq, Addr.mk.injEq] at e
  have ea := e.1
  have eb := e.2.1
  subst ea; subst eb
  refine ⟨b, off + k, rfl, ?_⟩
  rw [Nat.add_assoc, hc]
  have e1 : ((zs.drop k).take m).getD i 0 = zs.getD (k + i) 0 := by
    rw [List.getD_eq_getElem?_getD, List.getElem?_take, if_pos hi, List.getElem?_drop, ← List.getD_eq_getElem?_getD]
  rw [e1]
theorem rd_tail {w : World} {ao : Option Addr} {n : Nat} {zs : List Int} (h : Rd .u8 w ao n zs) (k : Nat) (hk : k ≤ n) (b off : Nat) (he : ao = some ⟨b, off, none⟩) : Rd .u8 w (some ⟨b, off + k, none⟩) (n - k) (zs.drop k) := by
  have h1 := rd_sub h k (n - k) (by omega) b off he
  rwa [List.take_of_length_le (by have := h.1; simp; omega)] at h1
theorem Rd.aside {k : IntKind} {w w' : World} {ao : Option Addr} {n : Nat} {zs : List Int} {row : Option Nat} (h : Rd k w ao n zs) (hg : w.grownBy w' row) (hne : 0 < n → ∀ b off, ao = some ⟨b, off, none⟩ → ∀ g, row = some g → b ≠ g) : Rd k w' ao n zs := by
  cases row with
  | none => exact h.grown hg
  | some g => exact h.beside hg (fun hn b off e => hne hn b off e g rfl)
theorem bytes_app {xs ys : List Int} (h : ∀ x ∈ xs, 0 ≤ x ∧ x ≤ 255) (h' : ∀ x ∈ ys, 0 ≤ x ∧ x ≤ 255) : ∀ x ∈ xs ++ ys, 0 ≤ x ∧ x ≤ 255 := by
  intro x hx
  rcases List.mem_append.1 hx with h1 | h1
  · exact h x h1
  · exact h' x h1
theorem rd_front {w : World} {ao : Option Addr} {n : Nat} {zs : List Int} (h : Rd .u8 w ao n zs) (k : Nat) (hk : k ≤ n) : Rd .u8 w ao k (zs.take k) := by
  refine ⟨by have := h.1; simp; omega, fun i hi => ?_⟩
  obtain ⟨b, off, e, hc⟩ := h.2 i (by omega)
  refine ⟨b, off, e, ?_⟩
  rw [hc]
  have e1 : (zs.take k).getD i 0 = zs.getD i 0 := by
    rw [List.getD_eq_getElem?_getD, List.getElem?_take, if_pos hi, ← List.getD_eq_getElem?_getD]
  rw [e1]

end Go.Proofs.Ytnjcmlmgjoaeeaa

namespace Go.Proofs.Ytnjcmlmgjoaeeaa
open Go.RowKit

theorem frameCells5 {w : World} {g : Nat} {a b c d v : Value} {t : TypeId} (hb : w.heap[g]? = some (.cells #[a, b, c, d, v] t (0, 0))) :
    w.cell? ⟨g, 0, none⟩ = some a ∧ w.cell? ⟨g, 1, none⟩ = some b ∧ w.cell? ⟨g, 2, none⟩ = some c ∧ w.cell? ⟨g, 3, none⟩ = some d ∧ w.cell? ⟨g, 4, none⟩ = some v :=
  ⟨by rw [cell_of_row w _ 0 _ _ (0, 0) hb]; rfl, by rw [cell_of_row w _ 1 _ _ (0, 0) hb]; rfl, by rw [cell_of_row w _ 2 _ _ (0, 0) hb]; rfl, by rw [cell_of_row w _ 3 _ _ (0, 0) hb]; rfl, by rw [cell_of_row w _ 4 _ _ (0, 0) hb]; rfl⟩

def compBs (C : Nat → Nat → Int) : Nat → List Int
  | 0 => []
  | k + 1 => compBs C k ++ [C k 0, 16 * C k 1 + C k 2, C k 3]
def frameBs (p wd ht rs : Int) (n : Nat) (C : Nat → Nat → Int) (k : Nat) : List Int := [p, wd - 1, ht - 1, rs, (n : Int)] ++ compBs C k
def writeF (p wd ht rs : Int) (n : Nat) (C : Nat → Nat → Int) : List Int := if frameB p wd ht rs n C = true then frameBs p wd ht rs n C n else []
theorem compBs_len (C : Nat → Nat → Int) : ∀ k, (compBs C k).length = 3 * k
  | 0 => rfl
  | k + 1 => by simp only [compBs, List.length_append, compBs_len C k, List.length_cons, List.length_nil]; omega
theorem frameBs_len (p wd ht rs : Int) (n : Nat) (C : Nat → Nat → Int) (k : Nat) : (frameBs p wd ht rs n C k).length = 5 + 3 * k := by
  simp only [frameBs, List.length_append, compBs_len, List.length_cons, List.length_nil]
theorem frameBs_succ (p wd ht rs : Int) (n : Nat) (C : Nat → Nat → Int) (k : Nat) : frameBs p wd ht rs n C (k + 1) = frameBs p wd ht rs n C k ++ [C k 0, 16 * C k 1 + C k 2, C k 3] := by
  simp only [frameBs, compBs, List.append_assoc]
theorem compBs_congr {C D : Nat → Nat → Int} : ∀ k, (∀ i, i < k → C i = D i) → compBs C k = compBs D k
  | 0, _ => rfl
  | k + 1, h => by simp only [compBs]; rw [compBs_congr k (fun i hi => h i (by omega)), h k (by omega)]
theorem frameBs_congr {C D : Nat → Nat → Int} {p wd ht rs : Int} {n : Nat} (h : ∀ i, i < n → C i = D i) : frameBs p wd ht rs n C n = frameBs p wd ht rs n D n := by
  simp only [frameBs]; rw [compBs_congr n h]
theorem frameB_facts {p wd ht rs : Int} {n : Nat} {C : Nat → Nat → Int} (h : frameB p wd ht rs n C = true) : ((p = 8 ∨ p = 12) ∧ (1 ≤ wd ∧ wd ≤ 256) ∧ (1 ≤ ht ∧ ht ≤ 256) ∧ wd * ht ≤ 16384 ∧ 0 ≤ rs ∧ rs ≤ 255) ∧ (1 ≤ n ∧ n ≤ 4) ∧ ∀ k, k < n → compB (C k) = true := by
  rw [frameB, Bool.and_eq_true, compsB, Bool.and_eq_true, Bool.and_eq_true] at h
  obtain ⟨h1, h2, h3, _⟩ := h
  have h2' := of_decide_eq_true h2
  refine ⟨headB_facts h1, by omega, fun k hk => ?_⟩
  have := okTo_true h3 (k + 1) hk
  rw [okTo, Bool.and_eq_true, Bool.and_eq_true] at this
  exact this.2.1

end Go.Proofs.Ytnjcmlmgjoaeeaa

namespace Go.Proofs.Ytnjcmlmgjoaeeaa
open Go.RowKit

/-- The first cells of a frame, where it lies. -/
theorem fx_heads {X : Array Value} {p wd ht rs n : Int} {C : Nat → Nat → Int} (hX : Fx X p wd ht rs n C) {w : World} {g : Nat} {t : TypeId} (hb : w.heap[g]? = some (.cells X t (0, 0))) :
    w.cell? ⟨g, 0, none⟩ = some (.int .i64 p) ∧ w.cell? ⟨g, 1, none⟩ = some (.int .i64 wd) ∧ w.cell? ⟨g, 2, none⟩ = some (.int .i64 ht) ∧ w.cell? ⟨g, 3, none⟩ = some (.int .i64 rs) ∧ w.cell? ⟨g, 4, none⟩ = some (.int .i64 n) :=
  ⟨by rw [cell_of_row w _ 0 _ _ (0, 0) hb]; exact hX.c0, by rw [cell_of_row w _ 1 _ _ (0, 0) hb]; exact hX.c1, by rw [cell_of_row w _ 2 _ _ (0, 0) hb]; exact hX.c2, by rw [cell_of_row w _ 3 _ _ (0, 0) hb]; exact hX.c3, by rw [cell_of_row w _ 4 _ _ (0, 0) hb]; exact hX.c4⟩

theorem fz_one : (#[.int .i64 0, .int .i64 0, .int .i64 0, .int .i64 0, .int .i64 0, .int .i64 0, .int .i64 0, .int .i64 0, .int .i64 0, .int .i64 0, .int .i64 0, .int .i64 0, .int .i64 0, .int .i64 0, .int .i64 0, .int .i64 0, .int .i64 0, .int .i64 0, .int .i64 0, .int .i64 0, .int .i64 0] : Array Value).all (·.oneCell') = true := by decide +kernel

end Go.Proofs.Ytnjcmlmgjoaeeaa

namespace Go.Proofs.Ytnjcmlmgjoaeeaa
open Go.RowKit

/-- The components that stand in bytes. -/
def compOf (zs : List Int) : Nat → Nat → Int := fun i j => if j = 0 then zs.getD (5 + 3 * i) 0 else if j = 1 then zs.getD (5 + 3 * i + 1) 0 / 16 else if j = 2 then zs.getD (5 + 3 * i + 1) 0 % 16 else zs.getD (5 + 3 * i + 2) 0
def readOk (zs : List Int) : Bool := decide (5 ≤ zs.length ∧ (zs.length : Int) = 5 + 3 * zs.getD 4 0) && frameB (zs.getD 0 0) (zs.getD 1 0 + 1) (zs.getD 2 0 + 1) (zs.getD 3 0) (zs.getD 4 0).toNat (compOf zs)
def readF (zs : List Int) : Bool × Int × Int × Int × Int × Nat := if readOk zs = true then (true, zs.getD 0 0, zs.getD 1 0 + 1, zs.getD 2 0 + 1, zs.getD 3 0, (zs.getD 4 0).toNat) else (false, 0, 0, 0, 0, 0)

theorem wp_store_row {P : Program} {op : Oper} {a : Act} {w : World} {K : Act → World → Prop} {Q : Exit → Act → World → Prop} (ty : TypeId) (x y : Operand) (ho : op.op = .store ty x y)
    (b : Nat) (hx : a.eval x = .pointer (some ⟨b, 0, none⟩)) (X : Array Value) (hy : a.eval y = .agg X) (Y : Array Value) (t : TypeId) (hb : w.heap[b]? = some (.cells Y t (0, 0))) (hYX : Y.size = X.size)
    (hi : (P.info? ty).map (·.size) = some X.size) (h1 : X.all (·.oneCell') = true)
    (h : ∀ w', w'.heap[b]? = some (.cells X t (0, 0)) → w.grownBy w' (some b) → K (a.put op.dst undef) w') : op.wp P a w K Q := by
  unfold Oper.wp execOp
  simp only [ho, hx, hy, Instr.storeAt, Instr.sureAddr, Sem.run_bind, Sem.run_pure, Result.andThen_ok, run_storeVar_row w b t ty Y X hb hi hYX h1]
  exact h _ (setRow_heap w b Y X t _ hb) (grown_setRow w b X)

/-- A frame with no components yet. -/
theorem fx_new (p wd ht rs n : Int) : Fx #[.int .i64 p, .int .i64 wd, .int .i64 ht, .int .i64 rs, .int .i64 n, .int .i64 0, .int .i64 0, .int .i64 0, .int .i64 0, .int .i64 0, .int .i64 0, .int .i64 0, .int .i64 0, .int .i64 0, .int .i64 0, .int .i64 0, .int .i64 0, .int .i64 0, .int .i64 0, .int .i64 0, .int .i64 0] p wd ht rs n (fun _ _ => 0) := by
  refine ⟨rfl, rfl, rfl, rfl, rfl, rfl, fun i j hi hj => ?_⟩
  have h1 : i = 0 ∨ i = 1 ∨ i = 2 ∨ i = 3 := by omega
  have h2 : j = 0 ∨ j = 1 ∨ j = 2 ∨ j = 3 := by omega
  rcases h1 with rfl | rfl | rfl | rfl <;> rcases h2 with rfl | rfl | rfl | rfl <;> rfl

theorem wpList_store_part {P : Program} {ops : Array Oper} {rest : List Oper} {op : Oper} {a : Act} {w : World} {Q : Exit → Act → World → Prop} (hw : Region.wanted op (yielded ops a.tmps) = true) (ty : TypeId) (x y : Operand) (ho : op.op = .store ty x y)
    (b o : Nat) (hx : a.eval x = .pointer (some ⟨b, o, none⟩)) (cells : Array Value) (hy : a.eval y = .agg cells) (X : Array Value) (t : TypeId) (hb : w.heap[b]? = some (.cells X t (0, 0))) (hfit : o + cells.size ≤ X.size)
    (hi : (P.info? ty).map (·.size) = some cells.size) (h1 : cells.all (·.oneCell') = true)
    (h : ∀ w', Hid (w'.heap[b]? = some (.cells (X.toList.take o ++ cells.toList ++ X.toList.drop (o + cells.toList.length)).toArray t (0, 0))) → w.grownBy w' (some b) → wpList P ops Q rest (a.put op.dst undef) w') : wpList P ops Q (op :: rest) a w :=
  BigFrame.wpList_want hw fun K hK => by
    have hst := run_storeCells_at P b o t cells.toList 0 X w hb (by simpa using hfit) (fun v hv => (Array.all_eq_true_iff_forall_mem.1 h1) v (by simpa using hv))
    rw [Nat.add_zero] at hst
    have hrun : (storeVar ty ⟨b, o, none⟩ (.agg cells)).run P w = .ok () (w.setRow b (X.toList.take o ++ cells.toList ++ X.toList.drop (o + cells.toList.length)).toArray) := by
      cases hq : P.info? ty with
      | none => simp [hq] at hi
      | some i =>
        have hs : cells.size = i.size := by simp [hq] at hi; omega
        have hst' : (storeCells ⟨b, o, none⟩ cells.toList 0).run P w = .ok () (w.setRow b (X.toList.take o ++ cells.toList ++ X.toList.drop (o + cells.toList.length)).toArray) := hst
        simp only [storeVar, sizeOf, typeInfo, Value.cells, Sem.run_bind, Sem.run_pure, hs]
        simp [hq, hs] at hst' ⊢
        exact hst'
    unfold Oper.wp execOp
    simp only [ho, hx, hy, Instr.storeAt, Instr.sureAddr, Sem.run_bind, Sem.run_pure, Result.andThen_ok, hrun]
    exact hK _ _ (h _ (setRow_heap w b X _ t _ hb) (grown_setRow w b _))

theorem all_four (a b c d : Int) : (#[.int .i64 a, .int .i64 b, .int .i64 c, .int .i64 d] : Array Value).all (·.oneCell') = true := by
  rw [Array.all_eq_true_iff_forall_mem]
  intro v hv
  simp at hv
  rcases hv with rfl | rfl | rfl | rfl <;> rfl

theorem Fx.congr {X : Array Value} {p wd ht rs n : Int} {D E : Nat → Nat → Int} (h : Fx X p wd ht rs n D) (he : ∀ i j, D i j = E i j) : Fx X p wd ht rs n E := by
  have e : D = E := by funext i j; exact he i j
  rw [← e]; exact h

/-- One component put. -/
theorem fx_put {X : Array Value} {p wd ht rs n : Int} {D : Nat → Nat → Int} (h : Fx X p wd ht rs n D) (k : Nat) (hk : k < 4) (c0 c1 c2 c3 : Int) :
    Fx (X.toList.take (5 + k * 4) ++ (#[.int .i64 c0, .int .i64 c1, .int .i64 c2, .int .i64 c3] : Array Value).toList ++ X.toList.drop (5 + k * 4 + (#[.int .i64 c0, .int .i64 c1, .int .i64 c2, .int .i64 c3] : Array Value).toList.length)).toArray p wd ht rs n (fun i j => if i = k then (if j = 0 then c0 else if j = 1 then c1 else if j = 2 then c2 else c3) else D i j) := by
  have hs := h.size
  have hl : (X.toList.take (5 + k * 4)).length = 5 + k * 4 := by simp; omega
  have hlc : (#[.int .i64 c0, .int .i64 c1, .int .i64 c2, .int .i64 c3] : Array Value).toList.length = 4 := rfl
  rw [hlc]
  have low : ∀ q, q < 5 + k * 4 → (X.toList.take (5 + k * 4) ++ (#[.int .i64 c0, .int .i64 c1, .int .i64 c2, .int .i64 c3] : Array Value).toList ++ X.toList.drop (5 + k * 4 + 4)).toArray[q]? = X[q]? := by
    intro q hq
    rw [List.getElem?_toArray, List.append_assoc, List.getElem?_append_left (by omega), List.getElem?_take, if_pos hq]
    simp
  refine ⟨by simp; omega, (low 0 (by omega)).trans h.c0, (low 1 (by omega)).trans h.c1, (low 2 (by omega)).trans h.c2, (low 3 (by omega)).trans h.c3, (low 4 (by omega)).trans h.c4, fun i j hi hj => ?_⟩
  by_cases hik : i < k
  · rw [low _ (by omega), if_neg (by omega)]
    exact h.comp i j hi hj
  · rw [List.getElem?_toArray]
    by_cases e : i = k
    · subst e
      rw [if_pos rfl, List.getElem?_append_left (by rw [List.length_append, hl, hlc]; omega), List.getElem?_append_right (by omega), hl, show 5 + i * 4 + j - (5 + i * 4) = j by omega]
      have hj4 : j = 0 ∨ j = 1 ∨ j = 2 ∨ j = 3 := by omega
      rcases hj4 with rfl | rfl | rfl | rfl <;> rfl
    · rw [if_neg e, List.getElem?_append_right (by rw [List.length_append, hl, hlc]; omega), List.length_append, hl, hlc, List.getElem?_drop, show 5 + k * 4 + 4 + (5 + i * 4 + j - (5 + k * 4 + 4)) = 5 + i * 4 + j by omega]
      have := h.comp i j hi hj
      simpa using this

end Go.Proofs.Ytnjcmlmgjoaeeaa
