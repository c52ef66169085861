/-
  Items told in the program.
-/
import Derived.Test.YtmomfopbdpgcgabRunImpl2
namespace Go.Proofs.Ytmomfopbdpgcgab
open Go.RowKit

/-- What is appended may have another slice's type than what it is appended to. -/
theorem append_two {P : Program} {t u ty e e' : TypeId} {so : Option Addr} {n sc : Nat} {x : Value} {w : World} (ht : P.underlying t = some (.slice e)) (hu : P.underlying u = some (.slice e')) (i : TypeInfo) (hi : P.info? e = some i) :
    (Builtin.append_ #[t, u] ty #[.slice so n sc, x]).run P w = (Builtin.append_ #[t, t] ty #[.slice so n sc, x]).run P w := by
  simp [Builtin.append_, run_underlying ht, run_underlying hu, sizeOf, typeInfo, hi]

theorem wpList_append_two {P : Program} {w : World} {ops : Array Oper} {rest : List Oper} {o : Oper} {a : Act} {Q : Exit → Act → World → Prop} (hgd : o.guard = none) (s x : Operand) (t u : TypeId)
    (ho : o.op = .call { callee := .builtin .append, args := #[s, x], argTypes := #[t, u] }) (e' : TypeId) (hu : P.underlying u = some (.slice e'))
    (base : Nat) (e : TypeId) (i : TypeInfo) (z : Value) (size bytes : Nat) (ht : P.underlying t = some (.slice e)) (hi : P.info? e = some i) (hz : i.zero = some z)
    (hsize : i.size = size) (hby : i.bytes = bytes) (hzs : z.cells.size = size) (hsz : 0 < size)
    (so : Option Addr) (sc n : Nat) (xs : List Value) (hs : a.eval s = .slice so n sc) (hown : w.ownsRow base e size (.slice so n sc) n xs)
    (ad : Addr) (m c : Nat) (news : List Value) (hx : a.eval x = .slice (some ad) m c) (hl : news.length = m * size) (hnews : ∀ j u, news[j]? = some u → w.cell? (ad.add j) = some u) (h1 : ∀ u ∈ news, u.oneCell' = true)
    (h63 : n + m ≤ maxLen) (hbytes : (n + m) * bytes ≤ 140737488355328) (hbase : base ≤ w.heap.size)
    (h : ∀ v' w', w'.ownsRow base e size v' (n + m) (xs ++ news) → w.grownBy w' (Value.slice so n sc).ownBlock → (v'.ownBlock = (Value.slice so n sc).ownBlock ∨ v'.ownBlock = some w.heap.size) → wpList P ops Q rest (a.put o.dst v') w') :
    wpList P ops Q (o :: rest) a w := by
  refine wpList_plain hgd fun K hK => ?_
  obtain ⟨v', w', hr, h2, h3, _, h5⟩ := run_append_own_at (P := P) w base t o.type e i z size bytes ht hi hz hsize hby hzs hsz (.slice so n sc) n xs hown ad m c news hl hnews h1 h63 hbytes hbase
  rw [← append_two ht hu i hi] at hr
  unfold Oper.wp execOp
  simp only [ho, resolve, invoke, builtin, Sem.run_bind, Sem.run_pure, Result.andThen_ok, List.map_toArray, List.map_cons, List.map_nil, hs, hx, hr]
  exact hK _ _ (h v' w' h2 h3 h5)

/-- A list of items of one's own, told in a box. -/
structure Told (B : World) (pb : Nat) (w : World) (v : Value) (X : List It) : Prop where
  own : w.ownsRow B.heap.size 36 3 v X.length (itCells X)
  box : w.heap[pb]? = some (.cells #[v] 44 (0, 0))
  ne : v.ownBlock ≠ some pb
  grown : B.grownBy w none
  base : B.heap.size ≤ pb
theorem Told.more {B w w' : World} {pb : Nat} {v : Value} {X : List It} (h : Told B pb w v X) (g : w.grownBy w' none) : Told B pb w' v X :=
  ⟨own_grown h.own g, grown_atI g h.box, h.ne, grown_trans h.grown g, h.base⟩

theorem rdT_cells {w : World} {b off : Nat} {I : List It} (h : RdT w (some ⟨b, off, none⟩) I.length I) : ∀ j u, (itCells I)[j]? = some u → w.cell? ((⟨b, off, none⟩ : Addr).add j) = some u := by
  intro j u hu
  have hj : j < I.length * 3 := by rw [← itCells_len]; exact (List.getElem?_eq_some_iff.1 hu).1
  have hi : j / 3 < I.length := by omega
  obtain ⟨b', off', e, c0, c1, c2⟩ := h.2 (j / 3) hi
  simp only [Option.some.injEq, Addr.mk.injEq, and_true] at e
  obtain ⟨rfl, rfl⟩ := e
  obtain ⟨a0, a1, a2⟩ := itCells_at I (j / 3) hi
  have eg : I.getD (j / 3) (0, 0, 0) = I[j / 3] := by simp [hi]
  rw [eg] at c0 c1 c2
  rw [Addr.add_lit]
  have h3 : j = j / 3 * 3 ∨ j = j / 3 * 3 + 1 ∨ j = j / 3 * 3 + 2 := by omega
  rcases h3 with h3 | h3 | h3
  · rw [h3, a0] at hu
    rw [h3, c0, hu]
  · rw [h3, a1] at hu
    rw [h3, ← Nat.add_assoc, c1, hu]
  · rw [h3, a2] at hu
    rw [h3, ← Nat.add_assoc, c2, hu]

set_option maxHeartbeats 1600000 in
theorem implTell (B : World) (pb : Nat) (v : Value) (X : List It) (b off ic : Nat) (I : List It) (w : World) (ht : Told B pb w v X) (hr : RdT w (some ⟨b, off, none⟩) I.length I) (hb : X.length + I.length ≤ 1000) :
    Calls Try.prog 26 #[.pointer (some ⟨pb, 0, none⟩), .slice (some ⟨b, off, none⟩) I.length ic] w fun e w' => e = .returned (.tuple #[]) ∧ ∃ v', Told B pb w' v' (X ++ I) := by
  obtain ⟨i0, hi, hz0, hz1, hz2⟩ := info_parts info_item
  obtain ⟨so, sc, rfl⟩ := own_form ht.own
  have HT := hide ht
  have HR := hide hr
  have c0 : w.cell? ⟨pb, 0, none⟩ = some (.slice so X.length sc) := by rw [cell_of_row w pb 0 _ _ (0, 0) ht.box]; rfl
  clear ht hr
  go_enter Try.func26, Try.ntmps26
  go_wp2_with (at_builtin; refine wpList_append_two rfl _ _ 44 27 rfl 36 Try.underlying27 B.heap.size 36 i0 _ 3 24 Try.underlying44 hi hz0 hz1 hz2 rfl (by decide) so sc X.length (itCells X) rfl (unhide HT).own ⟨b, off, none⟩ I.length ic (itCells I) rfl (itCells_len I) (rdT_cells (unhide HR)) (itCells_one I) (by unfold maxLen; omega) (by omega) (unhide HT).grown.size ?_)
  intro v' w1 ho1 hg1 hat
  obtain ⟨so1, sc1, rfl⟩ := own_form ho1
  have hlt := (Array.getElem?_eq_some_iff.1 (unhide HT).box).1
  have hbx : w1.heap[pb]? = some (.cells #[.slice so X.length sc] 44 (0, 0)) := (hg1.block pb hlt (fun e => (unhide HT).ne e.symm)).trans (unhide HT).box
  have c1 : w1.cell? ⟨pb, 0, none⟩ = some (.slice so X.length sc) := by rw [cell_of_row w1 pb 0 _ _ (0, 0) hbx]; rfl
  have c2 : w1.frozen? ⟨pb, 0, none⟩ = false := frozen_of_row w1 pb 0 _ _ hbx
  have HN : Hid ((Value.slice so1 (X.length + I.length) sc1).ownBlock ≠ some pb) := by
    rcases hat with h | h
    · unfold Hid; rw [h]; exact (unhide HT).ne
    · unfold Hid; rw [h]; intro e; have := Option.some.inj e; omega
  have HG1 : Hid (B.grownBy w1 none) := grown_new (unhide HT).grown hg1 (fun g e => ((unhide HT).own.lt g e).1)
  have HO1 := hide ho1
  have HBX := hide hbx
  clear ho1 hg1 hat hbx c0
  have HF : Hid (Told B pb (w1.setCell ⟨pb, 0, none⟩ (.slice so1 (X.length + I.length) sc1)) (.slice so1 (X.length + I.length) sc1) (X ++ I)) := by
    refine ⟨?_, ?_, unhide HN, grown_new (unhide HG1) (grown_set w1 pb 0 _) (fun g e => by simp at e; have := (unhide HT).base; omega), (unhide HT).base⟩
    · rw [itCells_app, List.length_append]
      exact own_beneath (unhide HO1) (grown_set w1 pb 0 _) (fun g g' h h' => by simp at h'; subst h'; intro e; exact unhide HN (e ▸ h))
    · exact heap_setCell_same w1 pb 0 _ _ _ (unhide HBX)
  clear HO1 HBX HN HG1
  go_wp2
  exact bodyPost_end (v := .tuple #[]) (by simp [results, Try.results26, go_sem]) rfl ⟨rfl, _, unhide HF⟩

theorem implItemOf (r x c v : Int) (HC : Hid (classI x = c)) (HV : Hid (bitsI x = v)) (w : World) :
    Calls Try.prog 28 #[.int .i64 r, .int .i64 x] w fun e w' => e = .returned (.agg #[.int .i64 r, .int .i64 c, .int .i64 v]) ∧ w.grownBy w' none := by
  go_enter Try.func28, Try.ntmps28
  go_wp2_with fail
  refine (implClass7 x c HC _).mono ?_
  rintro e w1 ⟨rfl, rfl⟩
  go_wp2_with fail
  refine (implBits7 x v HV _).mono ?_
  rintro e w2 ⟨rfl, rfl⟩
  go_wp2
  refine bodyPost_ret (v := .agg #[.int .i64 r, .int .i64 c, .int .i64 v]) (by simp [results, Try.results28, go_sem]) rfl ⟨rfl, ?_⟩
  exact grown_alloc (World.grownBy.refl _ _) _

end Go.Proofs.Ytmomfopbdpgcgab
