/-
  SameScan, SameDeep0, LawAid, AnyTake, LawScripts, Ints, TabKit, MapSq, TabImpl, GeoHas, GeoHasC, PassImpl.
-/
import Derived.Test.YtnjcmlmgjoaeeaaRows
import Derived.Deep.QuietTactic
import Derived.BigQuiet
import Derived.Deep.WholeRow
import Derived.Deep.MidRow
import Derived.ChangeKeysEq
import Derived.Laws.ResultCell
import Derived.Maps.AppendAt
import Derived.Maps.RangeWalk
import Derived.Test.YtnjcmlmgjoaeeaaMVh

namespace Go.Proofs.Ytnjcmlmgjoaeeaa
open Go.RowKit

theorem sameIntsN : EqC 50 (RdI .i64) lenI := by
  rintro w u u' a ⟨ao, cap, rfl, hr⟩ ⟨bo, cap', rfl, hr'⟩ hs
  exact sameInts ao bo a.length cap cap' a w hr hr' (by unfold lenI at hs; omega)

set_option maxHeartbeats 1600000 in
theorem sameScanC : EqC 45 RdSc szSc := by
  intro w u u' a hq hq' hs
  obtain ⟨v, rfl, hv⟩ := hq
  obtain ⟨v', rfl, hv'⟩ := hq'
  obtain ⟨cs, fr, to, hi, lo⟩ := a
  obtain ⟨vo, vc, rfl, hr⟩ := id hv
  obtain ⟨vo', vc', rfl, hr'⟩ := id hv'
  clear hr hr'
  dsimp only at hv hv' ⊢
  obtain ⟨vn, HVN⟩ : ∃ vn, Hid (cs.length = vn) := ⟨_, rfl⟩
  rw [unhide HVN] at hv hv' ⊢
  obtain ⟨W2, HW2⟩ : ∃ W2, Hid ((w.alloc (.cells #[.slice vo vn vc, .int .i64 fr, .int .i64 to, .int .i64 hi, .int .i64 lo] 38)).alloc (.cells #[.slice vo' vn vc', .int .i64 fr, .int .i64 to, .int .i64 hi, .int .i64 lo] 38) = W2) := ⟨_, rfl⟩
  have G0 : w.grownBy W2 none := by rw [← unhide HW2]; exact grown_alloc (grown_alloc (World.grownBy.refl _ _) _) _
  have B0 : W2.heap[w.heap.size]? = some (.cells #[.slice vo vn vc, .int .i64 fr, .int .i64 to, .int .i64 hi, .int .i64 lo] 38 (0, 0)) := by
    rw [← unhide HW2]
    exact at_rowS (World.grownBy_alloc _ _ none) (heap_alloc_new w _) (by simp)
  have B1 : W2.heap[w.heap.size + 1]? = some (.cells #[.slice vo' vn vc', .int .i64 fr, .int .i64 to, .int .i64 hi, .int .i64 lo] 38 (0, 0)) := by
    rw [← unhide HW2]
    have := heap_alloc_new (w.alloc (.cells #[.slice vo vn vc, .int .i64 fr, .int .i64 to, .int .i64 hi, .int .i64 lo] 38)) (.cells #[.slice vo' vn vc', .int .i64 fr, .int .i64 to, .int .i64 hi, .int .i64 lo] 38)
    simpa using this
  have HEQ := hide (sameIntsN W2 (.slice vo vn vc) (.slice vo' vn vc') cs (RdI.st .i64 _ _ _ _ hv G0) (RdI.st .i64 _ _ _ _ hv' G0) hs)
  have HB0 := hide B0
  have HB1 := hide B1
  have HG0 := hide G0
  have n1 : (fr == fr) = true := by simp
  have n2 : (to == to) = true := by simp
  have n3 : (hi == hi) = true := by simp
  have n4 : (lo == lo) = true := by simp
  have a0 := unhide HB0
  rw [← unhide HW2] at a0 B1
  obtain ⟨c0, c1, c2, c3, c4⟩ := scanCells a0
  obtain ⟨d0, d1, d2, d3, d4⟩ := scanCells B1
  clear hv hv' hs G0 B0 B1 a0
  unfold scV
  dsimp only
  go_enter Try.func45, Try.ntmps45
  go_wp2_with fail
  rw [unhide HW2]
  clear HW2 c0 c1 c2 c3 c4 d0 d1 d2 d3 d4
  refine (unhide HEQ).mono ?_
  rintro e w3 ⟨rfl, g3⟩
  obtain ⟨c0, c1, c2, c3, c4⟩ := scanCells (at_rowS g3 (unhide HB0) (by simp))
  obtain ⟨d0, d1, d2, d3, d4⟩ := scanCells (at_rowS g3 (unhide HB1) (by simp))
  have HG3 := hide (grown_trans (unhide HG0) g3)
  clear g3 HEQ HB0 HB1 HG0
  go_wp2
  go_ret
  exact ⟨rfl, unhide HG3⟩

set_option maxRecDepth 20000 in
set_option maxHeartbeats 1600000 in
theorem sameScriptC : EqC 11 RdSs (szR szSc) := by
  intro w u u' a hq hq' hs
  obtain ⟨ao, cap, rfl, hel⟩ := hq
  obtain ⟨bo, cap', rfl, hel'⟩ := hq'
  have HEL := hide hel
  have HEM := hide hel'
  have hlen := szR_len szSc a
  have HSE := hide (fun i h => (szR_el szSc a i h).2)
  obtain ⟨n, HN⟩ : ∃ n, Hid (a.length = n) := ⟨_, rfl⟩
  have hn : n ≤ 1048576 := by have := unhide HN; omega
  have HS := hide hs
  rw [unhide HN]
  have hne : ((n : Int) != n) = false := by simp
  clear hel hel' hs hlen
  go_enter Try.func11, Try.ntmps11
  go_wp2
  go_loopw [5] (fun iv wr => ∃ i : Nat, i ≤ n ∧ iv = .int .i64 i ∧ Hid (w.grownBy wr none)) (fun iv _ => n - (intOf iv).toNat)
  case atStart => exact ⟨0, Nat.zero_le _, rfl, World.grownBy.refl _ _⟩
  case round =>
    obtain ⟨i, hin, rfl, hg⟩ := hrel
    by_cases hlt : i < n
    · have hia : i < a.length := by rw [unhide HN]; exact hlt
      obtain ⟨b, off, c, rfl, k0, k1, q0⟩ := unhide HEL i hia
      obtain ⟨b', off', c', rfl, k0', k1', q0'⟩ := unhide HEM i hia
      have d0 := rowScan (fun j hj => (unhide hg).cell (k0 j hj) (by simp)) k1
      have d1 := rowScan (fun j hj => (unhide hg).cell (k0' j hj) (by simp)) k1'
      have HD := hide (And.intro d0 d1)
      have HT : Hid (∀ W, wr.grownBy W none → Calls Try.prog 45 #[scV (c 0) a[i], scV (c' 0) a[i]] W fun e w' => e = .returned (.bool true) ∧ W.grownBy w' none) := fun W gW => sameScanC W _ _ a[i] ⟨_, rfl, RdI.st .i64 _ _ _ _ q0 (grown_trans (unhide hg) gW)⟩ ⟨_, rfl, RdI.st .i64 _ _ _ _ q0' (grown_trans (unhide hg) gW)⟩ (Nat.le_trans (unhide HSE i hia) (unhide HS))
      have hiI : (i : Int) < (n : Int) := by omega
      unfold scV at HT
      obtain ⟨vo, vc, ev, -⟩ := q0
      obtain ⟨vo', vc', ev', -⟩ := q0'
      rw [ev, ev'] at HT
      rw [ev, ev'] at HD
      generalize a[i].cs.length = vn at *
      generalize a[i].fr = fr at *
      generalize a[i].to = to at *
      generalize a[i].hi = hi at *
      generalize a[i].lo = lo at *
      clear k0 k1 k0' k1' d0 d1 ev ev'
      go_wp2
      refine wp_region_noPanic ?_
      refine wp_region_tailL 20 (fun w' => (w'.cell? ⟨b, off + i * 5, none⟩ = some (.slice vo vn vc) ∧ w'.cell? ⟨b, off + i * 5 + 1, none⟩ = some (.int .i64 fr) ∧ w'.cell? ⟨b, off + i * 5 + 2, none⟩ = some (.int .i64 to) ∧ w'.cell? ⟨b, off + i * 5 + 3, none⟩ = some (.int .i64 hi) ∧ w'.cell? ⟨b, off + i * 5 + 4, none⟩ = some (.int .i64 lo)) ∧ (w'.cell? ⟨b', off' + i * 5, none⟩ = some (.slice vo' vn vc') ∧ w'.cell? ⟨b', off' + i * 5 + 1, none⟩ = some (.int .i64 fr) ∧ w'.cell? ⟨b', off' + i * 5 + 2, none⟩ = some (.int .i64 to) ∧ w'.cell? ⟨b', off' + i * 5 + 3, none⟩ = some (.int .i64 hi) ∧ w'.cell? ⟨b', off' + i * 5 + 4, none⟩ = some (.int .i64 lo))) [true, true, true, true, true, true, true, true, false, false] (by kernel_rfl) (fun _ _ _ _ _ h => h) rfl (by decide) (by kernel_rfl) (unhide HD) ?_
      iterate 8
        refine heldF_take (v := ?_) (Or.inl ⟨by rfl, ?_⟩) ?_
        rotate_left 1
        · intro w' hSw
          try dsimp only at hSw
          obtain ⟨⟨z0, z1, z2, z3, z4⟩, y0, y1, y2, y3, y4⟩ := hSw
          go_simp
          try with_reducible rfl
        simp only [Act.put, List.setIfInBounds_toArray, List.set_cons_zero, List.set_cons_succ]
      iterate 2 refine heldF_skip ?_
      refine heldF_nil ?_
      iterate 8 refine tailL_skip ?_
      refine tailL_step (fun K hK => ?_)
      go_simp
      refine (unhide HT _ (grown_drew (World.grownBy.refl _ _))).mono ?_
      rintro e w2 ⟨rfl, g2⟩
      have g3 := grown_trans (grown_drew (World.grownBy.refl wr none)) g2
      obtain ⟨⟨z0, z1, z2, z3, z4⟩, y0, y1, y2, y3, y4⟩ := unhide HD
      have HD2 := hide (And.intro (And.intro (g3.cell z0 (by simp)) (And.intro (g3.cell z1 (by simp)) (And.intro (g3.cell z2 (by simp)) (And.intro (g3.cell z3 (by simp)) (g3.cell z4 (by simp)))))) (And.intro (g3.cell y0 (by simp)) (And.intro (g3.cell y1 (by simp)) (And.intro (g3.cell y2 (by simp)) (And.intro (g3.cell y3 (by simp)) (g3.cell y4 (by simp)))))))
      have HG3 := hide (grown_trans (unhide hg) g3)
      clear g2 g3 hg HT HD z0 z1 z2 z3 z4 y0 y1 y2 y3 y4
      go_simp
      refine hK.out _ _ (.inr (unhide HD2)) ?_
      clear hK K
      refine tailL_step (fun K hK => ?_)
      go_simp
      refine hK.out _ _ (.inl rfl) ?_
      clear hK K HD2
      refine tailL_nil (NoPanic.normal ?_)
      go_wp2
      go_roundw
      case rel => exact ⟨i + 1, by omega, by go_num, HG3⟩
      case measure => simp [intOf]; omega
    · obtain rfl : i = n := by omega
      go_wp2
      go_ret
      exact ⟨rfl, unhide hg⟩

end Go.Proofs.Ytnjcmlmgjoaeeaa

namespace Go.Proofs.Ytnjcmlmgjoaeeaa
open Go.RowKit

theorem sameIntsC : EqC 50 (RdI .i64) lenI := by
  rintro w u u' a ⟨ao, cap, rfl, hr⟩ ⟨bo, cap', rfl, hr'⟩ hs
  exact sameInts ao bo a.length cap cap' a w hr hr' (by unfold lenI at hs; omega)

set_option maxRecDepth 20000 in
set_option maxHeartbeats 1600000 in
theorem sameListsD (HE : EqC 50 (RdI .i64) lenI) (hQ : StR (RdI .i64)) : EqC 16 Rd2 (szR lenI) := by
  intro w u u' a hq hq' hs
  obtain ⟨ao, cap, rfl, hel⟩ := hq
  obtain ⟨bo, cap', rfl, hel'⟩ := hq'
  have HEL := hide hel
  have HEM := hide hel'
  have HEE := hide HE
  have hlen := szR_len (lenI) a
  have HSE := hide (fun i h => (szR_el (lenI) a i h).2)
  obtain ⟨n, HN⟩ : ∃ n, Hid (a.length = n) := ⟨_, rfl⟩
  have hn : n ≤ 1048576 := by have := unhide HN; omega
  have HS := hide hs
  rw [unhide HN]
  have hne : ((n : Int) != n) = false := by simp
  clear hel hel' HE hs hlen
  go_enter Try.func16, Try.ntmps16
  go_wp2
  go_loopw [5] (fun iv wr => ∃ i : Nat, i ≤ n ∧ iv = .int .i64 i ∧ Hid (w.grownBy wr none)) (fun iv _ => n - (intOf iv).toNat)
  case atStart => exact ⟨0, Nat.zero_le _, rfl, World.grownBy.refl _ _⟩
  case round =>
    obtain ⟨i, hin, rfl, hg⟩ := hrel
    by_cases hlt : i < n
    · have hia : i < a.length := by rw [unhide HN]; exact hlt
      obtain ⟨b, off, u, rfl, c0, q0⟩ := unhide HEL i hia
      obtain ⟨b', off', u', rfl, c0', q0'⟩ := unhide HEM i hia
      have d0 := (unhide hg).cell c0 (by simp)
      have d1 := (unhide hg).cell c0' (by simp)
      have HD := hide (And.intro d0 d1)
      have HT : Hid (∀ W, wr.grownBy W none → Calls Try.prog 50 #[u, u'] W fun e w' => e = .returned (.bool true) ∧ W.grownBy w' none) := fun W gW => unhide HEE W u u' a[i] (hQ _ _ _ _ q0 (grown_trans (unhide hg) gW)) (hQ _ _ _ _ q0' (grown_trans (unhide hg) gW)) (Nat.le_trans (unhide HSE i hia) (unhide HS))
      have hiI : (i : Int) < (n : Int) := by omega
      clear c0 q0 c0' q0'
      go_wp2
      refine wp_region_noPanic ?_
      refine wp_region_tailL 20 (fun w' => w'.cell? ⟨b, off + i, none⟩ = some u ∧ w'.cell? ⟨b', off' + i, none⟩ = some u') [true, true, true, true, true, true, true, true, false, false] (by kernel_rfl) (fun _ _ _ _ _ h => h) rfl (by decide) (by kernel_rfl) (unhide HD) ?_
      iterate 8
        refine heldF_take (v := ?_) (Or.inl ⟨by rfl, ?_⟩) ?_
        rotate_left 1
        · intro w' hSw
          try dsimp only at hSw
          obtain ⟨z0, z1⟩ := hSw
          go_simp
          try with_reducible rfl
        simp only [Act.put, List.setIfInBounds_toArray, List.set_cons_zero, List.set_cons_succ]
      iterate 2 refine heldF_skip ?_
      refine heldF_nil ?_
      iterate 8 refine tailL_skip ?_
      refine tailL_step (fun K hK => ?_)
      go_simp
      refine (unhide HT _ (grown_drew (World.grownBy.refl _ _))).mono ?_
      rintro e w2 ⟨rfl, g2⟩
      have g3 := grown_trans (grown_drew (World.grownBy.refl wr none)) g2
      have HD2 := hide (And.intro (g3.cell d0 (by simp)) (g3.cell d1 (by simp)))
      have HG3 := hide (grown_trans (unhide hg) g3)
      clear g2 g3 hg HT d0 d1 HD
      go_simp
      refine hK.out _ _ (.inr (unhide HD2)) ?_
      clear hK K
      refine tailL_step (fun K hK => ?_)
      go_simp
      refine hK.out _ _ (.inl rfl) ?_
      clear hK K HD2
      refine tailL_nil (NoPanic.normal ?_)
      go_wp2
      go_roundw
      case rel => exact ⟨i + 1, by omega, by go_num, HG3⟩
      case measure => simp [intOf]; omega
    · obtain rfl : i = n := by omega
      go_wp2
      go_ret
      exact ⟨rfl, unhide hg⟩

theorem sameListsC : EqC 16 Rd2 (szR lenI) := sameListsD sameIntsC (RdI.st .i64)

end Go.Proofs.Ytnjcmlmgjoaeeaa

namespace Go.Proofs.Ytnjcmlmgjoaeeaa
open Go.RowKit

theorem lawBig (ao : Option Addr) (n cap : Nat) (t : Bool) (w : World) (h : Hid (decide ((1048576 : Int) < (n : Int)) = t)) :
    Calls Try.prog 8 #[.slice ao n cap] w fun e w' => e = .returned (.bool t) ∧ w = w' := by
  go_enter Try.func8, Try.ntmps8
  go_wp2
  go_ret
  exact ⟨ret_bool (by rw [← unhide h]), rfl⟩

/-- What a new row of cells holds. -/
theorem cells_new (w : World) (cs : List Value) (t : TypeId) : ∀ j u, cs[j]? = some u → (w.alloc (.cells cs.toArray t)).cell? ((⟨w.heap.size, 0, none⟩ : Addr).add j) = some u := by
  intro j u h
  rw [Addr.add_lit, Nat.zero_add, cell_of_row _ w.heap.size j _ _ (0, 0) (heap_alloc_new w _)]
  simpa using h

end Go.Proofs.Ytnjcmlmgjoaeeaa

namespace Go.Proofs.Ytnjcmlmgjoaeeaa
open Go.RowKit

theorem anyH_take1 {P : Program} {md : Region.Mode} {Q : Exit → Act → World → Prop} {S : World → Prop} {l : List Oper} {i f : Nat} {o : Oper} {v : Value} {listed : Array Bool} {a : Act} {w : World} (ho : l[i]? = some o) (hB : (Region.noSelect l.toArray && Region.free md l.toArray listed i && (Region.ready md l.toArray listed).contains i) = true)
    (hQ : ∀ c a d v w, Q (.panic c) (Act.put a d v) w → Q (.panic c) a w) (hS : S w) (hy : YieldsIf P l.toArray S o v a) (h : wpAnyH P md l.toArray Q S f (listed.setIfInBounds i true) (a.put o.dst v) w) : wpAnyH P md l.toArray Q S (f + 1) listed a w := by
  rw [Bool.and_eq_true, Bool.and_eq_true] at hB
  exact wpAnyH_take (by simpa using ho) hB.1.1 hB.1.2 hB.2 (fun c a w hq => hQ c a _ _ w hq) hy hS h

end Go.Proofs.Ytnjcmlmgjoaeeaa

namespace Go.Proofs.Ytnjcmlmgjoaeeaa
open Go.RowKit

theorem rd2_cell {w : World} {uo : Option Addr} {n uc : Nat} {L : List (List Int)} (h : Rd2 w (.slice uo n uc) L) (i : Nat) (hi : i < L.length) (h64 : (L.getD i []).length = 64) (k : Nat) (hk : k < 64) : ∃ b off gi go ci, uo = some ⟨b, off, none⟩ ∧ w.cell? ⟨b, off + i, none⟩ = some (.slice (some ⟨gi, go, none⟩) 64 ci) ∧ w.cell? ⟨gi, go + k, none⟩ = some (.int .i64 (atL L i k)) := by
  obtain ⟨ao, cap, e, hr⟩ := h
  obtain ⟨e1, _, _⟩ := Value.slice.inj e
  subst e1
  obtain ⟨b, off, u, rfl, hc, ro, rc, rfl, hrd⟩ := hr i hi
  have eL : L.getD i [] = L[i] := by simp [hi]
  rw [eL] at h64
  rw [h64] at hc hrd
  obtain ⟨gi, go, rfl, hck⟩ := hrd.2 k hk
  refine ⟨b, off, gi, go, rc, rfl, hc, ?_⟩
  unfold atL
  rw [eL]
  exact hck

set_option maxRecDepth 20000 in
set_option maxHeartbeats 12800000 in
theorem lawScripts_in (HSC : ImplScript) (HOK : ImplScriptOk) (HLE : ImplLeft) (ao : Option Addr) (n cap : Nat) (zs : List Int) (w : World) (hr : Rd .u8 w ao n zs) (hb : ∀ i, 0 ≤ zs.getD i 0 ∧ zs.getD i 0 ≤ 255) (hn : n ≤ 1048576) :
    Calls Try.prog 3 #[.slice ao n cap] w fun e w' => e = .returned (.bool true) ∧ w.grownBy w' none := by
  have HR := hide hr
  have HB := hide hb
  have HC1 := hide HSC
  have HC2 := hide HOK
  have HC3 := hide HLE
  clear hr hb HSC HOK HLE
  go_enter Try.func3, Try.ntmps3
  go_wp2_with fail
  refine (lawBig ao n cap false w (by unfold Hid; simp; omega)).mono ?_
  rintro e w0 ⟨rfl, rfl⟩
  go_wp2_with fail
  refine (drawLeftOf ao n cap zs w (unhide HR) (unhide HB) hn).mono ?_
  rintro e w1 ⟨p, wd, ht, rs, fo, fn, fc, C, vo, vn, vc, X, rfl, hd⟩
  have hn5 := hd.n5
  have hvc : vn ≤ vc := hd.cap
  have hvx : vn = X.length := by obtain ⟨ao9, c9, e9, _⟩ := hd.rd; obtain ⟨-, e8, -⟩ := Value.slice.inj e9; exact e8
  have hvn : vn ≤ 1001 := by have := hd.len; omega
  have HVX := hide hvx
  have HFEW := hide hd.few
  clear hvx
  have HSZ : Hid (szR szSc X ≤ 10000) := sz_drawn hd.few hd.len
  have HD := hide hd
  have HA0 := hide (heap_alloc_new w1 (.cells #[.int .i64 0, .int .i64 0, .int .i64 0, .int .i64 0, .slice none 0 0] 26))
  have HGA : Hid (w1.grownBy (w1.alloc (.cells #[.int .i64 0, .int .i64 0, .int .i64 0, .int .i64 0, .slice none 0 0] 26)) none) := World.grownBy_alloc _ _ _
  clear hd HR HB
  go_wp2_with (refine wpList_store_row rfl 26 _ _ rfl w1.heap.size rfl #[.int .i64 p, .int .i64 wd, .int .i64 ht, .int .i64 rs, .slice fo fn fc] rfl #[.int .i64 0, .int .i64 0, .int .i64 0, .int .i64 0, .slice none 0 0] 26 (unhide HA0) rfl (by kernel_rfl) (by simp [Value.oneCell']) ?_)
  intro wa hBa ga
  have G1 : w1.grownBy wa none := grown_new (unhide HGA) ga (fun x e => by simp at e; omega)
  obtain ⟨b3, HB3⟩ : ∃ b3, Hid (w1.heap.size = b3) := ⟨_, hide rfl⟩
  rw [unhide HB3] at hBa ⊢
  have HS0 : Hid (Sl b3 p wd ht rs fo fn fc C (.slice vo vn vc) X wa) := ⟨hBa, (unhide HD).rc.grown G1, RdSs.st _ _ _ _ (unhide HD).rd G1⟩
  have HG0 := hide (grown_trans (unhide HD).grown G1)
  clear HD HA0 HGA hBa ga G1 HB3
  obtain ⟨fb, HFB⟩ : ∃ fb, Hid (frameB p wd ht rs fn C = fb) := ⟨_, hide rfl⟩
  go_wp2
  go_loopw [5] (fun kv wr => ∃ (kk : Nat), kk ≤ 3 ∧ kv = .int .i64 kk ∧ Hid (Sl b3 p wd ht rs fo fn fc C (.slice vo vn vc) X wr) ∧ Hid (w.grownBy wr none)) (fun kv _ => 3 - (intOf kv).toNat)
  case atStart => exact ⟨0, by omega, rfl, HS0, HG0⟩
  case round =>
    clear HS0 HG0
    obtain ⟨kk, hk3, rfl, hS, hG⟩ := hrel
    by_cases hlt : kk < 3
    · have hd : decide ((kk : Int) < 3) = true := decide_eq_true (by omega)
      obtain ⟨L, HL⟩ : ∃ L, Hid (scriptG fb fn (kk : Int) = L) := ⟨_, hide rfl⟩
      obtain ⟨xl, HXL⟩ : ∃ xl, Hid (L.length = xl) := ⟨_, hide rfl⟩
      have HLS : Hid (szR szSc L ≤ 1000) := by have h9 := sz_script (kind := (kk : Int)) (unhide HFB); rw [unhide HL] at h9; exact h9
      have HTL : Hid (scriptB fb fn L = fb) := by have h9 := tells_fb (unhide HFB) (kind := (kk : Int)) (by omega); rw [unhide HL] at h9; exact h9
      have HLE9 : Hid (szR szSc L ≤ 1048576) := by have := unhide HLS; unfold Hid; omega
      obtain ⟨f0, f1, f2, f3, f4⟩ := frameCells' (unhide hS).f3
      go_wp2_with fail
      clear f0 f1 f2 f3 f4
      refine (unhide HC1 p wd ht rs fo fn fc C (kk : Int) wr (unhide hS).rc (by omega) fb HFB L HL).mono ?_
      rintro e w2 ⟨u2, F, rfl, o2, nd2, l2, g2⟩
      obtain ⟨xo, xc, rfl⟩ := OwG.form o2
      rw [unhide HXL] at o2 ⊢
      have HS2 := hide ((unhide hS).new g2)
      have HG2 := hide (grown_trans (unhide hG) g2)
      have HX2 := hide o2
      have HND := hide nd2
      have HR2 := hide g2
      have HSR := hS
      have HG0R := hG
      have HLT : Hid (∀ x ∈ F, wr.heap.size ≤ x) := l2
      clear hS hG o2 nd2 l2 g2
      go_wp2
      refine wp_region_noPanic ?_
      have gd := grown_drew (World.grownBy.refl w2 none)
      have HS3 := hide ((unhide HS2).new gd)
      have HG3 := hide (grown_trans (unhide HG2) gd)
      have HX3 := hide (OwSs.ok.keep (unhide HX2) gd)
      have HR3 := hide (grown_trans (unhide HR2) gd)
      clear HS2 HG2 HX2 HR2 
      clear gd
      refine wp_region_raw (fun W => W.heap[b3]? = some (.cells #[.int .i64 p, .int .i64 wd, .int .i64 ht, .int .i64 rs, .slice fo fn fc] 26 (0, 0))) [true, true, true, false, false, false, false, false, false, false, false, false, false, false] (by kernel_rfl) (fun _ _ _ _ _ h => h) rfl (by kernel_rfl) (unhide HS3).f3 ?_
      generalize w2.drew = w3 at *
      refine heldF_take (v := ?_) (Or.inl ⟨by rfl, ?_⟩) ?_
      rotate_left 1
      · intro w' hSw
        try dsimp only at hSw
        have s1 := frameCells' hSw
        go_simp
        try with_reducible rfl
      try simp only [Act.put, List.setIfInBounds_toArray, List.set_cons_zero, List.set_cons_succ]
      refine heldF_take (v := ?_) (Or.inl ⟨by rfl, ?_⟩) ?_
      rotate_left 1
      · intro w' hSw
        try dsimp only at hSw
        have s1 := frameCells' hSw
        go_simp
        try with_reducible rfl
      try simp only [Act.put, List.setIfInBounds_toArray, List.set_cons_zero, List.set_cons_succ]
      refine heldF_take (v := ?_) (Or.inl ⟨by rfl, ?_⟩) ?_
      rotate_left 1
      · intro w' hSw
        try dsimp only at hSw
        have s1 := frameCells' hSw
        go_simp
        try with_reducible rfl
      try simp only [Act.put, List.setIfInBounds_toArray, List.set_cons_zero, List.set_cons_succ]
      refine heldF_skip ?_
      refine heldF_skip ?_
      refine heldF_skip ?_
      refine heldF_skip ?_
      refine heldF_skip ?_
      refine heldF_skip ?_
      refine heldF_skip ?_
      refine heldF_skip ?_
      refine heldF_skip ?_
      refine heldF_skip ?_
      refine heldF_skip ?_
      refine heldF_nil ?_
      refine anyH_step1 (i := 3) rfl (by kernel_rfl) (fun K hK => ?_)
      go_simp
      refine (specScriptFor p wd ht rs fo fn fc C w3 (unhide HS3).rc (kk : Int) fb HFB L HL).mono ?_
      rintro e w4 ⟨u4, F4, rfl, o4, -, -, g4⟩
      obtain ⟨yo, yc, rfl⟩ := OwG.form o4
      have HY4 := hide (OwSs.rd o4)
      have HS4 := hide ((unhide HS3).new g4)
      have HG4 := hide (grown_trans (unhide HG3) g4)
      have HX4 := hide (OwSs.ok.keep (unhide HX3) g4)
      have HR4 := hide (grown_trans (unhide HR3) g4)
      clear HS3 HG3 HX3 HR3 
      clear o4 g4
      go_simp
      refine hK.out _ _ (unhide HS4).f3 ?_
      clear hK K
      try simp only [Act.put, List.setIfInBounds_toArray, List.set_cons_zero, List.set_cons_succ]
      refine anyH_step1 (i := 4) rfl (by kernel_rfl) (fun K hK => ?_)
      go_simp
      refine (sameScriptC w4 _ _ L (by have h9 := OwSs.rd (unhide HX4); exact h9) (by have h9 := unhide HY4; first | exact h9 | (rw [unhide HXL] at h9; exact h9)) (unhide HLE9)).mono ?_
      rintro e w5 ⟨rfl, g5⟩
      have HS5 := hide ((unhide HS4).new g5)
      have HG5 := hide (grown_trans (unhide HG4) g5)
      have HX5 := hide (OwSs.ok.keep (unhide HX4) g5)
      have HR5 := hide (grown_trans (unhide HR4) g5)
      clear HS4 HG4 HX4 HR4 
      clear g5 HY4
      go_simp
      refine hK.out _ _ (unhide HS5).f3 ?_
      clear hK K
      try simp only [Act.put, List.setIfInBounds_toArray, List.set_cons_zero, List.set_cons_succ]
      refine anyH_step1 (i := 5) rfl (by kernel_rfl) (fun K hK => ?_)
      go_simp
      refine hK.out _ _ (unhide HS5).f3 ?_
      clear hK K
      try simp only [Act.put, List.setIfInBounds_toArray, List.set_cons_zero, List.set_cons_succ]
      refine anyH_step1 (i := 6) rfl (by kernel_rfl) (fun K hK => ?_)
      go_simp
      refine hK.out _ _ (unhide HS5).f3 ?_
      clear hK K
      try simp only [Act.put, List.setIfInBounds_toArray, List.set_cons_zero, List.set_cons_succ]
      refine anyH_take1 (i := 7) (v := ?_) rfl (by kernel_rfl) (fun _ _ _ _ _ h => h) (unhide HS5).f3 (Or.inl ⟨by rfl, ?_⟩) ?_
      rotate_left 1
      · intro w' hSw
        try dsimp only at hSw
        have s1 := frameCells' hSw
        go_simp
        try with_reducible rfl
      try simp only [Act.put, List.setIfInBounds_toArray, List.set_cons_zero, List.set_cons_succ]
      refine anyH_take1 (i := 9) (v := ?_) rfl (by kernel_rfl) (fun _ _ _ _ _ h => h) (unhide HS5).f3 (Or.inl ⟨by rfl, ?_⟩) ?_
      rotate_left 1
      · intro w' hSw
        try dsimp only at hSw
        have s1 := frameCells' hSw
        go_simp
        try with_reducible rfl
      try simp only [Act.put, List.setIfInBounds_toArray, List.set_cons_zero, List.set_cons_succ]
      refine anyH_take1 (i := 10) (v := ?_) rfl (by kernel_rfl) (fun _ _ _ _ _ h => h) (unhide HS5).f3 (Or.inl ⟨by rfl, ?_⟩) ?_
      rotate_left 1
      · intro w' hSw
        try dsimp only at hSw
        have s1 := frameCells' hSw
        go_simp
        try with_reducible rfl
      try simp only [Act.put, List.setIfInBounds_toArray, List.set_cons_zero, List.set_cons_succ]
      refine anyH_step1 (i := 8) rfl (by kernel_rfl) (fun K hK => ?_)
      go_simp
      refine (specFrameOk p wd ht rs fo fn fc C w5 (unhide HS5).rc fb HFB).mono ?_
      rintro e w6 ⟨rfl, g6⟩
      have HS6 := hide ((unhide HS5).new g6)
      have HG6 := hide (grown_trans (unhide HG5) g6)
      have HX6 := hide (OwSs.ok.keep (unhide HX5) g6)
      have HR6 := hide (grown_trans (unhide HR5) g6)
      clear HS5 HG5 HX5 HR5 
      clear g6
      go_simp
      refine hK.out _ _ (unhide HS6).f3 ?_
      clear hK K
      try simp only [Act.put, List.setIfInBounds_toArray, List.set_cons_zero, List.set_cons_succ]
      refine anyH_step1 (i := 11) rfl (by kernel_rfl) (fun K hK => ?_)
      go_simp
      refine (unhide HC2 p wd ht rs fo fn fc C _ L w6 (unhide HS6).rc (by omega) (OwSs.rd (unhide HX6)) (unhide HLE9) fb fb HFB HTL).mono ?_
      rintro e w7 ⟨rfl, g7⟩
      have HS7 := hide ((unhide HS6).new g7)
      have HG7 := hide (grown_trans (unhide HG6) g7)
      have HX7 := hide (OwSs.ok.keep (unhide HX6) g7)
      have HR7 := hide (grown_trans (unhide HR6) g7)
      clear HS6 HG6 HX6 HR6 
      clear g7
      go_simp
      refine hK.out _ _ (unhide HS7).f3 ?_
      clear hK K
      try simp only [Act.put, List.setIfInBounds_toArray, List.set_cons_zero, List.set_cons_succ]
      have hff : (fb != fb) = false := by simp
      refine anyH_step1 (i := 12) rfl (by kernel_rfl) (fun K hK => ?_)
      go_simp
      refine hK.out _ _ (unhide HS7).f3 ?_
      clear hK K
      try simp only [Act.put, List.setIfInBounds_toArray, List.set_cons_zero, List.set_cons_succ]
      refine anyH_step1 (i := 13) rfl (by kernel_rfl) (fun K hK => ?_)
      go_simp
      refine hK.out _ _ (unhide HS7).f3 ?_
      clear hK K
      try simp only [Act.put, List.setIfInBounds_toArray, List.set_cons_zero, List.set_cons_succ]
      refine wpAnyH_done (by kernel_rfl) (NoPanic.normal ?_) _
      go_wp2
      have gd := grown_drew (World.grownBy.refl w7 none)
      have HS8 := hide ((unhide HS7).new gd)
      have HG8 := hide (grown_trans (unhide HG7) gd)
      have HX8 := hide (OwSs.ok.keep (unhide HX7) gd)
      have HR8 := hide (grown_trans (unhide HR7) gd)
      clear HS7 HG7 HX7 HR7 
      clear gd hff
      cases fb with
      | false =>
        refine wp_region_noPanic ?_
        refine wp_region_raw (fun W => W.heap[b3]? = some (.cells #[.int .i64 p, .int .i64 wd, .int .i64 ht, .int .i64 rs, .slice fo fn fc] 26 (0, 0))) [true, false, false, false, false, false, false, false, false, false, false, false, false, false, false, false, false, false, false] (by kernel_rfl) (fun _ _ _ _ _ h => h) rfl (by kernel_rfl) (unhide HS8).f3 ?_
        generalize w7.drew = w8 at *
        refine heldF_take (v := ?_) (Or.inl ⟨by rfl, ?_⟩) ?_
        rotate_left 1
        · intro w' hSw
          try dsimp only at hSw
          have s1 := frameCells' hSw
          go_simp
          try with_reducible rfl
        try simp only [Act.put, List.setIfInBounds_toArray, List.set_cons_zero, List.set_cons_succ]
        refine heldF_skip ?_
        refine heldF_skip ?_
        refine heldF_skip ?_
        refine heldF_skip ?_
        refine heldF_skip ?_
        refine heldF_skip ?_
        refine heldF_skip ?_
        refine heldF_skip ?_
        refine heldF_skip ?_
        refine heldF_skip ?_
        refine heldF_skip ?_
        refine heldF_skip ?_
        refine heldF_skip ?_
        refine heldF_skip ?_
        refine heldF_skip ?_
        refine heldF_skip ?_
        refine heldF_skip ?_
        refine heldF_skip ?_
        refine heldF_nil ?_
        refine anyH_step1 (i := 1) rfl (by kernel_rfl) (fun K hK => ?_)
        go_simp
        refine (specFrameOk p wd ht rs fo fn fc C w8 (unhide HS8).rc false HFB).mono ?_
        rintro e w9 ⟨rfl, g9⟩
        have HS9 := hide ((unhide HS8).new g9)
        have HG9 := hide (grown_trans (unhide HG8) g9)
        have HX9 := hide (OwSs.ok.keep (unhide HX8) g9)
        have HR9 := hide (grown_trans (unhide HR8) g9)
        clear HS8 HG8 HX8 HR8 
        clear g9
        go_simp
        refine hK.out _ _ (unhide HS9).f3 ?_
        clear hK K
        try simp only [Act.put, List.setIfInBounds_toArray, List.set_cons_zero, List.set_cons_succ]
        refine anyH_step1 (i := 2) rfl (by kernel_rfl) (fun K hK => ?_)
        go_simp
        refine hK.out _ _ (unhide HS9).f3 ?_
        clear hK K
        try simp only [Act.put, List.setIfInBounds_toArray, List.set_cons_zero, List.set_cons_succ]
        refine anyH_take1 (i := 3) (v := undef) rfl (by kernel_rfl) (fun _ _ _ _ _ h => h) (unhide HS9).f3 (Or.inr ⟨by rfl, rfl⟩) ?_
        try simp only [Act.put, List.setIfInBounds_toArray, List.set_cons_zero, List.set_cons_succ]
        refine anyH_take1 (i := 4) (v := undef) rfl (by kernel_rfl) (fun _ _ _ _ _ h => h) (unhide HS9).f3 (Or.inr ⟨by rfl, rfl⟩) ?_
        try simp only [Act.put, List.setIfInBounds_toArray, List.set_cons_zero, List.set_cons_succ]
        refine anyH_take1 (i := 5) (v := undef) rfl (by kernel_rfl) (fun _ _ _ _ _ h => h) (unhide HS9).f3 (Or.inr ⟨by rfl, rfl⟩) ?_
        try simp only [Act.put, List.setIfInBounds_toArray, List.set_cons_zero, List.set_cons_succ]
        refine anyH_step1 (i := 6) rfl (by kernel_rfl) (fun K hK => ?_)
        go_simp
        refine hK.out _ _ (unhide HS9).f3 ?_
        clear hK K
        try simp only [Act.put, List.setIfInBounds_toArray, List.set_cons_zero, List.set_cons_succ]
        refine anyH_step1 (i := 7) rfl (by kernel_rfl) (fun K hK => ?_)
        go_simp
        refine hK.out _ _ (unhide HS9).f3 ?_
        clear hK K
        try simp only [Act.put, List.setIfInBounds_toArray, List.set_cons_zero, List.set_cons_succ]
        refine anyH_take1 (i := 8) (v := undef) rfl (by kernel_rfl) (fun _ _ _ _ _ h => h) (unhide HS9).f3 (Or.inr ⟨by rfl, rfl⟩) ?_
        try simp only [Act.put, List.setIfInBounds_toArray, List.set_cons_zero, List.set_cons_succ]
        refine anyH_take1 (i := 9) (v := undef) rfl (by kernel_rfl) (fun _ _ _ _ _ h => h) (unhide HS9).f3 (Or.inr ⟨by rfl, rfl⟩) ?_
        try simp only [Act.put, List.setIfInBounds_toArray, List.set_cons_zero, List.set_cons_succ]
        refine anyH_take1 (i := 10) (v := undef) rfl (by kernel_rfl) (fun _ _ _ _ _ h => h) (unhide HS9).f3 (Or.inr ⟨by rfl, rfl⟩) ?_
        try simp only [Act.put, List.setIfInBounds_toArray, List.set_cons_zero, List.set_cons_succ]
        refine anyH_take1 (i := 11) (v := undef) rfl (by kernel_rfl) (fun _ _ _ _ _ h => h) (unhide HS9).f3 (Or.inr ⟨by rfl, rfl⟩) ?_
        try simp only [Act.put, List.setIfInBounds_toArray, List.set_cons_zero, List.set_cons_succ]
        refine anyH_take1 (i := 12) (v := undef) rfl (by kernel_rfl) (fun _ _ _ _ _ h => h) (unhide HS9).f3 (Or.inr ⟨by rfl, rfl⟩) ?_
        try simp only [Act.put, List.setIfInBounds_toArray, List.set_cons_zero, List.set_cons_succ]
        refine anyH_take1 (i := 13) (v := undef) rfl (by kernel_rfl) (fun _ _ _ _ _ h => h) (unhide HS9).f3 (Or.inr ⟨by rfl, rfl⟩) ?_
        try simp only [Act.put, List.setIfInBounds_toArray, List.set_cons_zero, List.set_cons_succ]
        refine anyH_take1 (i := 14) (v := undef) rfl (by kernel_rfl) (fun _ _ _ _ _ h => h) (unhide HS9).f3 (Or.inr ⟨by rfl, rfl⟩) ?_
        try simp only [Act.put, List.setIfInBounds_toArray, List.set_cons_zero, List.set_cons_succ]
        refine anyH_take1 (i := 15) (v := undef) rfl (by kernel_rfl) (fun _ _ _ _ _ h => h) (unhide HS9).f3 (Or.inr ⟨by rfl, rfl⟩) ?_
        try simp only [Act.put, List.setIfInBounds_toArray, List.set_cons_zero, List.set_cons_succ]
        refine anyH_take1 (i := 16) (v := undef) rfl (by kernel_rfl) (fun _ _ _ _ _ h => h) (unhide HS9).f3 (Or.inr ⟨by rfl, rfl⟩) ?_
        try simp only [Act.put, List.setIfInBounds_toArray, List.set_cons_zero, List.set_cons_succ]
        refine anyH_take1 (i := 17) (v := undef) rfl (by kernel_rfl) (fun _ _ _ _ _ h => h) (unhide HS9).f3 (Or.inr ⟨by rfl, rfl⟩) ?_
        try simp only [Act.put, List.setIfInBounds_toArray, List.set_cons_zero, List.set_cons_succ]
        refine anyH_step1 (i := 18) rfl (by kernel_rfl) (fun K hK => ?_)
        go_simp
        refine hK.out _ _ (unhide HS9).f3 ?_
        clear hK K
        try simp only [Act.put, List.setIfInBounds_toArray, List.set_cons_zero, List.set_cons_succ]
        refine wpAnyH_done (by kernel_rfl) (NoPanic.normal ?_) _
        clear HX9 HR9 HND HSR HLT HG0R
        go_wp2
        go_roundw
        case rel => exact ⟨kk + 1, by omega, by go_num, HS9, HG9⟩
        case measure => simp [intOf]; omega
      | true =>
        obtain ⟨a, s, hLa, hend⟩ := tells_end (unhide HFB) (kind := (kk : Int)) (by omega)
        have hLa2 : L = a :: s := by rw [← unhide HL]; exact hLa
        have HEND : Hid (leftG true fn (L ++ [a]) = []) := by have h9 := hend; rw [unhide HL] at h9; exact h9
        have hxl : xl = s.length + 1 := by rw [← unhide HXL, hLa2]; rfl
        have HLM : Hid (szR szSc (L ++ [a]) ≤ 1048576) := by have h9 := sz_more (a := a) (unhide HLS) (by have h7 := sz_scan (unhide HLS) a (by rw [hLa2]; simp); exact h7); unfold Hid; omega
        obtain ⟨g, hxo, _, _⟩ := (by obtain ⟨U, Fs, _, h3, _, _⟩ := unhide HX8; rw [unhide HXL] at h3; exact own_at h3 (by omega) : ∃ g, xo = some ⟨g, 0, none⟩ ∧ 0 ≤ g ∧ g < w7.drew.heap.size)
        subst hxo
        have hxp : decide ((0 : Int) < (xl : Int)) = true := decide_eq_true (by omega)
        have hx0 : (0 : Int) < (xl : Int) := by omega
        have hxN : 0 < xl := by omega
        have hxd : decide (0 < xl) = true := decide_eq_true hxN
        have HAF := hide (app_first (w := w7.drew) (g := g) (oc := xc) (a := a) (s := s) (F := F) (by have h9 := unhide HX8; rw [hxl, hLa2] at h9; exact h9) (unhide HND))
        have HLA2 := hide hLa2
        have HXLS := hide hxl
        clear hLa hLa2 hend hxl
        obtain ⟨co, cc, xs, ow, c0, c1, c2, c3, c4, hap⟩ := unhide HAF
        obtain ⟨cs, fr, to, hi, lo⟩ := a
        dsimp only at c0 c1 c2 c3 c4 hap
        rw [← unhide HXLS] at ow hap
        have HOW := hide ow
        have HAP := hide hap
        have HCC := hide (And.intro c0 (And.intro c1 (And.intro c2 (And.intro c3 c4))))
        have HGF : Hid (wr.heap.size ≤ g) := unhide HLT g (by obtain ⟨U, Fs, _, _, _, e9⟩ := unhide HX8; rw [e9]; simp [blk, Value.ownBlock])
        clear ow hap c0 c1 c2 c3 c4 HAF HX8
        refine wp_region_noPanic ?_
        refine wp_region_raw (fun W => W.heap[b3]? = some (.cells #[.int .i64 p, .int .i64 wd, .int .i64 ht, .int .i64 rs, .slice fo fn fc] 26 (0, 0))) [true, false, false, false, false, false, false, false, false, false, false, false, false, false, false, false, false, false, false] (by kernel_rfl) (fun _ _ _ _ _ h => h) rfl (by kernel_rfl) (unhide HS8).f3 ?_
        generalize w7.drew = w8 at *
        refine heldF_take (v := ?_) (Or.inl ⟨by rfl, ?_⟩) ?_
        rotate_left 1
        · intro w' hSw
          try dsimp only at hSw
          have s1 := frameCells' hSw
          go_simp
          try with_reducible rfl
        try simp only [Act.put, List.setIfInBounds_toArray, List.set_cons_zero, List.set_cons_succ]
        refine heldF_skip ?_
        refine heldF_skip ?_
        refine heldF_skip ?_
        refine heldF_skip ?_
        refine heldF_skip ?_
        refine heldF_skip ?_
        refine heldF_skip ?_
        refine heldF_skip ?_
        refine heldF_skip ?_
        refine heldF_skip ?_
        refine heldF_skip ?_
        refine heldF_skip ?_
        refine heldF_skip ?_
        refine heldF_skip ?_
        refine heldF_skip ?_
        refine heldF_skip ?_
        refine heldF_skip ?_
        refine heldF_skip ?_
        refine heldF_nil ?_
        refine anyH_step1 (i := 1) rfl (by kernel_rfl) (fun K hK => ?_)
        go_simp
        refine (specFrameOk p wd ht rs fo fn fc C w8 (unhide HS8).rc true HFB).mono ?_
        rintro e w9 ⟨rfl, g9⟩
        have HS9 := hide ((unhide HS8).new g9)
        have HG9 := hide (grown_trans (unhide HG8) g9)
        have HR9 := hide (grown_trans (unhide HR8) g9)
        have HOW9 := hide (own_grown (unhide HOW) g9)
        have GG9 := hide g9
        obtain ⟨c0, c1, c2, c3, c4⟩ := unhide HCC
        have d0 := g9.cell c0 (by simp)
        have d1 := g9.cell c1 (by simp)
        have d2 := g9.cell c2 (by simp)
        have d3 := g9.cell c3 (by simp)
        have d4 := g9.cell c4 (by simp)
        clear c0 c1 c2 c3 c4 HCC g9 HS8 HG8 HR8 HOW
        go_simp
        refine hK.out _ _ (unhide HS9).f3 ?_
        clear hK K
        try simp only [Act.put, List.setIfInBounds_toArray, List.set_cons_zero, List.set_cons_succ]
        refine anyH_step1 (i := 2) rfl (by kernel_rfl) (fun K hK => ?_)
        go_simp
        refine hK.out _ _ (unhide HS9).f3 ?_
        clear hK K
        try simp only [Act.put, List.setIfInBounds_toArray, List.set_cons_zero, List.set_cons_succ]
        refine anyH_step1 (i := 3) rfl (by kernel_rfl) (fun K hK => ?_)
        go_simp
        refine hK.out _ _ (unhide HS9).f3 ?_
        clear hK K
        try simp only [Act.put, List.setIfInBounds_toArray, List.set_cons_zero, List.set_cons_succ]
        refine anyH_step1 (i := 4) rfl (by kernel_rfl) (fun K hK => ?_)
        go_simp
        refine hK.out _ _ (unhide HS9).f3 ?_
        clear hK K
        try simp only [Act.put, List.setIfInBounds_toArray, List.set_cons_zero, List.set_cons_succ]
        refine anyH_step1 (i := 5) rfl (by kernel_rfl) (fun K hK => ?_)
        go_simp
        refine hK.out _ _ (unhide HS9).f3 ?_
        clear hK K
        try simp only [Act.put, List.setIfInBounds_toArray, List.set_cons_zero, List.set_cons_succ]
        refine anyH_step1 (i := 6) rfl (by kernel_rfl) (fun K hK => ?_)
        go_simp
        refine hK.out _ _ (unhide HS9).f3 ?_
        clear hK K
        try simp only [Act.put, List.setIfInBounds_toArray, List.set_cons_zero, List.set_cons_succ]
        refine anyH_step1 (i := 7) rfl (by kernel_rfl) (fun K hK => ?_)
        go_simp
        refine hK.out _ _ (unhide HS9).f3 ?_
        clear hK K
        try simp only [Act.put, List.setIfInBounds_toArray, List.set_cons_zero, List.set_cons_succ]
        refine anyH_take1 (i := 8) (v := ?_) rfl (by kernel_rfl) (fun _ _ _ _ _ h => h) (unhide HS9).f3 (Or.inl ⟨by rfl, ?_⟩) ?_
        rotate_left 1
        · intro w' hSw
          try dsimp only at hSw
          have s1 := frameCells' hSw
          go_simp
          try with_reducible rfl
        try simp only [Act.put, List.setIfInBounds_toArray, List.set_cons_zero, List.set_cons_succ]
        refine anyH_take1 (i := 9) (v := ?_) rfl (by kernel_rfl) (fun _ _ _ _ _ h => h) (unhide HS9).f3 (Or.inl ⟨by rfl, ?_⟩) ?_
        rotate_left 1
        · intro w' hSw
          try dsimp only at hSw
          have s1 := frameCells' hSw
          go_simp
          try with_reducible rfl
        try simp only [Act.put, List.setIfInBounds_toArray, List.set_cons_zero, List.set_cons_succ]
        refine anyH_take1 (i := 10) (v := ?_) rfl (by kernel_rfl) (fun _ _ _ _ _ h => h) (unhide HS9).f3 (Or.inl ⟨by rfl, ?_⟩) ?_
        rotate_left 1
        · intro w' hSw
          try dsimp only at hSw
          have s1 := frameCells' hSw
          go_simp
          try with_reducible rfl
        try simp only [Act.put, List.setIfInBounds_toArray, List.set_cons_zero, List.set_cons_succ]
        refine anyH_take1 (i := 11) (v := ?_) rfl (by kernel_rfl) (fun _ _ _ _ _ h => h) (unhide HS9).f3 (Or.inl ⟨by rfl, ?_⟩) ?_
        rotate_left 1
        · intro w' hSw
          try dsimp only at hSw
          have s1 := frameCells' hSw
          go_simp
          try with_reducible rfl
        try simp only [Act.put, List.setIfInBounds_toArray, List.set_cons_zero, List.set_cons_succ]
        refine anyH_step1 (i := 12) rfl (by kernel_rfl) (fun K hK => ?_)
        go_simp
        refine hK.out _ _ (unhide HS9).f3 ?_
        clear hK K
        try simp only [Act.put, List.setIfInBounds_toArray, List.set_cons_zero, List.set_cons_succ]
        have GA : w9.grownBy (w9.alloc (.cells #[.slice co cs.length cc, .int .i64 fr, .int .i64 to, .int .i64 hi, .int .i64 lo] 38)) none := World.grownBy_alloc _ _ _
        have HSA := hide ((unhide HS9).new GA)
        refine anyH_step1 (i := 13) rfl (by kernel_rfl) (fun K hK => ?_)
        go_simp
        refine hK.out _ _ (unhide HSA).f3 ?_
        clear hK K
        try simp only [Act.put, List.setIfInBounds_toArray, List.set_cons_zero, List.set_cons_succ]
        refine anyH_step1 (i := 14) rfl (by kernel_rfl) (fun K hK => ?_)
        refine step_append_cutW (w := w9.alloc (.cells #[.slice co cs.length cc, .int .i64 fr, .int .i64 to, .int .i64 hi, .int .i64 lo] 38)) (by rfl) _ _ (by rfl) (.slice (some ⟨g, 0, none⟩) xl xc) xl xs (by rfl) (own_grown (unhide HOW9) GA) (some ⟨w9.heap.size, 0, none⟩) 1 1 #[.slice co cs.length cc, .int .i64 fr, .int .i64 to, .int .i64 hi, .int .i64 lo].toList (by rfl) rfl ⟨_, rfl, World.news_of_block (heap_alloc_new w9 _)⟩ (by intro u hu; simp at hu; rcases hu with rfl | rfl | rfl | rfl | rfl <;> rfl) (by have h7 := unhide HLS; have h8 := unhide HXL; unfold szR at h7; omega) ?_
        intro v10 w10 o10 g10 b10
        have G10 : wr.grownBy w10 none := grown_new (grown_trans (unhide HR9) GA) g10 (fun x e => by have e9 : g = x := Option.some.inj e; have := unhide HGF; omega)
        have HS10 := hide ((unhide HSR).new G10)
        have HG10 := hide (grown_trans (unhide HG0R) G10)
        have HRD := hide (unhide HAP w10 v10 o10 (grown_trans (grown_any (grown_trans (unhide GG9) GA)) g10))
        rw [← unhide HLA2] at HRD
        obtain ⟨wo, wc, rfl⟩ := own_form o10
        clear d0 d1 d2 d3 d4 o10 g10 b10 HAP GG9 HOW9 HS9 HG9 HR9 HSA GA G10
        refine hK.out _ _ (unhide HS10).f3 ?_
        clear hK K
        try simp only [Act.put, List.setIfInBounds_toArray, List.set_cons_zero, List.set_cons_succ]
        refine anyH_step1 (i := 15) rfl (by kernel_rfl) (fun K hK => ?_)
        go_simp
        refine (unhide HC3 p wd ht rs fo fn fc C _ (L ++ [⟨cs, fr, to, hi, lo⟩]) w10 (unhide HS10).rc (by omega) (unhide HRD) (unhide HLM) true HFB [] HEND).mono ?_
        rintro e w11 ⟨u11, F11, rfl, o11, -, -, g11⟩
        obtain ⟨uo, uc, rfl⟩ := OwR.form o11
        have HS11 := hide ((unhide HS10).new g11)
        have HG11 := hide (grown_trans (unhide HG10) g11)
        clear o11 g11 HS10 HG10 HRD
        go_simp
        refine hK.out _ _ (unhide HS11).f3 ?_
        clear hK K
        try simp only [Act.put, List.setIfInBounds_toArray, List.set_cons_zero, List.set_cons_succ]
        refine anyH_step1 (i := 16) rfl (by kernel_rfl) (fun K hK => ?_)
        go_simp
        refine hK.out _ _ (unhide HS11).f3 ?_
        clear hK K
        try simp only [Act.put, List.setIfInBounds_toArray, List.set_cons_zero, List.set_cons_succ]
        refine anyH_step1 (i := 17) rfl (by kernel_rfl) (fun K hK => ?_)
        go_simp
        refine hK.out _ _ (unhide HS11).f3 ?_
        clear hK K
        try simp only [Act.put, List.setIfInBounds_toArray, List.set_cons_zero, List.set_cons_succ]
        refine anyH_step1 (i := 18) rfl (by kernel_rfl) (fun K hK => ?_)
        go_simp
        refine hK.out _ _ (unhide HS11).f3 ?_
        clear hK K
        try simp only [Act.put, List.setIfInBounds_toArray, List.set_cons_zero, List.set_cons_succ]
        refine wpAnyH_done (by kernel_rfl) (NoPanic.normal ?_) _
        clear HSR HLT HND HG0R HGF
        go_wp2
        go_roundw
        case rel => exact ⟨kk + 1, by omega, by go_num, HS11, HG11⟩
        case measure => simp [intOf]; omega
    · obtain rfl : kk = 3 := by omega
      have hd : decide (((3 : Nat) : Int) < 3) = false := decide_eq_false (by omega)
      obtain ⟨L2, HL2⟩ : ∃ L2, Hid (leftG fb fn X = L2) := ⟨_, hide rfl⟩
      obtain ⟨ll, HLL⟩ : ∃ ll, Hid (L2.length = ll) := ⟨_, hide rfl⟩
      have HL9 : Hid (szR lenI L2 ≤ 1048576) := by have h9 := sz_left (S := X) (unhide HFB); rw [unhide HL2] at h9; unfold Hid; omega
      have HSX : Hid (szR szSc X ≤ 1048576) := by have := unhide HSZ; unfold Hid; omega
      obtain ⟨f0, f1, f2, f3, f4⟩ := frameCells' (unhide hS).f3
      go_wp2_with fail
      clear f0 f1 f2 f3 f4
      refine (unhide HC3 p wd ht rs fo fn fc C (.slice vo vn vc) X wr (unhide hS).rc (by omega) (unhide hS).rd (unhide HSX) fb HFB L2 HL2).mono ?_
      rintro e w2 ⟨u2, F2, rfl, o2, -, -, g2⟩
      obtain ⟨uo, uc, rfl⟩ := OwR.form o2
      have HY2 := hide (OwR.rd (Q := RdI .i64) (fun _ _ _ _ h => h.rd) o2)
      rw [unhide HLL] at HY2 ⊢
      have HS2 := hide ((unhide hS).new g2)
      have HG2 := hide (grown_trans (unhide hG) g2)
      clear hS hG o2 g2
      obtain ⟨f0, f1, f2, f3, f4⟩ := frameCells' (unhide HS2).f3
      go_wp2_with fail
      clear f0 f1 f2 f3 f4
      refine (specLeftOf p wd ht rs fo fn fc C w2 (unhide HS2).rc (by omega) (.slice vo vn vc) X (unhide HS2).rd (fun a ha => by have := sz_scan (unhide HSX) a ha; omega) fb HFB L2 HL2).mono ?_
      rintro e w3 ⟨u3, F3, rfl, o3, -, -, g3⟩
      obtain ⟨to, tc, rfl⟩ := OwR.form o3
      have HW3 := hide (OwR.rd (Q := RdI .i64) (fun _ _ _ _ h => h.rd) o3)
      rw [unhide HLL] at HW3 ⊢
      have HS3 := hide ((unhide HS2).new g3)
      have HG3 := hide (grown_trans (unhide HG2) g3)
      have HY3 := hide (RdR.st (RdI.st .i64) _ _ _ _ (unhide HY2) g3)
      clear HS2 HG2 HY2 o3 g3
      go_wp2_with fail
      refine (sameListsC w3 _ _ L2 (unhide HY3) (unhide HW3) (unhide HL9)).mono ?_
      rintro e w4 ⟨rfl, g4⟩
      have HS4 := hide ((unhide HS3).new g4)
      have HG4 := hide (grown_trans (unhide HG3) g4)
      have HY4 := hide (RdR.st (RdI.st .i64) _ _ _ _ (unhide HY3) g4)
      clear HS3 HG3 HY3 HW3 g4
      by_cases hl0 : ll = 0
      · subst hl0
        go_wp2
        go_ret
        exact ⟨rfl, unhide HG4⟩
      · have hlz : ((ll : Int) == 0) = false := by simp; omega
        by_cases hv0 : vn = 0
        · subst hv0
          go_wp2
          go_ret
          exact ⟨rfl, unhide HG4⟩
        · have hvz : ((vn : Int) == 0) = false := by simp; omega
          obtain ⟨h2, HH2⟩ : ∃ h2, Hid (vn / 2 = h2) := ⟨_, hide rfl⟩
          have hq2 : (vn : Int).tdiv 2 = (h2 : Int) := by rw [← unhide HH2]; exact (Int.ofNat_tdiv vn 2).symm
          have hh2 : h2 ≤ vn := by rw [← unhide HH2]; omega
          have hhc : (h2 : Int) ≤ (vc : Int) := by omega
          have hh0 : (0 : Int) ≤ (h2 : Int) := by omega
          have ew2 := i64_in (h2 : Int) (by omega)
          have HSH : Hid (szR szSc (X.take h2) ≤ 1048576) := by have h9 := sz_drawn (X := X.take h2) (fun a ha => unhide HFEW a (List.mem_of_mem_take ha)) (by rw [List.length_take]; omega); unfold Hid; omega
          obtain ⟨H, HH⟩ : ∃ H, Hid (leftG fb fn (X.take h2) = H) := ⟨_, hide rfl⟩
          have HBG : Hid (H.length = ll ∧ (∀ i, i < ll → (L2.getD i []).length = 64 ∧ (H.getD i []).length = 64) ∧ ∀ i j, i < ll → j < 64 → 0 ≤ atL H i j → 0 ≤ atL L2 i j ∧ atL L2 i j ≤ atL H i j) := by
            have h9 := left_begin (unhide HL2) (fun e => hl0 (by rw [← unhide HLL, e]; rfl)) h2 (by have := unhide HVX; omega)
            rw [unhide HH, unhide HLL] at h9
            exact h9
          go_wp2
          refine wp_region_noPanic ?_
          have gd := grown_drew (World.grownBy.refl w4 none)
          have HS5 := hide ((unhide HS4).new gd)
          have HG5 := hide (grown_trans (unhide HG4) gd)
          have HY5 := hide (RdR.st (RdI.st .i64) _ _ _ _ (unhide HY4) gd)
          clear HS4 HG4 HY4 gd
          refine wp_region_tailL 20 (fun W => W.heap[b3]? = some (.cells #[.int .i64 p, .int .i64 wd, .int .i64 ht, .int .i64 rs, .slice fo fn fc] 26 (0, 0))) [true, true, true, true, true, true, false, false] (by kernel_rfl) (fun _ _ _ _ _ h => h) rfl (by decide) (by kernel_rfl) (unhide HS5).f3 ?_
          generalize w4.drew = w5 at *
          refine heldF_take (v := ?_) (Or.inl ⟨by rfl, ?_⟩) ?_
          rotate_left 1
          · intro w' hSw
            try dsimp only at hSw
            have s1 := frameCells' hSw
            go_simp
            try with_reducible rfl
          try simp only [Act.put, List.setIfInBounds_toArray, List.set_cons_zero, List.set_cons_succ]
          refine heldF_take (v := ?_) (Or.inl ⟨by rfl, ?_⟩) ?_
          rotate_left 1
          · intro w' hSw
            try dsimp only at hSw
            have s1 := frameCells' hSw
            go_simp
            try with_reducible rfl
          try simp only [Act.put, List.setIfInBounds_toArray, List.set_cons_zero, List.set_cons_succ]
          refine heldF_take (v := ?_) (Or.inl ⟨by rfl, ?_⟩) ?_
          rotate_left 1
          · intro w' hSw
            try dsimp only at hSw
            have s1 := frameCells' hSw
            go_simp
            try with_reducible rfl
          try simp only [Act.put, List.setIfInBounds_toArray, List.set_cons_zero, List.set_cons_succ]
          refine heldF_take (v := ?_) (Or.inl ⟨by rfl, ?_⟩) ?_
          rotate_left 1
          · intro w' hSw
            try dsimp only at hSw
            have s1 := frameCells' hSw
            go_simp
            try with_reducible rfl
          try simp only [Act.put, List.setIfInBounds_toArray, List.set_cons_zero, List.set_cons_succ]
          refine heldF_take (v := ?_) (Or.inl ⟨by rfl, ?_⟩) ?_
          rotate_left 1
          · intro w' hSw
            try dsimp only at hSw
            have s1 := frameCells' hSw
            go_simp
            try with_reducible rfl
          try simp only [Act.put, List.setIfInBounds_toArray, List.set_cons_zero, List.set_cons_succ]
          refine heldF_take (v := ?_) (Or.inl ⟨by rfl, ?_⟩) ?_
          rotate_left 1
          · intro w' hSw
            try dsimp only at hSw
            have s1 := frameCells' hSw
            go_simp
            try with_reducible rfl
          try simp only [Act.put, List.setIfInBounds_toArray, List.set_cons_zero, List.set_cons_succ]
          refine heldF_skip (heldF_skip (heldF_nil ?_))
          refine tailL_skip ?_
          refine tailL_skip ?_
          refine tailL_skip ?_
          refine tailL_skip ?_
          refine tailL_skip ?_
          refine tailL_skip ?_
          refine tailL_step (fun K hK => ?_)
          go_simp
          refine (unhide HC3 p wd ht rs fo fn fc C (.slice vo h2 vc) (X.take h2) w5 (unhide HS5).rc (by omega) ((unhide HS5).rd.take h2 (by have := unhide HVX; omega) vc) (unhide HSH) fb HFB H HH).mono ?_
          rintro e w6 ⟨u6, F6, rfl, o6, -, -, g6⟩
          obtain ⟨ho, hc, rfl⟩ := OwR.form o6
          have HH6 := hide (OwR.rd (Q := RdI .i64) (fun _ _ _ _ h => h.rd) o6)
          rw [(unhide HBG).1] at HH6 ⊢
          have HS6 := hide ((unhide HS5).new g6)
          have HG6 := hide (grown_trans (unhide HG5) g6)
          have HY6 := hide (RdR.st (RdI.st .i64) _ _ _ _ (unhide HY5) g6)
          clear HS5 HG5 HY5 o6 g6
          go_simp
          refine hK.out _ _ (.inr (unhide HS6).f3) ?_
          clear hK K
          refine tailL_step (fun K hK => ?_)
          go_simp
          refine hK.out _ _ (.inl rfl) ?_
          clear hK K
          refine tailL_nil (NoPanic.normal ?_)
          clear HS6 hq2 ew2
          go_wp2
          have hll : ll ≤ 4 := by rw [← unhide HLL, ← unhide HL2]; exact (left_short (S := X) (unhide HFB)).1
          go_loopw [9] (fun iv wr => ∃ i : Nat, i ≤ ll ∧ iv = .int .i64 i ∧ Hid (Rd2 wr (.slice uo ll uc) L2) ∧ Hid (Rd2 wr (.slice ho ll hc) H) ∧ Hid (w.grownBy wr none)) (fun iv _ => ll - (intOf iv).toNat)
          case atStart => exact ⟨0, Nat.zero_le _, rfl, HY6, HH6, HG6⟩
          case round =>
            clear HY6 HH6 HG6
            obtain ⟨i, hi, rfl, hY, hH, hG⟩ := hrel
            by_cases hil : i < ll
            · have hdi : decide ((i : Int) < (ll : Int)) = true := decide_eq_true (by omega)
              go_wp2
              go_loopw [10] (fun kv wr => ∃ k : Nat, k ≤ 64 ∧ kv = .int .i64 k ∧ Hid (Rd2 wr (.slice uo ll uc) L2) ∧ Hid (Rd2 wr (.slice ho ll hc) H) ∧ Hid (w.grownBy wr none)) (fun kv _ => 64 - (intOf kv).toNat)
              case atStart => exact ⟨0, Nat.zero_le _, rfl, hY, hH, hG⟩
              case round =>
                clear hY hH hG
                obtain ⟨k, hk, rfl, hY, hH, hG⟩ := hrel
                by_cases hkl : k < 64
                · have hdk : decide ((k : Int) < 64) = true := decide_eq_true (by omega)
                  have r64 := (unhide HBG).2.1 i hil
                  have hfin := (unhide HBG).2.2 i k hil hkl
                  obtain ⟨lb, loff, lg, lgo, lci, rfl, lc1, lc2⟩ := rd2_cell (unhide hY) i (by rw [unhide HLL]; exact hil) r64.1 k hkl
                  obtain ⟨hb, hoff, hg, hgo, hci, rfl, hc1, hc2⟩ := rd2_cell (unhide hH) i (by rw [(unhide HBG).1]; exact hil) r64.2 k hkl
                  generalize atL L2 i k = y at lc2 hfin
                  generalize atL H i k = x at hc2 hfin
                  have i0 : (0 : Int) ≤ (i : Int) := by omega
                  have i1 : (i : Int) < (ll : Int) := by omega
                  have k0 : (0 : Int) ≤ (k : Int) := by omega
                  have k1 : (k : Int) < 64 := by omega
                  clear r64
                  by_cases hx : 0 ≤ x
                  · have hx1 : decide (0 ≤ x) = true := decide_eq_true hx
                    have hy1 : decide (y < 0) = false := decide_eq_false (by have := hfin hx; omega)
                    have hy2 : decide (x < y) = false := decide_eq_false (by have := hfin hx; omega)
                    clear hfin hx
                    go_wp2
                    go_quiet (fail)
                    go_wp2
                    go_roundw
                    case rel => exact ⟨k + 1, by omega, by go_num, RdR.st (RdI.st .i64) _ _ _ _ (unhide hY) (grown_drewN (World.grownBy.refl _ _) _), RdR.st (RdI.st .i64) _ _ _ _ (unhide hH) (grown_drewN (World.grownBy.refl _ _) _), grown_drewN (unhide hG) _⟩
                    case measure => simp [intOf]; omega
                  · have hx1 : decide (0 ≤ x) = false := decide_eq_false hx
                    clear hfin hx
                    go_wp2
                    go_quiet (fail)
                    go_wp2
                    go_roundw
                    case rel => exact ⟨k + 1, by omega, by go_num, RdR.st (RdI.st .i64) _ _ _ _ (unhide hY) (grown_drewN (World.grownBy.refl _ _) _), RdR.st (RdI.st .i64) _ _ _ _ (unhide hH) (grown_drewN (World.grownBy.refl _ _) _), grown_drewN (unhide hG) _⟩
                    case measure => simp [intOf]; omega
                · obtain rfl : k = 64 := by omega
                  have hdk : decide (((64 : Nat) : Int) < 64) = false := decide_eq_false (by omega)
                  go_wp2
                  go_roundw
                  case rel => exact ⟨i + 1, by omega, by go_num, hY, hH, hG⟩
                  case measure => simp [intOf]; omega
            · obtain rfl : i = ll := by omega
              have hdi : decide ((i : Int) < (i : Int)) = false := decide_eq_false (by omega)
              go_wp2
              go_ret
              exact ⟨rfl, unhide hG⟩

theorem lawScripts (HSC : ImplScript) (HOK : ImplScriptOk) (HLE : ImplLeft) (ao : Option Addr) (n cap : Nat) (zs : List Int) (w : World) (hr : Rd .u8 w ao n zs) (hb : ∀ i, 0 ≤ zs.getD i 0 ∧ zs.getD i 0 ≤ 255) :
    Calls Try.prog 3 #[.slice ao n cap] w fun e w' => e = .returned (.bool true) ∧ Below w.heap.size w w' := by
  by_cases hn : n ≤ 1048576
  · refine (lawScripts_in HSC HOK HLE ao n cap zs w hr hb hn).mono ?_
    rintro e w' ⟨rfl, g⟩
    exact ⟨rfl, grown_below g⟩
  · clear hr hb HSC HOK HLE
    go_enter Try.func3, Try.ntmps3
    go_wp2_with fail
    refine (lawBig ao n cap true w (by unfold Hid; simp; omega)).mono ?_
    rintro e w0 ⟨rfl, rfl⟩
    go_wp2
    go_ret
    exact ⟨rfl, grown_below (World.grownBy.refl _ _)⟩

end Go.Proofs.Ytnjcmlmgjoaeeaa

namespace Go.Proofs.Ytnjcmlmgjoaeeaa
open Go.RowKit

end Go.Proofs.Ytnjcmlmgjoaeeaa

namespace Go.Proofs.Ytnjcmlmgjoaeeaa
open Go.RowKit

theorem load_row {P : Program} {ops : Array Oper} {rest : List Oper} {op : Oper} {a : Act} {w : World} {Q : Exit → Act → World → Prop} (hw : Region.wanted op (yielded ops a.tmps) = true) (ty : TypeId) (x : Operand) (ho : op.op = .load ty x)
    (b : Nat) (hx : a.eval x = .pointer (some ⟨b, 0, none⟩)) (X : Array Value) (t : TypeId) (hb : w.heap[b]? = some (.cells X t (0, 0))) (d : TypeDesc)
    (hu : P.underlying ty = some d) (hd : d.isRow = true) (hi : (P.info? ty).map (·.size) = some X.size)
    (h : wpList P ops Q rest (a.put op.dst (.agg X)) w) : wpList P ops Q (op :: rest) a w :=
  BigFrame.wpList_want hw fun _ hK => wp_load_mid ty x ho b 0 hx X.toList d (fun j v hv => by rw [cell_of_row w b (0 + j) X t (0, 0) hb]; simpa using hv) hu hd (by simpa using hi) (hK _ _ (by simpa using h))
theorem exec_row {P : Program} {ev : Operand → Value} {op : Oper} {w : World} (ty : TypeId) (x : Operand) (ho : op.op = .load ty x) (b : Nat) (hx : ev x = .pointer (some ⟨b, 0, none⟩)) (X : Array Value) (t : TypeId) (hb : w.heap[b]? = some (.cells X t (0, 0))) (d : TypeDesc)
    (hu : P.underlying ty = some d) (hd : (match d with | .struct _ | .array _ _ => true | _ => false) = true) (hi : (P.info? ty).map (·.size) = some X.size) : (execOp ev op).run P w = .ok (.value (.agg X)) w := by
  unfold execOp
  simp only [ho, hx, Instr.loadAt, Instr.sureAddr, Sem.run_bind, Sem.run_pure, Result.andThen_ok, run_loadVar_row w b t ty X (0, 0) d hb hu hd hi]
theorem results_c1 {fn : Func} {p : Tmp} {ty : TypeId} (h : fn.results = #[.cell p ty]) (tmps : Array Value) (P : Program) (w : World) :
    (results fn tmps).run P w = ((asAddr (tmps.getD p undef)).run P w).andThen fun a w₁ => (loadVar ty a).run P w₁ := by
  simp only [results, h]
  simp [Sem.run_bind, Result.andThen]
theorem results_c2 {fn : Func} {p q : Tmp} {ty : TypeId} (h : fn.results = #[.cell p ty, .tmp q]) (tmps : Array Value) (P : Program) (w : World) (g : Nat) (hp : tmps.getD p undef = .pointer (some ⟨g, 0, none⟩)) (x : Value) (hl : (loadVar ty ⟨g, 0, none⟩).run P w = .ok x w) :
    (results fn tmps).run P w = .ok (.tuple #[x, tmps.getD q undef]) w := by
  simp only [results, h]
  have ha : (asAddr (.pointer (some ⟨g, 0, none⟩))).run P w = .ok ⟨g, 0, none⟩ w := by simp [asAddr]
  have hp' : tmps[p]?.getD undef = .pointer (some ⟨g, 0, none⟩) := by simpa using hp
  simp [Sem.run_bind, Result.andThen, hp', hl, ha]
theorem load_mid {P : Program} {ops : Array Oper} {rest : List Oper} {op : Oper} {a : Act} {w : World} {Q : Exit → Act → World → Prop} (hw : Region.wanted op (yielded ops a.tmps) = true) (ty : TypeId) (x : Operand) (ho : op.op = .load ty x)
    (b off : Nat) (hx : a.eval x = .pointer (some ⟨b, off, none⟩)) (X : Array Value) (hb : ∀ j v, X[j]? = some v → w.cell? ⟨b, off + j, none⟩ = some v) (d : TypeDesc)
    (hu : P.underlying ty = some d) (hd : d.isRow = true) (hi : (P.info? ty).map (·.size) = some X.size)
    (h : wpList P ops Q rest (a.put op.dst (.agg X)) w) : wpList P ops Q (op :: rest) a w :=
  BigFrame.wpList_want hw fun _ hK => wp_load_mid ty x ho b off hx X.toList d (fun j v hv => hb j v (by simpa using hv)) hu hd (by simpa using hi) (hK _ _ (by simpa using h))
theorem grown_row (w : World) (g : Nat) (X : Array Value) : w.grownBy (w.setRow g X) (some g) :=
  ⟨rfl, rfl, rfl, by simp [World.setRow], fun k _ hk => setRow_other w g k X (fun e => hk (by simp [e]))⟩
theorem step_store_row {P : Program} {op : Oper} {a : Act} {w : World} {K : Act → World → Prop} {Q : Exit → Act → World → Prop} {t0 : Bool} {Z : Prop} (hw : t0 = true) (ty : TypeId) (x y : Operand) (ho : op.op = .store ty x y)
    (b : Nat) (hx : a.eval x = .pointer (some ⟨b, 0, none⟩)) (X : Array Value) (hy : a.eval y = .agg X) (Y : Array Value) (t : TypeId) (hb : w.heap[b]? = some (.cells Y t (0, 0))) (hYX : Y.size = X.size)
    (hi : (P.info? ty).map (·.size) = some X.size) (h1 : X.all (·.oneCell') = true)
    (h : ∀ w', w'.heap[b]? = some (.cells X t (0, 0)) → w.grownBy w' (some b) → K (a.put op.dst undef) w') : if t0 = true then Oper.wp P op a w K Q else Z := by
  rw [if_pos hw]
  unfold Oper.wp execOp
  simp only [ho, hx, hy, Instr.storeAt, Instr.sureAddr, Sem.run_bind, Sem.run_pure, Result.andThen_ok, run_storeVar_row w b t ty Y X hb hi hYX h1]
  exact h _ (setRow_heap w b Y X t _ hb) (grown_row w b X)
theorem store_row {P : Program} {ops : Array Oper} {rest : List Oper} {op : Oper} {a : Act} {w : World} {Q : Exit → Act → World → Prop} (hw : Region.wanted op (yielded ops a.tmps) = true) (ty : TypeId) (x y : Operand) (ho : op.op = .store ty x y)
    (b : Nat) (hx : a.eval x = .pointer (some ⟨b, 0, none⟩)) (X : Array Value) (hy : a.eval y = .agg X) (Y : Array Value) (t : TypeId) (hb : w.heap[b]? = some (.cells Y t (0, 0))) (hYX : Y.size = X.size)
    (hi : (P.info? ty).map (·.size) = some X.size) (h1 : X.all (·.oneCell') = true)
    (h : ∀ w', w'.heap[b]? = some (.cells X t (0, 0)) → w.grownBy w' (some b) → wpList P ops Q rest (a.put op.dst undef) w') : wpList P ops Q (op :: rest) a w :=
  BigFrame.wpList_want hw fun K hK => by
    unfold Oper.wp execOp
    simp only [ho, hx, hy, Instr.storeAt, Instr.sureAddr, Sem.run_bind, Sem.run_pure, Result.andThen_ok, run_storeVar_row w b t ty Y X hb hi hYX h1]
    exact hK _ _ (h _ (setRow_heap w b Y X t _ hb) (grown_row w b X))

/-- The cells of numbers. -/
def sq (zs : List Int) : Array Value := (zs.map (Value.int .i64)).toArray
theorem sq_size (zs : List Int) : (sq zs).size = zs.length := by simp [sq]
theorem sq_one (zs : List Int) : (sq zs).all (·.oneCell') = true := by simp [sq, Value.oneCell']
theorem sq_at (zs : List Int) (i : Nat) (h : i < zs.length) : (sq zs)[i]? = some (.int .i64 (zs.getD i 0)) := by simp [sq, h]
/-- Sixty-four noughts. -/
def zs64 : List Int := List.replicate 64 0
theorem zs64_len : zs64.length = 64 := by simp [zs64]
theorem sq_z64 : sq zs64 = #[.int .i64 0, .int .i64 0, .int .i64 0, .int .i64 0, .int .i64 0, .int .i64 0, .int .i64 0, .int .i64 0, .int .i64 0, .int .i64 0, .int .i64 0, .int .i64 0, .int .i64 0, .int .i64 0, .int .i64 0, .int .i64 0, .int .i64 0, .int .i64 0, .int .i64 0, .int .i64 0, .int .i64 0, .int .i64 0, .int .i64 0, .int .i64 0, .int .i64 0, .int .i64 0, .int .i64 0, .int .i64 0, .int .i64 0, .int .i64 0, .int .i64 0, .int .i64 0, .int .i64 0, .int .i64 0, .int .i64 0, .int .i64 0, .int .i64 0, .int .i64 0, .int .i64 0, .int .i64 0, .int .i64 0, .int .i64 0, .int .i64 0, .int .i64 0, .int .i64 0, .int .i64 0, .int .i64 0, .int .i64 0, .int .i64 0, .int .i64 0, .int .i64 0, .int .i64 0, .int .i64 0, .int .i64 0, .int .i64 0, .int .i64 0, .int .i64 0, .int .i64 0, .int .i64 0, .int .i64 0, .int .i64 0, .int .i64 0, .int .i64 0, .int .i64 0] := by rfl
/-- A list whose first k numbers are f's. -/
def mix (f : Nat → Int) (zs : List Int) (k : Nat) : List Int := (List.range k).map f ++ zs.drop k
/-- Sixty-four numbers of f. -/
def made (f : Nat → Int) : List Int := (List.range 64).map f
theorem made_len (f : Nat → Int) : (made f).length = 64 := by simp [made]
theorem made_at (f : Nat → Int) (i : Nat) (h : i < 64) : (made f).getD i 0 = f i := by simp [made, h]
theorem made_take (f : Nat → Int) (k : Nat) (h : k < 64) (z : Int) (hz : z = f k) : (made f).take k ++ [z] = (made f).take (k + 1) := by
  subst hz
  rw [List.take_add_one]
  have : (made f)[k]? = some (f k) := by simp [made, h]
  rw [this]
  rfl
theorem made_take_all (f : Nat → Int) : (made f).take 64 = made f := List.take_of_length_le (by rw [made_len]; exact Nat.le_refl _)
theorem mix_zero (f : Nat → Int) (zs : List Int) : mix f zs 0 = zs := by simp [mix]
theorem mix_all (f : Nat → Int) (zs : List Int) (h : zs.length = 64) : mix f zs 64 = made f := by simp [mix, made, List.drop_eq_nil_of_le (Nat.le_of_eq h)]
theorem mix_len (f : Nat → Int) (zs : List Int) (k : Nat) (h : k ≤ zs.length) : (mix f zs k).length = zs.length := by simp [mix]; omega
theorem mix_set (f : Nat → Int) (zs : List Int) (k : Nat) (h : k < zs.length) : (sq (mix f zs k)).setIfInBounds k (.int .i64 (f k)) = sq (mix f zs (k + 1)) := by
  unfold sq mix
  apply Array.ext'
  simp only [List.setIfInBounds_toArray, List.map_append, List.range_succ, List.map_cons, List.map_nil, List.append_assoc]
  rw [List.set_append_right _ _ (by simp), List.drop_eq_getElem_cons h]
  simp only [List.map_cons, List.length_map, List.length_range, Nat.sub_self, List.set_cons_zero, List.cons_append, List.nil_append]
theorem made_congr {f g : Nat → Int} (h : ∀ p, p < 64 → f p = g p) : made f = made g := by
  unfold made
  apply List.map_congr_left
  intro p hp
  exact h p (by simpa using hp)
theorem made_set (f : Nat → Int) (j : Nat) (v : Int) (hj : j < 64) : (sq (made f)).setIfInBounds j (.int .i64 v) = sq (made (fun p => if p = j then v else f p)) := by
  apply Array.ext_getElem?
  intro i
  by_cases hi : i < 64
  · rw [Array.getElem?_setIfInBounds, sq_at _ i (by rw [made_len]; exact hi), sq_at _ i (by rw [made_len]; exact hi), sq_size, made_len, made_at _ i hi, made_at _ i hi]
    by_cases e : j = i
    · subst e; simp [hj]
    · simp [e, Ne.symm e]
  · rw [Array.getElem?_eq_none (by simp [sq_size, made_len]; omega), Array.getElem?_eq_none (by simp [sq_size, made_len]; omega)]
theorem sq_rd {w : World} {b off n : Nat} {zs : List Int} (h : Rd .i64 w (some ⟨b, off, none⟩) n zs) : ∀ j v, (sq zs)[j]? = some v → w.cell? ⟨b, off + j, none⟩ = some v := by
  intro j v hj
  have hjl : j < n := by
    have := (Array.getElem?_eq_some_iff.1 hj).1
    rw [sq_size, h.1] at this; exact this
  obtain ⟨b', off', e, hc⟩ := h.2 j hjl
  simp only [Option.some.injEq, Addr.mk.injEq, and_true] at e
  obtain ⟨rfl, rfl⟩ := e
  rw [hc, ← sq_at zs j (by rw [h.1]; exact hjl), hj]
theorem sq_cell {w : World} {g : Nat} {zs : List Int} {t : TypeId} (hb : w.heap[g]? = some (.cells (sq zs) t (0, 0))) (i : Nat) (h : i < zs.length) : w.cell? ⟨g, i, none⟩ = some (.int .i64 (zs.getD i 0)) := by
  rw [cell_of_row w _ i _ _ (0, 0) hb]; exact sq_at zs i h
theorem sq_frozen {w : World} {g : Nat} {zs : List Int} {t : TypeId} (hb : w.heap[g]? = some (.cells (sq zs) t (0, 0))) (i : Nat) : w.frozen? ⟨g, i, none⟩ = false := frozen_of_row w g i _ _ hb
/-- A number of an array that is held as a value. -/
theorem idx {zs : List Int} (hz : zs.length = 64) (k : Int) (h0 : 0 ≤ k) (h1 : k < 64) (w : World) : (Instr.index 104 (.agg (sq zs)) (.int .i64 k)).run Try.prog w = .ok (.int .i64 (zs.getD k.toNat 0)) w := by
  have h := sq_at zs k.toNat (by omega)
  simp [Instr.index, asIntOf, Sem.run_bind, run_underlying Try.underlying104, run_underlying Try.underlying3, Result.andThen_ok, h0, h1, Go.part, isAgg, h]

/-- One number more behind a row of one's own. -/
theorem append_int {w : World} {ops : Array Oper} {rest : List Oper} {o : Oper} {a : Act} {Q : Exit → Act → World → Prop} (hgd : o.guard = none) (s x : Operand)
    (ho : o.op = .call { callee := .builtin .append, args := #[s, x], argTypes := #[36, 36] })
    (B : World) (v : Value) (n : Nat) (xs : List Int) (hs : a.eval s = v) (hown : w.ownsRow B.heap.size 3 1 v n (xs.map (Value.int .i64))) (z : Int) (hx : a.eval x = .slice (some ⟨w.heap.size, 0, none⟩) 1 1)
    (hb : n + 1 ≤ 1000000) (hB : B.grownBy w none)
    (h : ∀ v' w', w'.ownsRow B.heap.size 3 1 v' (n + 1) ((xs ++ [z]).map (Value.int .i64)) → B.grownBy w' none → wpList Try.prog ops Q rest (a.put o.dst v') w') :
    wpList Try.prog ops Q (o :: rest) a (w.alloc (.cells #[.int .i64 z] 3)) := by
  obtain ⟨i0, hi, hz0, hz1, hz2⟩ := info_parts Try.info3
  refine wpList_append_own _ hgd s x 36 ho B.heap.size 3 i0 (.int .i64 0) 1 8 Try.underlying36 hi hz0 hz1 hz2 rfl (by decide) v n _ hs (hown.alloc _) ⟨w.heap.size, 0, none⟩ 1 1 [.int .i64 z] hx rfl (cell_one_new _ _ _) (by intro u hu; simp at hu; subst hu; rfl) (by unfold maxLen; omega) (by omega) (by have := hB.size; simp; omega) ?_
  intro v' w' h1 h2 _
  refine h v' w' (by rw [List.map_append]; exact h1) (grown_new (grown_alloc hB _) h2 (fun g e => (hown.lt g e).1))

/-- A row of one's own that grows from the block g0 on, all other blocks of S staying as they are. -/
structure OutI (B S : World) (g0 : Nat) (wr : World) (v : Value) (n : Nat) (xs : List Int) : Prop where
  own : wr.ownsRow B.heap.size 3 1 v n (xs.map (Value.int .i64))
  base : B.grownBy wr none
  kept : S.grownBy wr (some g0)
  lies : ∀ g, v.ownBlock = some g → g = g0 ∨ S.heap.size ≤ g
theorem append_out {w : World} {ops : Array Oper} {rest : List Oper} {o : Oper} {a : Act} {Q : Exit → Act → World → Prop} (hgd : o.guard = none) (s x : Operand)
    (ho : o.op = .call { callee := .builtin .append, args := #[s, x], argTypes := #[36, 36] })
    (B S : World) (g0 : Nat) (v : Value) (n : Nat) (xs : List Int) (hs : a.eval s = v) (hown : OutI B S g0 w v n xs) (z : Int) (hx : a.eval x = .slice (some ⟨w.heap.size, 0, none⟩) 1 1)
    (hb : n + 1 ≤ 1000000)
    (h : ∀ v' w', OutI B S g0 w' v' (n + 1) (xs ++ [z]) → wpList Try.prog ops Q rest (a.put o.dst v') w') :
    wpList Try.prog ops Q (o :: rest) a (w.alloc (.cells #[.int .i64 z] 3)) := by
  obtain ⟨i0, hi, hz0, hz1, hz2⟩ := info_parts Try.info3
  refine wpList_append_own_at _ hgd s x 36 ho B.heap.size 3 i0 (.int .i64 0) 1 8 Try.underlying36 hi hz0 hz1 hz2 rfl (by decide) v n _ hs (hown.own.alloc _) ⟨w.heap.size, 0, none⟩ 1 1 [.int .i64 z] hx rfl (cell_one_new _ _ _) (by intro u hu; simp at hu; subst hu; rfl) (by unfold maxLen; omega) (by omega) (by have := hown.base.size; simp; omega) ?_
  intro v' w' h1 h2 _ h4
  have hsz := hown.kept.size
  refine h v' w' ⟨by rw [List.map_append]; exact h1, grown_new (grown_alloc hown.base _) h2 (fun g e => (hown.own.lt g e).1), ?_, ?_⟩
  · have hA : S.grownBy (w.alloc (.cells #[.int .i64 z] 3)) (some g0) := grown_trans hown.kept (World.grownBy_alloc _ _ _)
    refine ⟨h2.os.trans hA.os, h2.tape.trans hA.tape, h2.output.trans hA.output, Nat.le_trans hA.size h2.size, fun k hk hne => (h2.block k (Nat.lt_of_lt_of_le hk hA.size) ?_).trans (hA.block k hk hne)⟩
    intro e
    rcases hown.lies k e.symm with e2 | e2
    · exact hne (by rw [e2])
    · omega
  · intro g e
    rcases h4 with h4 | h4
    · exact hown.lies g (by rw [← h4]; exact e)
    · rw [h4] at e
      simp at e
      right; omega

/-- Squares compared. -/
theorem eqSq {zs ys : List Int} (hz : zs.length = 64) (hy : ys.length = 64) (w : World) : (Op.equalIn 10000 104 (.agg (sq zs)) (.agg (sq ys))).run Try.prog w = .ok (zs == ys) w := by
  obtain ⟨i0, hi, _⟩ := info_parts Try.info3
  rw [run_equalIn_array w 9999 (sq zs) (sq ys) Try.underlying104 hi]
  have hc : Try.prog.cellsOf 3 = 1 := by kernel_rfl
  rw [hc]
  have key : ∀ (l : List Nat), (∀ i ∈ l, i < 64) → (Op.eqItems 9999 3 1 (sq zs) (sq ys) l).run Try.prog w = .ok (l.all fun i => zs.getD i 0 == ys.getD i 0) w := by
    intro l hl
    induction l with
    | nil => simp [Op.eqItems]
    | cons i l ih =>
      have hi : i < 64 := hl i (by simp)
      have h1 := sq_at zs i (by omega)
      have h2 := sq_at ys i (by omega)
      have px : (Go.part 3 (sq zs) (i * 1)).run Try.prog w = .ok (.int .i64 (zs.getD i 0)) w := by
        rw [Nat.mul_one]; simp [Go.part, isAgg, run_underlying Try.underlying3, h1]
      have py : (Go.part 3 (sq ys) (i * 1)).run Try.prog w = .ok (.int .i64 (ys.getD i 0)) w := by
        rw [Nat.mul_one]; simp [Go.part, isAgg, run_underlying Try.underlying3, h2]
      simp only [Op.eqItems, Sem.run_bind, px, py, Result.andThen_ok, run_equalIn_int w 9998 3 .i64 .i64 _ _ Try.underlying3, List.all_cons]
      cases hb : (zs.getD i 0 == ys.getD i 0)
      · simp
      · simp only [Bool.not_true, Bool.false_eq_true, if_false, Bool.true_and]
        exact ih fun j hj => hl j (by simp [hj])
  rw [key _ (fun i hi => by simpa using hi)]
  refine congrArg (fun b => Result.ok b w) ?_
  generalize hN : (64 : Nat) = N at *
  rw [Bool.eq_iff_iff]
  simp only [List.all_eq_true, List.mem_range, beq_iff_eq]
  constructor
  · intro h
    apply List.ext_getElem?
    intro i
    by_cases hi : i < N
    · have := h i hi
      rw [List.getElem?_eq_getElem (by omega), List.getElem?_eq_getElem (by omega)]
      simpa [List.getD_eq_getElem?_getD, show i < zs.length by omega, show i < ys.length by omega] using this
    · rw [List.getElem?_eq_none (by omega), List.getElem?_eq_none (by omega)]
  · rintro rfl i _; rfl

end Go.Proofs.Ytnjcmlmgjoaeeaa

namespace Go.Proofs.Ytnjcmlmgjoaeeaa
open Go.RowKit

def datRow (xs : List Int) : DataW Unit := .agg (xs.map fun x => .lit (.int .i64 x))
theorem datRow_inj : ∀ {xs ys : List Int}, datRow xs = datRow ys → xs = ys := by
  intro xs ys h
  unfold datRow at h
  injection h with h
  induction xs generalizing ys with
  | nil => cases ys with
    | nil => rfl
    | cons y ys => simp at h
  | cons x xs ih => cases ys with
    | nil => simp at h
    | cons y ys =>
      simp only [List.map_cons, List.cons.injEq] at h
      obtain ⟨h1, h2⟩ := h
      injection h1 with h1
      injection h1 with _ h1
      rw [h1, ih h2]
def unInt : Value → Option Int
  | .int .i64 x => some x
  | _ => none
def unInts : List Value → Option (List Int)
  | [] => some []
  | v :: r => match unInt v, unInts r with
    | some x, some xs => some (x :: xs)
    | _, _ => none
def sqR (v : Value) : Option (DataW Unit × List MemPlace) := match v with
  | .agg cs => (unInts cs.toList).map fun xs => (datRow xs, [])
  | _ => none
theorem unInts_mk : ∀ xs : List Int, unInts (xs.map (Value.int .i64)) = some xs
  | [] => rfl
  | x :: xs => by
    show (match unInt (.int .i64 x), unInts (xs.map (Value.int .i64)) with | some x, some xs => some (x :: xs) | _, _ => none) = _
    rw [unInts_mk xs]
    rfl
theorem unInt_inv {v : Value} {x : Int} (h : unInt v = some x) : v = .int .i64 x := by
  unfold unInt at h
  split at h
  · rw [Option.some.inj h]
  · cases h
theorem unInts_inv : ∀ {vs : List Value} {xs : List Int}, unInts vs = some xs → vs = xs.map (Value.int .i64)
  | [], xs, h => by
    unfold unInts at h
    rw [← Option.some.inj h]
    rfl
  | v :: r, xs, h => by
    unfold unInts at h
    split at h
    · rename_i x ys h1 h2
      rw [← Option.some.inj h, unInt_inv h1, unInts_inv h2]
      rfl
    · cases h
theorem sqR_mk (xs : List Int) : sqR (.agg (sq xs)) = some (datRow xs, []) := by
  unfold sqR sq
  simp only [unInts_mk, Option.map_some]
theorem sqR_inv {v : Value} {z : DataW Unit × List MemPlace} (h : sqR v = some z) : ∃ xs, v = .agg (sq xs) ∧ z = (datRow xs, []) := by
  unfold sqR at h
  split at h
  · rename_i cs
    obtain ⟨xs, h1, h2⟩ := Option.map_eq_some_iff.1 h
    refine ⟨xs, ?_, h2.symm⟩
    rw [sq, ← unInts_inv h1]
  · cases h

def keyN (i : Nat) : Lit := .int .i64 i
theorem keyN_inj {i j : Nat} (h : keyN i = keyN j) : i = j := by
  unfold keyN at h
  injection h with _ h
  omega
theorem keyedN : Maps.Keyed Try.prog 3 := Maps.int_keyed Try.underlying3
theorem keyN_of {i : Nat} (h : i < 9223372036854775808) : keyOf Try.prog 3 (.int .i64 i) = some (keyN i) := Maps.keyOf_int_mk Try.underlying3 (WalkArith.wf_i64 (by omega))
theorem keyN_lit (i : Nat) : WideAt.IsKeyLit (keyN i) := trivial

/-- Block b is a map whose keys are those numbers, and whose elements are the squares of these rows. -/
def OwM (w : World) (b : Nat) (L : List (List Int)) : Prop :=
  ∃ (D : DataW Unit) (n : Nat), w.ownsMap Try.prog 3 sqR b n D ∧ Maps.size D = L.length ∧ (∀ i, i < L.length → ∀ z, D.atKey (keyN i) z = datRow (L.getD i [])) ∧ (∀ kl, Maps.has D kl = true → ∃ i, i < L.length ∧ kl = keyN i)
theorem own_tight {w : World} {b n : Nat} {D : DataW Unit} (h : w.ownsMap Try.prog 3 sqR b n D) : w.ownsMap Try.prog 3 sqR b (Maps.size D) D := by
  obtain ⟨es, clock, hb, F, hs, rfl⟩ := h
  exact ⟨es, clock, hb, F, by simp [Maps.size, length_sorted], rfl⟩
theorem OwM.made (w : World) : OwM (w.alloc (.map #[] 0)) w.heap.size [] :=
  ⟨.map [], 0, World.ownsMap_made _ _ _ _, rfl, fun i hi => by simp at hi, fun kl h => by simp [Maps.has] at h⟩
theorem OwM.lt {w : World} {b : Nat} {L : List (List Int)} (h : OwM w b L) : b < w.heap.size := by obtain ⟨D, n, h, _⟩ := h; exact h.lt
theorem OwM.keep {w w' : World} {b : Nat} {L : List (List Int)} {row : Option Nat} (h : OwM w b L) (g : w.grownBy w' row) (hne : some b ≠ row) : OwM w' b L := by
  obtain ⟨D, n, h, r⟩ := h
  exact ⟨D, n, h.kept g hne, r⟩
theorem zero_square (w : World) : (zeroValue 104).run Try.prog w = .ok (.agg (sq zs64)) w := by
  rw [sq_z64]
  kernel_rfl
theorem OwM.look {w : World} {b : Nat} {L : List (List Int)} (h : OwM w b L) (i : Nat) (hi : i < L.length) (hL : L.length < 9223372036854775808) : (Instr.lookup 77 (.map (some b)) (.int .i64 i) false).run Try.prog w = .ok (.agg (sq (L.getD i []))) w := by
  obtain ⟨D, n, h, _, hat, _⟩ := h
  obtain ⟨v, ps, hrun, hv⟩ := h.lookup keyedN Try.underlying77 (zero_square w) (sqR_mk zs64) (keyN_of (i := i) (by omega))
  rw [hat i hi] at hv
  obtain ⟨xs, rfl, e⟩ := sqR_inv hv
  rw [datRow_inj (congrArg Prod.fst e)]
  exact hrun
theorem OwM.store {w : World} {b : Nat} {L : List (List Int)} (h : OwM w b L) (i : Nat) (hi : i ≤ L.length) (hL : L.length < 1000000) (xs : List Int) : ∃ w', (Instr.mapUpdate 77 (.map (some b)) (.int .i64 i) (.agg (sq xs))).run Try.prog w = .ok () w' ∧ OwM w' b (if i = L.length then L ++ [xs] else L.set i xs) ∧ w.grownBy w' (some b) := by
  obtain ⟨D, n, h, hs, hat, hhas⟩ := h
  have hti := h.tidy keyedN
  obtain ⟨w', hrun, h', g⟩ := (own_tight h).update keyedN Try.underlying77 (by rw [hs]; unfold maxLen; omega) (keyN_of (i := i) (by omega)) (sqR_mk xs)
  refine ⟨w', hrun, ⟨_, _, h', ?_, ?_, ?_⟩, g⟩
  · rw [Maps.size_put hti]
    split
    · rename_i hh
      obtain ⟨j, hj, e⟩ := hhas _ hh
      rw [keyN_inj e, if_neg (by omega), List.length_set, hs]
    · rename_i hh
      split
      · rw [List.length_append, hs]; rfl
      · exfalso
        exact hh (Maps.has_true_of_atKey (hat i (by omega)))
  · intro j hj z
    by_cases e : j = i
    · subst e
      rw [Maps.atKey_put_same hti.isMap (keyN_lit j)]
      split
      · rename_i h; simp [h]
      · rw [List.getD_eq_getElem?_getD, List.getElem?_set_self (by omega)]; rfl
    · rw [Maps.atKey_put_other (fun h => e (keyN_inj h))]
      have hj' : j < L.length := by
        split at hj
        · rw [List.length_append, List.length_singleton] at hj; omega
        · rw [List.length_set] at hj; exact hj
      rw [hat j hj']
      split
      · simp [List.getD_eq_getElem?_getD, List.getElem?_append_left hj']
      · simp [List.getD_eq_getElem?_getD, Ne.symm e]
  · intro kl hk
    by_cases e : kl = keyN i
    · refine ⟨i, ?_, e⟩
      split
      · rw [List.length_append, List.length_singleton]; omega
      · rw [List.length_set]; omega
    · rw [Maps.has_put_other e] at hk
      obtain ⟨j, hj, ej⟩ := hhas _ hk
      refine ⟨j, ?_, ej⟩
      split
      · rw [List.length_append, List.length_singleton]; omega
      · rw [List.length_set]; omega
theorem OwM.len {w : World} {b : Nat} {L : List (List Int)} (h : OwM w b L) (ty : TypeId) : (Builtin.len_ #[77] ty #[.map (some b)]).run Try.prog w = .ok (.int .i64 L.length) w := by
  obtain ⟨D, n, h, hs, _⟩ := h
  rw [← hs]
  exact h.len Try.underlying77 ty

/-- At the operation. -/
theorem wp_storeM {ops : Array Oper} {rest : List Oper} {op : Oper} {a : Act} {w : World} {Q : Exit → Act → World → Prop} (hw : Region.wanted op (yielded ops a.tmps) = true) (m x y : Operand) (ho : op.op = .mapUpdate 77 m x y) (b : Nat) (L : List (List Int)) (i : Nat) (xs : List Int)
    (hm : a.eval m = .map (some b)) (hx : a.eval x = .int .i64 i) (hy : a.eval y = .agg (sq xs)) (h : OwM w b L) (hi : i ≤ L.length) (hL : L.length < 1000000)
    (hK : ∀ w', OwM w' b (if i = L.length then L ++ [xs] else L.set i xs) → w.grownBy w' (some b) → wpList Try.prog ops Q rest (a.put op.dst undef) w') : wpList Try.prog ops Q (op :: rest) a w :=
  BigFrame.wpList_want hw fun _ hC => by
    obtain ⟨w', hrun, h1, h2⟩ := h.store i hi hL xs
    unfold Oper.wp
    simp [execOp, ho, hm, hx, hy, hrun, Result.andThen]
    exact hC _ _ (hK w' h1 h2)

end Go.Proofs.Ytnjcmlmgjoaeeaa

namespace Go.Proofs.Ytnjcmlmgjoaeeaa
open Go.RowKit

set_option maxRecDepth 20000 in
set_option maxHeartbeats 800000 in
theorem each (zs : List Int) (hz : zs.length = 64) (f : Nat → Int) (g : Nat) (lb : Array Value) (eg : ∀ args w, (callFunc g args).run Try.prog w = .ok (.enter g args) w) (w : World)
    (HC : Hid (∀ k, k < 64 → ∀ W, w.grownBy W none → Calls Try.prog g (#[.int .i64 (zs.getD k 0)] ++ lb) W fun e W' => e = .returned (.int .i64 (f k)) ∧ W.grownBy W' none)) :
    Calls Try.prog 82 #[.agg (sq zs), .func (.func g) #[] lb] w fun e w' => e = .returned (.agg (sq (made f))) ∧ w.grownBy w' none := by
  have hs : (sq zs).size = 64 := by rw [sq_size, hz]
  obtain ⟨W0, hW0⟩ : ∃ W0, ((w.alloc (.cells (sq zs) 104)).alloc (.cells #[.int .i64 0, .int .i64 0, .int .i64 0, .int .i64 0, .int .i64 0, .int .i64 0, .int .i64 0, .int .i64 0, .int .i64 0, .int .i64 0, .int .i64 0, .int .i64 0, .int .i64 0, .int .i64 0, .int .i64 0, .int .i64 0, .int .i64 0, .int .i64 0, .int .i64 0, .int .i64 0, .int .i64 0, .int .i64 0, .int .i64 0, .int .i64 0, .int .i64 0, .int .i64 0, .int .i64 0, .int .i64 0, .int .i64 0, .int .i64 0, .int .i64 0, .int .i64 0, .int .i64 0, .int .i64 0, .int .i64 0, .int .i64 0, .int .i64 0, .int .i64 0, .int .i64 0, .int .i64 0, .int .i64 0, .int .i64 0, .int .i64 0, .int .i64 0, .int .i64 0, .int .i64 0, .int .i64 0, .int .i64 0, .int .i64 0, .int .i64 0, .int .i64 0, .int .i64 0, .int .i64 0, .int .i64 0, .int .i64 0, .int .i64 0, .int .i64 0, .int .i64 0, .int .i64 0, .int .i64 0, .int .i64 0, .int .i64 0, .int .i64 0, .int .i64 0] 104)) = W0 := ⟨_, rfl⟩
  have b0 : W0.heap[w.heap.size]? = some (.cells (sq zs) 104 (0, 0)) := by
    rw [← hW0, Below.heap_alloc _ _ _ (by simp)]
    exact heap_alloc_new w _
  have b1 : W0.heap[w.heap.size + 1]? = some (.cells (sq zs64) 104 (0, 0)) := by
    rw [← hW0, sq_z64]
    have := heap_alloc_new (w.alloc (.cells (sq zs) 104)) (.cells #[.int .i64 0, .int .i64 0, .int .i64 0, .int .i64 0, .int .i64 0, .int .i64 0, .int .i64 0, .int .i64 0, .int .i64 0, .int .i64 0, .int .i64 0, .int .i64 0, .int .i64 0, .int .i64 0, .int .i64 0, .int .i64 0, .int .i64 0, .int .i64 0, .int .i64 0, .int .i64 0, .int .i64 0, .int .i64 0, .int .i64 0, .int .i64 0, .int .i64 0, .int .i64 0, .int .i64 0, .int .i64 0, .int .i64 0, .int .i64 0, .int .i64 0, .int .i64 0, .int .i64 0, .int .i64 0, .int .i64 0, .int .i64 0, .int .i64 0, .int .i64 0, .int .i64 0, .int .i64 0, .int .i64 0, .int .i64 0, .int .i64 0, .int .i64 0, .int .i64 0, .int .i64 0, .int .i64 0, .int .i64 0, .int .i64 0, .int .i64 0, .int .i64 0, .int .i64 0, .int .i64 0, .int .i64 0, .int .i64 0, .int .i64 0, .int .i64 0, .int .i64 0, .int .i64 0, .int .i64 0, .int .i64 0, .int .i64 0, .int .i64 0, .int .i64 0] 104)
    simpa using this
  have hsz : W0.heap.size = w.heap.size + 2 := by rw [← hW0]; simp
  have G0 : Hid (w.grownBy W0 none) := by rw [← hW0]; exact grown_alloc (grown_alloc (World.grownBy.refl _ _) _) _
  have HW := hide hW0
  have B0 := hide b0
  have B1 := hide b1
  have HS := hide hs
  have HZ := hide hz
  clear hW0 b0 b1 hz
  go_enter Try.func82, Try.ntmps82
  go_wp2_with (rw [unhide HW]; refine load_row rfl 104 _ rfl w.heap.size rfl (sq zs) 104 (unhide B0) _ Try.underlying104 rfl (by rw [unhide HS]; kernel_rfl) ?_)
  clear HW hs
  go_loopw [8] (fun i wr => ∃ k : Nat, k ≤ 64 ∧ i = .int .i64 k ∧ wr.heap[w.heap.size]? = some (.cells (sq (mix f zs k)) 104 (0, 0)) ∧ W0.grownBy wr (some w.heap.size)) (fun i _ => 64 - (intOf i).toNat)
  case atStart => exact ⟨0, Nat.zero_le _, rfl, by rw [mix_zero]; exact unhide B0, World.grownBy.refl _ _⟩
  case round =>
    obtain ⟨k, hk, rfl, hM, hgk⟩ := hrel
    by_cases hlt : k < 64
    · have hat := fun w => idx (unhide HZ) (k : Int) (by omega) (by omega) w
      simp only [Int.toNat_natCast] at hat
      have hl : (mix f zs k).length = 64 := (mix_len f zs k (by have := unhide HZ; omega)).trans (unhide HZ)
      have G1 : Hid (w.grownBy wr none) := grown_new (unhide G0) hgk (fun g e => by simp at e; omega)
      go_wp2_with fail
      refine (unhide HC k hlt wr (unhide G1)).mono ?_
      rintro e W2 ⟨rfl, g2⟩
      have hM2 := (g2.block w.heap.size (by have := hgk.size; omega) (by simp)).trans hM
      have c2 := sq_cell hM2 k (by omega)
      have f2 := sq_frozen hM2 k
      have hM3 := heap_setCell_same W2 w.heap.size k _ _ (.int .i64 (f k)) hM2
      rw [mix_set f zs k (by have := unhide HZ; omega)] at hM3
      have hg3 := grown_trans (grown_trans hgk (grown_any g2)) (grown_set W2 w.heap.size k (.int .i64 (f k)))
      have H3 := hide hM3
      have HG3 := hide hg3
      clear hM hM2 hM3 hg3 hgk g2 hat
      go_wp2
      go_roundw
      case rel => exact ⟨k + 1, by omega, by go_num, unhide H3, unhide HG3⟩
      case measure => simp [intOf]; omega
    · obtain rfl : k = 64 := by omega
      rw [mix_all f zs (unhide HZ)] at hM
      have hbr := (hgk.block (w.heap.size + 1) (by omega) (by simp)).trans (unhide B1)
      have hms : (sq (made f)).size = 64 := by rw [sq_size, made_len]
      have HM := hide hM
      have HBR := hide hbr
      have HMS := hide hms
      clear hM hbr hms
      go_wp2_with (first | (refine load_row rfl 104 _ rfl w.heap.size rfl (sq (made f)) 104 (unhide HM) _ Try.underlying104 rfl (by rw [unhide HMS]; kernel_rfl) ?_) | (refine store_row rfl 104 _ _ rfl (w.heap.size + 1) rfl (sq (made f)) rfl (sq zs64) 104 (unhide HBR) (by rw [unhide HMS, sq_size, zs64_len]) (by rw [unhide HMS]; kernel_rfl) (sq_one _) ?_; intro w3 hB3 g3))
      refine bodyPost_ret (v := .agg (sq (made f))) ?_ rfl ⟨rfl, ?_⟩
      · rw [results_c1 rfl]
        exact run_loadVar_row w3 _ 104 104 _ (0, 0) _ hB3 Try.underlying104 rfl (by rw [unhide HMS]; kernel_rfl)
      · exact grown_new (grown_new (unhide G0) hgk (fun g e => by simp at e; omega)) g3 (fun g e => by simp at e; omega)

theorem ints_one (zs : List Int) : ∀ u ∈ zs.map (Value.int .i64), u.oneCell' = true := by
  intro u hu
  obtain ⟨y, _, rfl⟩ := List.mem_map.1 hu
  rfl
set_option maxRecDepth 20000 in
theorem clone (ad : Addr) (cap : Nat) (zs : List Int) (w : World) (hr : Rd .i64 w (some ad) 64 zs) :
    Calls Try.prog 86 #[.slice (some ad) 64 cap] w fun e w' => ∃ v, e = .returned v ∧ w'.ownsRow w.heap.size 3 1 v 64 (zs.map (Value.int .i64)) ∧ w.grownBy w' none := by
  obtain ⟨i0, hi, hz0, hz1, hz2⟩ := info_parts Try.info3
  have HR := hide hr
  clear hr
  have hne : ∀ w, (binOp .eql 36 (.slice (some ad) 64 cap) (.slice none 0 0)).run Try.prog w = .ok (.bool false) w := fun w => by kernel_rfl
  go_enter Try.func86, Try.ntmps86
  go_wp2_with (at_builtin; refine wpList_append_own _ rfl _ _ 36 rfl w.heap.size 3 i0 (.int .i64 0) 1 8 Try.underlying36 hi hz0 hz1 hz2 rfl (by decide) _ 0 [] rfl (World.ownsRow_lit w #[] 0 (Nat.le_refl _) (by decide) rfl) ad 64 cap (zs.map (Value.int .i64)) rfl (by simp [(unhide HR).1]) (rd_newsI ((unhide HR).grown (World.grownBy_alloc _ _ _))) (ints_one zs) (by decide) (by decide) (by simp) ?_)
  intro v' w' hown hg _
  go_wp2
  go_ret
  exact ⟨_, rfl, hown, grown_new (World.grownBy_alloc _ _ _) hg (fun g e => by simp [Value.ownBlock] at e; omega)⟩

theorem list (zs : List Int) (hz : zs.length = 64) (w : World) :
    Calls Try.prog 74 #[.agg (sq zs)] w fun e w' => ∃ v, e = .returned v ∧ w'.ownsRow w.heap.size 3 1 v 64 (zs.map (Value.int .i64)) ∧ w.grownBy w' none := by
  have hr : Rd .i64 (w.alloc (.cells (sq zs) 104)) (some ⟨w.heap.size, 0, none⟩) 64 zs :=
    ⟨hz, fun i hi => ⟨_, _, rfl, by rw [Nat.zero_add]; exact sq_cell (heap_alloc_new w _) i (by omega)⟩⟩
  go_enter Try.func74, Try.ntmps74
  go_wp2_with fail
  refine (clone _ _ zs _ hr).mono ?_
  rintro e w1 ⟨v, rfl, ho, hg⟩
  go_wp2
  go_ret
  exact ⟨_, rfl, own_base ho (by simp), grown_trans (grown_alloc (World.grownBy.refl _ _) _) hg⟩

end Go.Proofs.Ytnjcmlmgjoaeeaa

namespace Go.Proofs.Ytnjcmlmgjoaeeaa
open Go.RowKit

theorem hasComp (X : Array Value) (p wd ht rs : Int) (n : Nat) (C : Nat → Nat → Int) (hX : Fx X p wd ht rs n C) (hn : n ≤ 4) (c : Int) (t : Bool) (HT : Hid (decide (0 ≤ c ∧ c ≤ (n : Int) - 1) = t)) (w : World) :
    Calls Try.prog 87 #[.agg X, .int .i64 c] w fun e w' => e = .returned (.bool t) ∧ w.grownBy w' none := by
  have hs := hX.size
  have h4 := hX.c4
  have h4' : X[4] = .int .i64 n := by rw [Array.getElem?_eq_getElem (by omega)] at h4; simpa using h4
  have hw := i64_in ((n : Int) - 1) (by omega)
  clear h4 hX
  go_enter Try.func87, Try.ntmps87
  go_wp2_with fail
  refine (inRange c 0 ((n : Int) - 1) t HT _).mono ?_
  rintro e w1 ⟨rfl, rfl⟩
  go_wp2
  go_ret
  exact ⟨rfl, grown_alloc (World.grownBy.refl _ _) _⟩

theorem hasComp_none (c : Int) (w : World) :
    Calls Try.prog 87 #[.agg #[.int .i64 0, .int .i64 0, .int .i64 0, .int .i64 0, .int .i64 0, .int .i64 0, .int .i64 0, .int .i64 0, .int .i64 0, .int .i64 0, .int .i64 0, .int .i64 0, .int .i64 0, .int .i64 0, .int .i64 0, .int .i64 0, .int .i64 0, .int .i64 0, .int .i64 0, .int .i64 0, .int .i64 0], .int .i64 c] w fun e w' => e = .returned (.bool false) ∧ w.grownBy w' none := by
  have HT : Hid (decide (0 ≤ c ∧ c ≤ (-1 : Int)) = false) := decide_eq_false (by omega)
  go_enter Try.func87, Try.ntmps87
  go_wp2_with fail
  refine (inRange c 0 (-1) false HT _).mono ?_
  rintro e w1 ⟨rfl, rfl⟩
  go_wp2
  go_ret
  exact ⟨rfl, grown_alloc (World.grownBy.refl _ _) _⟩

end Go.Proofs.Ytnjcmlmgjoaeeaa

namespace Go.Proofs.Ytnjcmlmgjoaeeaa
open Go.RowKit

/-- The number ahead of place k, -1 ahead of the first. -/
def lastC (cs : List Int) (k : Nat) : Int := if k = 0 then -1 else cs.getD (k - 1) 0
theorem lastC_succ (cs : List Int) (k : Nat) : lastC cs (k + 1) = cs.getD k 0 := by simp [lastC]

set_option maxRecDepth 20000 in
set_option maxHeartbeats 1600000 in
theorem hasComps (X : Array Value) (hs : X.size = 21) (n : Nat) (F : Hid (∀ (c : Int) (w : World), Calls Try.prog 87 #[.agg X, .int .i64 c] w fun e w' => e = .returned (.bool (decide (0 ≤ c ∧ c ≤ (n : Int) - 1))) ∧ w.grownBy w' none))
    (ao : Option Addr) (m cap : Nat) (cs : List Int) (w : World) (hr : Rd .i64 w ao m cs) (hm : m ≤ 4194304) :
    Calls Try.prog 76 #[.agg X, .slice ao m cap] w fun e w' => e = .returned (.bool (okComps n cs)) ∧ w.grownBy w' none := by
  have hml := hr.1
  obtain ⟨wx, hW0⟩ : ∃ wx, w.alloc (.cells X 71) = wx := ⟨_, rfl⟩
  have G0 : w.grownBy wx none := by rw [← hW0]; exact grown_alloc (World.grownBy.refl _ _) _
  have B0 : Hid (wx.heap[w.heap.size]? = some (.cells X 71 (0, 0))) := by rw [← hW0]; exact heap_alloc_new w _
  have hgs : w.heap.size < wx.heap.size := by rw [← hW0]; simp
  have HR := hide (hr.grown G0)
  have HG0 := hide G0
  have HW := hide hW0
  clear hr G0 hW0
  go_enter Try.func76, Try.ntmps76
  go_wp2
  rw [unhide HW]
  clear HW
  go_loopw [5, 10] (fun l i wr => ∃ k : Nat, k ≤ m ∧ i = .int .i64 k ∧ l = .int .i64 (lastC cs k) ∧ compsTo n cs k = true ∧ wx.grownBy wr none) (fun _ i _ => m - (intOf i).toNat)
  case atStart => exact ⟨0, Nat.zero_le _, rfl, rfl, rfl, World.grownBy.refl _ _⟩
  case round =>
    obtain ⟨k, hk, rfl, rfl, hok, hgk⟩ := hrel
    by_cases hlt : k < m
    · obtain ⟨b, off, rfl, hc⟩ := ((unhide HR).grown hgk).2 k hlt
      have hB := (hgk.block w.heap.size hgs (by simp)).trans (unhide B0)
      have HS : Hid (compsTo n cs (k + 1) = (compsTo n cs k && (decide (0 ≤ cs.getD k 0 ∧ cs.getD k 0 ≤ (n : Int) - 1) && decide (k = 0 ∨ cs.getD (k - 1) 0 < cs.getD k 0)))) := rfl
      have HOK := hide hok
      have STOP : Hid (compsTo n cs (k + 1) = false → okComps n cs = false) := fun h => by
        rw [okComps, compsTo_false h cs.length (by omega)]; rfl
      have HL0 : Hid (cs.getD k 0 ≤ lastC cs k → compsTo n cs (k + 1) = false) := fun h => by
        rw [unhide HS]
        unfold lastC at h
        split at h
        · have e : decide (0 ≤ cs.getD k 0 ∧ cs.getD k 0 ≤ (n : Int) - 1) = false := decide_eq_false (by omega)
          rw [e]; simp
        · have e : decide (k = 0 ∨ cs.getD (k - 1) 0 < cs.getD k 0) = false := decide_eq_false (by omega)
          rw [e]; simp
      have HL1 : Hid (lastC cs k < cs.getD k 0 → compsTo n cs (k + 1) = decide (0 ≤ cs.getD k 0 ∧ cs.getD k 0 ≤ (n : Int) - 1)) := fun h => by
        rw [unhide HS, unhide HOK]
        unfold lastC at h
        split at h
        · rename_i e0
          rw [show decide (k = 0 ∨ cs.getD (k - 1) 0 < cs.getD k 0) = true from decide_eq_true (.inl e0)]; simp
        · rw [show decide (k = 0 ∨ cs.getD (k - 1) 0 < cs.getD k 0) = true from decide_eq_true (.inr h)]; simp
      clear hok HS
      generalize lastC cs k = l0 at *
      generalize hcE : cs.getD k 0 = c at *
      have HCE := hide hcE
      clear hcE
      by_cases hle : c ≤ l0
      · go_wp2
        go_ret
        exact ⟨ret_bool (by rw [unhide STOP (unhide HL0 hle)]), grown_trans (unhide HG0) hgk⟩
      · obtain ⟨t, HT⟩ : ∃ t, Hid (decide (0 ≤ c ∧ c ≤ (n : Int) - 1) = t) := ⟨_, rfl⟩
        have HF := hide ((unhide F) c wr)
        rw [unhide HT] at HF
        have HCT : Hid (compsTo n cs (k + 1) = t) := by unfold Hid; rw [unhide HL1 (by omega), unhide HT]
        clear HL0 HL1 HT
        go_wp2_with (refine wpList_load_row rfl 71 _ rfl w.heap.size rfl X 71 hB _ Try.underlying71 rfl (by rw [hs]; kernel_rfl) ?_)
        refine (unhide HF).mono ?_
        rintro e w2 ⟨rfl, g2⟩
        have G2 := grown_trans hgk g2
        clear HF
        cases t
        · go_wp2
          go_ret
          exact ⟨ret_bool (by rw [unhide STOP (unhide HCT)]), grown_trans (unhide HG0) G2⟩
        · go_wp2
          go_roundw
          case rel => exact ⟨k + 1, by omega, by go_num, by rw [lastC_succ, unhide HCE], unhide HCT, G2⟩
          case measure => simp [intOf]; omega
    · have hkn : k = m := by omega
      subst hkn
      have HE : Hid (okComps n cs = decide (0 < k)) := by
        unfold Hid okComps
        rw [hml, hok, Bool.true_and]
      clear hok
      go_wp2
      go_ret
      exact ⟨ret_bool (by rw [unhide HE]), grown_trans (unhide HG0) hgk⟩

end Go.Proofs.Ytnjcmlmgjoaeeaa

namespace Go.Proofs.Ytnjcmlmgjoaeeaa
open Go.RowKit

/-- High and Low are those of a pass. -/
def bitsB (a : Scn) : Bool := decide (0 ≤ a.lo ∧ a.lo ≤ 13) && (decide (a.hi = 0) || decide (a.hi = a.lo + 1))
def pV (a : Scn) : Value := if a.hi = 0 then .iface 118 (.agg #[.int .i64 a.lo]) else .iface 120 (.agg #[.int .i64 a.hi, .int .i64 a.lo])
def pVN (a : Scn) : Value := if bitsB a = true then pV a else .nilIface

set_option maxRecDepth 20000 in
set_option maxHeartbeats 1600000 in
theorem passOf (w : World) (v0 : Value) (a : Scn) (pv : Value) (HP : Hid (pVN a = pv)) :
    Calls Try.prog 84 #[scV v0 a] w fun e w' => e = .returned pv ∧ w.grownBy w' none := by
  obtain ⟨cs, fr, to, hi, lo⟩ := a
  have hp := unhide HP
  unfold pVN bitsB pV at hp
  unfold scV
  dsimp only at hp ⊢
  have HG0 : Hid (w.grownBy (w.alloc (.cells #[v0, .int .i64 fr, .int .i64 to, .int .i64 hi, .int .i64 lo] 38)) none) := World.grownBy_alloc _ _ _
  obtain ⟨c0, c1, c2, c3, c4⟩ := scanCells (heap_alloc_new w (.cells #[v0, .int .i64 fr, .int .i64 to, .int .i64 hi, .int .i64 lo] 38))
  obtain ⟨b3, HB3⟩ : ∃ b, Hid (decide (0 ≤ lo ∧ lo ≤ 13) = b) := ⟨_, rfl⟩
  rw [unhide HB3] at hp
  clear HP
  go_enter Try.func84, Try.ntmps84
  go_wp2_with fail
  refine (inRange lo 0 13 b3 HB3 _).mono ?_
  rintro e w1 ⟨rfl, rfl⟩
  cases b3 with
  | false =>
    have e : pv = .nilIface := by rw [← hp]; simp
    subst e
    clear hp
    go_wp2
    go_ret
    exact ⟨rfl, unhide HG0⟩
  | true =>
    have hlo := of_decide_eq_true (unhide HB3)
    have e1 := i64_in (lo + 1) (by omega)
    by_cases h0 : hi = 0
    · have n0 : (hi == 0) = true := by simp [h0]
      have e : pv = .iface 118 (.agg #[.int .i64 lo]) := by rw [← hp]; simp [h0]
      subst e
      clear h0 hp
      go_wp2
      go_ret
      exact ⟨rfl, unhide HG0⟩
    · have n0 : (hi == 0) = false := by simp [h0]
      by_cases h1 : hi = lo + 1
      · have n1 : (hi == lo + 1) = true := by simp [h1]
        have e : pv = .iface 120 (.agg #[.int .i64 hi, .int .i64 lo]) := by rw [← hp, if_neg h0]; simp [h1]
        subst e
        clear h0 h1 hp
        go_wp2
        go_ret
        exact ⟨rfl, unhide HG0⟩
      · have n1 : (hi == lo + 1) = false := by simp [h1]
        have e : pv = .nilIface := by rw [← hp]; simp [h0, h1]
        subst e
        clear h0 h1 hp
        go_wp2
        go_ret
        exact ⟨rfl, unhide HG0⟩

theorem firstBit (lo : Int) (w : World) : Calls Try.prog 107 #[.agg #[.int .i64 lo]] w fun e w' => e = .returned (.int .i64 lo) ∧ w.grownBy w' none := by
  go_enter Try.func107, Try.ntmps107
  go_wp2
  go_ret
  exact ⟨rfl, World.grownBy_alloc _ _ _⟩
theorem refiningBit (hi lo : Int) (w : World) : Calls Try.prog 108 #[.agg #[.int .i64 hi, .int .i64 lo]] w fun e w' => e = .returned (.int .i64 lo) ∧ w.grownBy w' none := by
  go_enter Try.func108, Try.ntmps108
  go_wp2
  go_ret
  exact ⟨rfl, World.grownBy_alloc _ _ _⟩

theorem asFirst (lo : Int) (w : World) : (Instr.typeAssert (.iface 118 (.agg #[.int .i64 lo])) 113 118 true).run Try.prog w = .ok (.tuple #[.agg #[.int .i64 lo], .bool true]) w := by kernel_rfl
theorem asFirst_no (hi lo : Int) (w : World) : (Instr.typeAssert (.iface 120 (.agg #[.int .i64 hi, .int .i64 lo])) 113 118 true).run Try.prog w = .ok (.tuple #[.agg #[.int .i64 0], .bool false]) w := by kernel_rfl
theorem asRefining (hi lo : Int) (w : World) : (Instr.typeAssert (.iface 120 (.agg #[.int .i64 hi, .int .i64 lo])) 113 120 true).run Try.prog w = .ok (.tuple #[.agg #[.int .i64 hi, .int .i64 lo], .bool true]) w := by kernel_rfl
theorem methFirst (lo : Int) (w : World) : (method 238 118 (.agg #[.int .i64 lo]) "loop.example/g00139/impl.bit").run Try.prog w = .ok (107, .agg #[.int .i64 lo]) w := by kernel_rfl
theorem methRefining (hi lo : Int) (w : World) : (method 238 120 (.agg #[.int .i64 hi, .int .i64 lo]) "loop.example/g00139/impl.bit").run Try.prog w = .ok (108, .agg #[.int .i64 hi, .int .i64 lo]) w := by kernel_rfl
theorem notNilP (t : TypeId) (v : Value) (w : World) : (binOp .neq 113 (.iface t v) .nilIface).run Try.prog w = .ok (.bool true) w := by kernel_rfl
theorem nilP (w : World) : (binOp .neq 113 .nilIface .nilIface).run Try.prog w = .ok (.bool false) w := by kernel_rfl

set_option maxRecDepth 20000 in
set_option maxHeartbeats 1600000 in
theorem mayTell (w : World) (hi lo : Int) (last : Int) :
    Calls Try.prog 85 #[pV ⟨[], 0, 0, hi, lo⟩, .int .i64 last] w fun e w' => e = .returned (.bool (decide (last = if hi = 0 then -1 else hi))) ∧ w.grownBy w' none := by
  unfold pV
  dsimp only
  by_cases h0 : hi = 0
  · rw [if_pos h0, if_pos h0]
    have h1 := fun w => asFirst lo w
    have e : decide (last = -1) = (last == -1) := by by_cases h : last = -1 <;> simp [h]
    rw [e]
    clear e h0
    go_enter Try.func85, Try.ntmps85
    go_wp2
    go_ret
    exact ⟨rfl, World.grownBy_alloc _ _ _⟩
  · rw [if_neg h0, if_neg h0]
    have h1 := fun w => asFirst_no hi lo w
    have h2 := fun w => asRefining hi lo w
    have e : decide (last = hi) = (last == hi) := by by_cases h : last = hi <;> simp [h]
    rw [e]
    clear e h0
    go_enter Try.func85, Try.ntmps85
    go_wp2
    go_ret
    exact ⟨rfl, World.grownBy_alloc _ _ _⟩

end Go.Proofs.Ytnjcmlmgjoaeeaa
