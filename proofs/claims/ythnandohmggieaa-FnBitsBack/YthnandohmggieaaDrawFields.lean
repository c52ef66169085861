/-
  The walk of what draws fields from a code.
-/
import Derived.Test.YthnandohmggieaaInfoInt
import Derived.Test.YthnandohmggieaaFieldRows
import Derived.Test.YthnandohmggieaaCur
import Derived.Deep.RegionHeld3
import Derived.Deep.AppendLies
import Derived.Outline
namespace Go.Proofs.Ythnandohmggieaa
open Go.RowKit

theorem Cur.drew {w : World} {tb : Nat} {ao : Option Addr} {n cap p : Nat} {zs : List Int} (h : Cur w tb ao n cap zs p) : Cur w.drew tb ao n cap zs p := h.grown (grown_drew (World.grownBy.refl _ _))

/-- A pick of one or more. -/
theorem pick_any (tb : Nat) (ao : Option Addr) (n cap p : Nat) (k : Int) (zs : List Int) (w : World) (h : Cur w tb ao n cap zs p) (hp : p ≤ 1000000000000) (hk : 1 ≤ k) (hk3 : k ≤ 2147483648) :
    Calls Try.prog 28 #[.pointer (some ⟨tb, 0, none⟩), .int .i64 k] w fun e w' => ∃ (x : Int) (p' : Nat), e = .returned (.int .i64 x) ∧ 0 ≤ x ∧ x < k ∧ Cur w' tb ao n cap zs p' ∧ p' ≤ p + 2 ∧ w.grownBy w' (some tb) := by
  by_cases h2 : 2 ≤ k
  · exact pick_of tb ao n cap p k zs w h hp h2 hk3
  · refine (pick_small tb k w (by omega)).mono ?_
    rintro e w' ⟨he, rfl⟩
    exact ⟨0, p, he, by omega, by omega, h, by omega, World.grownBy.refl _ _⟩

set_option maxHeartbeats 800000 in
theorem once_of (tb : Nat) (ao : Option Addr) (n cap p : Nat) (k : Int) (zs : List Int) (w : World) (h : Cur w tb ao n cap zs p) (hp : p ≤ 1000000000000) (hk : 2 ≤ k) (hk3 : k ≤ 2147483648) :
    Calls Try.prog 29 #[.pointer (some ⟨tb, 0, none⟩), .int .i64 k] w fun e w' => ∃ (b : Bool) (p' : Nat), e = .returned (.bool b) ∧ Cur w' tb ao n cap zs p' ∧ p' ≤ p + 2 ∧ w.grownBy w' (some tb) := by
  have H := hide h
  clear h
  go_enter Try.func29, Try.ntmps29
  go_wp2_with fail
  refine (pick_of tb ao n cap p k zs w (unhide H) hp hk hk3).mono ?_
  rintro e w1 ⟨x, p', rfl, hx0, hx1, hc, hp', hg⟩
  go_wp2
  go_ret
  exact ⟨_, p', rfl, hc, hp', hg⟩

set_option maxHeartbeats 800000 in
theorem odd_of (tb : Nat) (ao : Option Addr) (n cap p : Nat) (zs : List Int) (w : World) (h : Cur w tb ao n cap zs p) (hp : p ≤ 1000000000) :
    Calls Try.prog 30 #[.pointer (some ⟨tb, 0, none⟩)] w fun e w' => ∃ (y : Int) (p' : Nat), e = .returned (.int .i64 y) ∧ Cur w' tb ao n cap zs p' ∧ p' ≤ p + 2 ∧ w.grownBy w' (some tb) := by
  have H := hide h
  have htb := h.lt
  clear h
  go_enter Try.func30, Try.ntmps30
  go_wp2_with fail
  obtain ⟨cs, hcs, hlen⟩ : ∃ cs : List Int, (#[.int .i64 (-1), .int .i64 0, .int .i64 1, .int .i64 2, .int .i64 255, .int .i64 256, .int .i64 65535, .int .i64 9223372036854775807, .int .i64 (-9223372036854775808), .int .i64 17, .int .i64 8, .int .i64 12] : Array Value) = (cs.map (Value.int .i64)).toArray ∧ cs.length = 12 :=
    ⟨[-1, 0, 1, 2, 255, 256, 65535, 9223372036854775807, -9223372036854775808, 17, 8, 12], rfl, rfl⟩
  rw [hcs]
  clear hcs
  have hc1 := (unhide H).grown (World.grownBy_alloc w (.cells (cs.map (Value.int .i64)).toArray 3) none)
  refine (pick_of tb ao n cap p 12 zs _ hc1 (by omega) (by omega) (by omega)).mono ?_
  rintro e w1 ⟨x, p', rfl, hx0, hx1, hc, hp', hg⟩
  obtain ⟨i, rfl⟩ := Int.eq_ofNat_of_zero_le hx0
  have hblk : w1.heap[w.heap.size]? = some (.cells (cs.map (Value.int .i64)).toArray 3 (0, 0)) :=
    (hg.block w.heap.size (by simp) (by simp; omega)).trans (heap_alloc_new w _)
  have hcell : w1.cell? ⟨w.heap.size, i, none⟩ = some (.int .i64 (cs.getD i 0)) := by
    rw [cell_of_row w1 _ i _ _ (0, 0) hblk]
    simp [show i < cs.length by omega]
  have G := grown_trans (World.grownBy_alloc w (.cells (cs.map (Value.int .i64)).toArray 3) (some tb)) hg
  generalize cs.getD i 0 = y at hcell
  clear hblk hc1 hx0 hlen
  go_wp2
  go_ret
  exact ⟨y, p', rfl, hc, hp', G⟩

/-- A field changed in its place. -/
theorem flat_set (fs : List (Int × Int)) : ∀ (i : Nat) (f : Int × Int), ((flat fs).set (i * 2) (.int .i64 f.1)).set (i * 2 + 1) (.int .i64 f.2) = flat (fs.set i f) := by
  induction fs with
  | nil => intro i f; simp [flat]
  | cons a r ih =>
    intro i f
    cases i with
    | zero => rw [List.set_cons_zero, flat_cons, flat_cons]; rfl
    | succ j =>
      rw [List.set_cons_succ, flat_cons, flat_cons, ← ih j f]
      have e1 : (j + 1) * 2 = j * 2 + 1 + 1 := by omega
      rw [e1]
      rfl

/-- A world in which one old row may have been written, and then new ones. -/
theorem grown_keep {a b c : World} {row row' : Option Nat} (h : a.grownBy b row) (hg : b.grownBy c row') (hge : ∀ g, row' = some g → a.heap.size ≤ g) : a.grownBy c row :=
  ⟨hg.os.trans h.os, hg.tape.trans h.tape, hg.output.trans h.output, Nat.le_trans h.size hg.size, fun k hk hr => (hg.block k (Nat.lt_of_lt_of_le hk h.size) (by intro e; have := hge k e.symm; omega)).trans (h.block k hk hr)⟩
theorem field_put {w w5 : World} {tb b X i bc jx : Nat} {acc : List (Int × Int)} {e : TypeId} (ok : w5.ownsRow w.heap.size e 2 (.slice (some ⟨b, 0, none⟩) acc.length bc) acc.length (flat acc)) (G : w.grownBy w5 (some tb)) (hX : w.heap.size ≤ X) (hne : ¬ b = X) (f : Int × Int) (u : Value) :
    (((w5.setCell ⟨X, jx, none⟩ u).setCell ⟨b, i * 2, none⟩ (.int .i64 f.1)).setCell ⟨b, i * 2 + 1, none⟩ (.int .i64 f.2)).ownsRow w.heap.size e 2 (.slice (some ⟨b, 0, none⟩) acc.length bc) acc.length (flat (acc.set i f)) ∧
      w.grownBy (((w5.setCell ⟨X, jx, none⟩ u).setCell ⟨b, i * 2, none⟩ (.int .i64 f.1)).setCell ⟨b, i * 2 + 1, none⟩ (.int .i64 f.2)) (some tb) := by
  have hb := (ok.lt b rfl).1
  have o1 := own_beneath ok (grown_set w5 X jx u) (fun g g' h h' => by simp [Value.ownBlock] at h h'; omega)
  have o2 := o1.stored (i * 2) (.int .i64 f.1)
  have o3 := o2.1.stored (i * 2 + 1) (.int .i64 f.2)
  refine ⟨?_, ?_⟩
  · rw [← flat_set]; exact o3.1
  · exact grown_keep (grown_keep (grown_keep G (grown_set w5 X jx u) (fun g e => by simp at e; omega)) o2.2 (fun g e => by simp at e; omega)) o3.2 (fun g e => by simp at e; omega)

set_option maxHeartbeats 1600000 in
theorem drawFields (tb : Nat) (ao : Option Addr) (n cap p : Nat) (zs : List Int) (w : World) (h : Cur w tb ao n cap zs p) (hp : p ≤ 1000000) :
    Calls Try.prog 19 #[.pointer (some ⟨tb, 0, none⟩)] w fun e w' => ∃ (fs : List (Int × Int)) (bo : Option Addr) (bc : Nat), e = .returned (.slice bo fs.length bc) ∧ fs.length ≤ 30 ∧
      w'.ownsRow w.heap.size 31 2 (.slice bo fs.length bc) fs.length (flat fs) ∧ w.grownBy w' (some tb) := by
  obtain ⟨i0, hi, hz0, hz1, hz2⟩ := info_parts Try.info31
  have htb := h.lt
  have hcode : 0 < n → ∀ b off, ao = some ⟨b, off, none⟩ → b < w.heap.size := h.rd.lt
  have o0 : (w.alloc (.cells #[] 31)).ownsRow w.heap.size 31 2 (.slice (some ⟨w.heap.size, 0, none⟩) 0 0) 0 [] := World.ownsRow_lit w #[] 0 (Nat.le_refl _) (by unfold maxLen; omega) rfl
  have h0 := h.grown (World.grownBy_alloc w (.cells #[] 31) none)
  have g0 : Hid (w.grownBy (w.alloc (.cells #[] 31)) (some tb)) := World.grownBy_alloc _ _ _
  have HC := hide hcode
  clear h hcode
  go_enter Try.func19, Try.ntmps19
  go_wp2_with fail
  refine (size_of tb ao n cap p 30 zs _ h0 (by omega) (by omega) (by omega)).mono ?_
  rintro e w1 ⟨x, p1, rfl, hx0, hx1, h1, hp1, g1⟩
  obtain ⟨m, rfl⟩ := Int.eq_ofNat_of_zero_le hx0
  have o1 : w1.ownsRow w.heap.size 31 2 (.slice (some ⟨w.heap.size, 0, none⟩) 0 0) 0 [] := own_beneath o0 g1 (fun g g' h h' => by have := (o0.lt g h).1; simp at h'; omega)
  have G1 := grown_trans (unhide g0) g1
  clear o0 h0 g1 g0
  go_wp2
  go_loopw [3, 4] (fun v i wr => ∃ (acc : List (Int × Int)) (j q : Nat), i = .int .i64 j ∧ acc.length + j = m ∧ q ≤ p + 2 + 6 * acc.length ∧ Cur wr tb ao n cap zs q ∧ wr.ownsRow w.heap.size 31 2 v acc.length (flat acc) ∧ w.grownBy wr (some tb)) (fun _ i _ => (intOf i).toNat)
  case atStart => exact ⟨[], m, p1, rfl, by simp, by simpa using hp1, h1, o1, G1⟩
  case round =>
    obtain ⟨acc, j, q, rfl, hj, hq, hcu, hok, hgk⟩ := hrel
    clear o1 G1 h1
    by_cases hlt : 0 < j
    · have hd : decide ((0 : Int) < (j : Int)) = true := by simp; omega
      have hal : acc.length ≤ 30 := by omega
      have hjk : j ≤ 30 := by omega
      have HJ := hide hj
      clear hj
      go_wp2_with fail
      refine (pick_of tb ao n cap q 17 zs wr hcu (by omega) (by omega) (by omega)).mono ?_
      rintro e w2 ⟨x1, p2, rfl, hx10, hx11, hc2, hp2, g2⟩
      have ok2 := own_beneath hok g2 (fun g g' h h' => by have := (hok.lt g h).1; simp at h'; omega)
      have G2 := grown_trans hgk g2
      clear hcu hok hgk g2
      have hc2d := hc2.drew
      have hpw := pow_small x1 (by omega)
      obtain ⟨hpw1, hpw2⟩ := hpw
      have hwr : IntKind.i64.wrap (2 ^ x1.toNat) = 2 ^ x1.toNat := i64_in _ (by omega)
      have hnz : ¬ (2 : Int) ^ x1.toNat = 0 := by omega
      go_wp2
      go_region_held3 (fun _ => True) (trivial) ((first | (go_at_call 28; refine (pick_of tb ao n cap p3 256 zs w3 hc3 (by omega) (by omega) (by omega)).mono ?_; rintro e w4 ⟨x3, p4, rfl, hx30, hx31, hc4, hp4, g4⟩; have ok4 := own_beneath ok3 g4 (fun g g' h h' => by have := (ok3.lt g h).1; simp at h'; omega)) | (go_at_call 28; refine (pick_of tb ao n cap p2 256 zs _ hc2d (by omega) (by omega) (by omega)).mono ?_; rintro e w3 ⟨x2, p3, rfl, hx20, hx21, hc3, hp3, g3⟩; have ok3 := own_beneath (World.ownsRow.drew ok2) g3 (fun g g' h h' => by have := (ok2.lt g h).1; simp at h'; omega)) | (refine step_append_lies _ (by rfl) _ _ _ (by rfl) w.heap.size 31 i0 _ 2 16 Try.underlying24 hi hz0 hz1 hz2 rfl (by omega) _ acc.length (flat acc) (by rfl) (ok4.alloc _) ⟨w4.heap.size, 0, none⟩ 1 1 [.int .i64 x1, .int .i64 ((IntKind.i64.wrap (IntKind.i64.wrap (256 * x2) + x3)).tmod (2 ^ x1.toNat))] (by rfl) (by rfl) (World.news_of_block (cs := #[.int .i64 x1, .int .i64 ((IntKind.i64.wrap (IntKind.i64.wrap (256 * x2) + x3)).tmod (2 ^ x1.toNat))]) (t := 31) (fr := (0, 0)) (heap_alloc_new w4 _)) (by simp [Value.oneCell']) (by omega) (by unfold maxLen; omega) (by omega) (by have := G2.size; have := g3.size; have := g4.size; simp at *; omega) (w4.heap.size + 1) (by simp) ?_; intro gg cc w5 hown' hgrow hat hglt)))
      generalize (IntKind.i64.wrap (IntKind.i64.wrap (256 * x2) + x3)).tmod (2 ^ x1.toNat) = y at *
      have hR : w5.ownsRow w.heap.size 31 2 (.slice (some ⟨gg, 0, none⟩) (acc.length + 1) cc) (acc ++ [(x1, y)]).length (flat (acc ++ [(x1, y)])) := by
        rw [flat_append, List.length_append]; exact hown'
      have hG4 : w.grownBy w4 (some tb) := grown_trans (grown_trans (grown_drew G2) g3) g4
      have hrow : ∀ g, Value.ownBlock _ = some g → w.heap.size ≤ g := fun g e => (ok4.lt g e).1
      have hc6 := (hc4.grown (World.grownBy_alloc w4 (.cells #[.int .i64 x1, .int .i64 y] 31) none)).beside hgrow (fun g e => by
        have := hrow g e
        exact ⟨by omega, fun h b off e' => by have := unhide HC h b off e'; omega⟩)
      have G5 : w.grownBy w5 (some tb) := ⟨hgrow.os.trans hG4.os, hgrow.tape.trans hG4.tape, hgrow.output.trans hG4.output, Nat.le_trans hG4.size (Nat.le_trans (by simp) hgrow.size), fun b hb hr =>
        (hgrow.block b (by have := hG4.size; simp; omega) (fun e => by have := hrow b e.symm; omega)).trans ((Below.heap_alloc _ _ _ (by have := hG4.size; omega)).trans (hG4.block b hb hr))⟩
      clear hown' hgrow ok4 ok3 hG4 hc4 hc3 hc2d hc2 ok2 hrow hat hwr hnz G2 g3 g4
      go_wp2
      go_roundw
      case rel => exact ⟨acc ++ [(x1, y)], j - 1, p4, by go_num, by have := unhide HJ; simp; omega, by simp; omega, hc6, by simpa using hR, G5⟩
      case measure => simp [intOf]; omega
    · obtain rfl : j = 0 := by omega
      have hal : acc.length ≤ 30 := by omega
      have hq2 : q ≤ 1000200 := by omega
      obtain ⟨bo, bc, rfl⟩ := own_form hok
      clear hj hq
      by_cases h0 : acc.length = 0
      · have hd : decide ((0 : Int) < (acc.length : Int)) = false := decide_eq_false (by omega)
        go_wp2
        go_ret
        exact ⟨acc, bo, bc, rfl, hal, hok, hgk⟩
      · have hd : decide ((0 : Int) < (acc.length : Int)) = true := decide_eq_true (by omega)
        go_wp2_with fail
        refine (once_of tb ao n cap q 12 zs wr hcu (by omega) (by omega) (by omega)).mono ?_
        rintro e w2 ⟨b1, p2, rfl, hc2, hp2, g2⟩
        have ok2 := own_beneath hok g2 (fun g g' h h' => by have := (hok.lt g h).1; simp at h'; omega)
        have G2 := grown_trans hgk g2
        clear hcu hok hgk g2
        cases b1
        · go_wp2
          go_ret
          exact ⟨acc, bo, bc, rfl, hal, ok2, G2⟩
        · go_wp2_with fail
          refine (pick_any tb ao n cap p2 acc.length zs w2 hc2 (by omega) (by omega) (by omega)).mono ?_
          rintro e w3 ⟨x, p3, rfl, hx0', hx1', hc3, hp3, g3⟩
          obtain ⟨i, rfl⟩ := Int.eq_ofNat_of_zero_le hx0'
          have hil : i < acc.length := by omega
          have hili : (i : Int) < (acc.length : Int) := by omega
          have ok3 := own_beneath ok2 g3 (fun g g' h h' => by have := (ok2.lt g h).1; simp at h'; omega)
          have G3 := grown_trans G2 g3
          obtain ⟨_, hrd⟩ := own_rdF ok3
          obtain ⟨b, off, hbo, hca, hcb⟩ := hrd i hil
          obtain ⟨gb, hgb, hgb1, hgb2⟩ := own_at ok3 (by omega)
          rw [hbo] at hgb
          simp at hgb
          obtain ⟨rfl, rfl⟩ := hgb
          subst hbo
          rw [Nat.zero_add] at hca hcb
          generalize acc.getD i (0, 0) = f at hca hcb
          obtain ⟨a1, a2⟩ := f
          clear ok2 G2 g3 hc2 hrd hx0'
          have hc3a := hc3.grown (World.grownBy_alloc w3 (.cells #[.int .i64 a1, .int .i64 a2] 31) none)
          go_wp2_with fail
          refine (once_of tb ao n cap p3 2 zs _ hc3a (by omega) (by omega) (by omega)).mono ?_
          rintro e w4 ⟨b2, p4, rfl, hc4, hp4, g4⟩
          have ok4 := own_beneath (ok3.alloc (.cells #[.int .i64 a1, .int .i64 a2] 31)) g4 (fun g g' h h' => by have := (ok3.lt g h).1; simp at h'; omega)
          have G4 := grown_trans (grown_trans G3 (World.grownBy_alloc w3 (.cells #[.int .i64 a1, .int .i64 a2] 31) (some tb))) g4
          have hbox4 : w4.heap[w3.heap.size]? = some (.cells #[.int .i64 a1, .int .i64 a2] 31 (0, 0)) :=
            (g4.block w3.heap.size (by simp) (by have := G3.size; simp; omega)).trans (heap_alloc_new w3 _)
          have hs3 : w.heap.size ≤ w3.heap.size := G3.size
          have hs4 : w3.heap.size < w4.heap.size := by obtain ⟨h, _⟩ := Array.getElem?_eq_some_iff.1 hbox4; exact h
          clear hc3 hc3a ok3 G3 g4 hca hcb
          cases b2
          all_goals
            go_wp2_with fail
            refine (odd_of tb ao n cap p4 zs w4 hc4 (by omega)).mono ?_
            rintro e w5 ⟨y, p5, rfl, hc5, hp5, g5⟩
            have ok5 := own_beneath ok4 g5 (fun g g' h h' => by have := (ok4.lt g h).1; simp at h'; omega)
            have G5 := grown_trans G4 g5
            have hbox5 : w5.heap[w3.heap.size]? = some (.cells #[.int .i64 a1, .int .i64 a2] 31 (0, 0)) := (g5.block w3.heap.size hs4 (by simp; omega)).trans hbox4
            have e0 : w5.cell? ⟨w3.heap.size, 0, none⟩ = some (.int .i64 a1) := by rw [cell_of_row w5 _ 0 _ _ (0, 0) hbox5]; rfl
            have e1 : w5.cell? ⟨w3.heap.size, 1, none⟩ = some (.int .i64 a2) := by rw [cell_of_row w5 _ 1 _ _ (0, 0) hbox5]; rfl
            have f0 : w5.frozen? ⟨w3.heap.size, 0, none⟩ = false := frozen_of_row w5 _ 0 _ _ hbox5
            have f1 : w5.frozen? ⟨w3.heap.size, 1, none⟩ = false := frozen_of_row w5 _ 1 _ _ hbox5
            have q0 := ok5.frozenAt (i * 2)
            have q1 := ok5.frozenAt (i * 2 + 1)
            have hold : ∀ j, j < acc.length * 2 → ∃ u, w5.cell? ⟨b, j, none⟩ = some u := fun j hj => by rw [ok5.cellAt j hj]; exact ⟨_, List.getElem?_eq_getElem (by rw [ok5.1]; omega)⟩
            obtain ⟨u1, hu1⟩ := hold (i * 2) (by omega)
            obtain ⟨u2, hu2⟩ := hold (i * 2 + 1) (by omega)
            have hne : ¬ b = w3.heap.size := by omega
            have hne' : ¬ w3.heap.size = b := by omega
            clear hold hc4 hc5 ok4 G4 hbox4 g5 hbox5
            go_wp2
            go_ret
            first
              | (have hput := field_put (i := i) (jx := 0) ok5 G5 hs3 hne (y, a2) (.int .i64 y); exact ⟨acc.set i (y, a2), _, bc, by rw [List.length_set]; rfl, by rw [List.length_set]; exact hal, by rw [List.length_set]; exact hput.1, hput.2⟩)
              | (have hput := field_put (i := i) (jx := 1) ok5 G5 hs3 hne (a1, y) (.int .i64 y); exact ⟨acc.set i (a1, y), _, bc, by rw [List.length_set]; rfl, by rw [List.length_set]; exact hal, by rw [List.length_set]; exact hput.1, hput.2⟩)

set_option maxHeartbeats 800000 in
theorem drawPack (ao : Option Addr) (n cap : Nat) (zs : List Int) (w : World) (hr : Rd .u8 w ao n zs) (hb : ∀ i, 0 ≤ zs.getD i 0 ∧ zs.getD i 0 ≤ 255) (hn : n ≤ 1048576) :
    Calls Try.prog 6 #[.slice ao n cap] w fun e w' => ∃ (fs : List (Int × Int)) (bo : Option Addr) (bc : Nat), e = .returned (.slice bo fs.length bc) ∧ fs.length ≤ 30 ∧
      w'.ownsRow w.heap.size 31 2 (.slice bo fs.length bc) fs.length (flat fs) ∧ w.grownBy w' none := by
  have HR := hide hr
  have HB := hide hb
  clear hr hb
  go_enter Try.func6, Try.ntmps6
  go_wp2_with fail
  refine (open_of ao n cap zs w (unhide HR) (unhide HB) hn).mono ?_
  rintro e w1 ⟨rfl, hc, g1⟩
  go_wp2_with fail
  refine (drawFields w.heap.size ao n cap 0 zs w1 hc (by omega)).mono ?_
  rintro e w2 ⟨fs, bo, bc, rfl, hl, ho, g2⟩
  go_wp2
  go_ret
  exact ⟨fs, bo, bc, rfl, hl, own_base ho g1.size, grown_new g1 g2 (fun g e => by simp at e; omega)⟩

end Go.Proofs.Ythnandohmggieaa
