/-
  The walk of what spoils drawn bytes, in a seat without segments.
-/
import Derived.Test.YtoeehfjbnbbijaaCurOnce
import Derived.Test.YtoeehfjbnbbijaaSame
import Derived.Test.YtoeehfjbnbbijaaAppRd
import Derived.Deep.AppendLies
namespace Go.Proofs.Ytoeehfjbnbbijaa
open Go.RowKit

/-- What has grown by new rows and by the cursor's alone. -/
theorem grown_tb {a b c : World} {tb : Nat} {row : Option Nat} (h : a.grownBy b (some tb)) (hg : b.grownBy c row) (hge : ∀ g, row = some g → a.heap.size ≤ g) : a.grownBy c (some tb) :=
  ⟨hg.os.trans h.os, hg.tape.trans h.tape, hg.output.trans h.output, Nat.le_trans h.size hg.size, fun k hk hr => (hg.block k (Nat.lt_of_lt_of_le hk h.size) (fun e => by have := hge k e.symm; omega)).trans (h.block k hk hr)⟩
theorem bytes_push {bs : List Int} {y : Int} (h : ∀ x ∈ bs, 0 ≤ x ∧ x ≤ 255) (hy : 0 ≤ y ∧ y ≤ 255) : ∀ x ∈ bs ++ [y], 0 ≤ x ∧ x ≤ 255 := by
  intro x hx
  rcases List.mem_append.1 hx with h1 | h1
  · exact h x h1
  · simp at h1; subst h1; exact hy
theorem rd_sub {w : World} {ao : Option Addr} {n : Nat} {zs : List Int} (h : Rd .u8 w ao n zs) (k m : Nat) (hk : k + m ≤ n) (b off : Nat) (he : ao = some ⟨b, off, none⟩) : Rd .u8 w (some ⟨b, off + k, none⟩) m ((zs.drop k).take m) := by
  subst he
  refine ⟨by have := h.1; simp; omega, fun i hi => ?_⟩
  obtain ⟨b', off', e, hc⟩ := h.2 (k + i) (by omega)
  simp only [Option.some.injEq, Addr.mk.injEq] at e
  have ea := e.1
  have eb := e.2.1
  subst ea; subst eb
  refine ⟨b, off + k, rfl, ?_⟩
  rw [Nat.add_assoc, hc]
  have e1 : ((zs.drop k).take m).getD i 0 = zs.getD (k + i) 0 := by
    rw [List.getD_eq_getElem?_getD, List.getElem?_take, if_pos hi, List.getElem?_drop, ← List.getD_eq_getElem?_getD]
  rw [e1]
theorem rd_tail {w : World} {ao : Option Addr} {n : Nat} {zs : List Int} (h : Rd .u8 w ao n zs) (k : Nat) (hk : k ≤ n) (b off : Nat) (he : ao = some ⟨b, off, none⟩) : Rd .u8 w (some ⟨b, off + k, none⟩) (n - k) (zs.drop k) := by
  have h1 := rd_sub h k (n - k) (by omega) b off he
  rwa [List.take_of_length_le (by have := h.1; simp; omega)] at h1
theorem Rd.aside {k : IntKind} {w w' : World} {ao : Option Addr} {n : Nat} {zs : List Int} {row : Option Nat} (h : Rd k w ao n zs) (hg : w.grownBy w' row) (hne : 0 < n → ∀ b off, ao = some ⟨b, off, none⟩ → ∀ g, row = some g → b ≠ g) : Rd k w' ao n zs := by
  cases row with
  | none => exact h.grown hg
  | some g => exact h.beside hg (fun hn b off e => hne hn b off e g rfl)
theorem bytes_app {xs ys : List Int} (h : ∀ x ∈ xs, 0 ≤ x ∧ x ≤ 255) (h' : ∀ x ∈ ys, 0 ≤ x ∧ x ≤ 255) : ∀ x ∈ xs ++ ys, 0 ≤ x ∧ x ≤ 255 := by
  intro x hx
  rcases List.mem_append.1 hx with h1 | h1
  · exact h x h1
  · exact h' x h1
theorem rd_front {w : World} {ao : Option Addr} {n : Nat} {zs : List Int} (h : Rd .u8 w ao n zs) (k : Nat) (hk : k ≤ n) : Rd .u8 w ao k (zs.take k) := by
  refine ⟨by have := h.1; simp; omega, fun i hi => ?_⟩
  obtain ⟨b, off, e, hc⟩ := h.2 i (by omega)
  refine ⟨b, off, e, ?_⟩
  rw [hc]
  have e1 : (zs.take k).getD i 0 = zs.getD i 0 := by
    rw [List.getD_eq_getElem?_getD, List.getElem?_take, if_pos hi, ← List.getD_eq_getElem?_getD]
  rw [e1]

set_option maxHeartbeats 800000 in
theorem odd_of (tb : Nat) (ao : Option Addr) (n cap p : Nat) (zs : List Int) (w : World) (h : Cur w tb ao n cap zs p) (hp : p ≤ 1000000000) :
    Calls Try.prog 67 #[.pointer (some ⟨tb, 0, none⟩)] w fun e w' => ∃ (y : Int) (p' : Nat), e = .returned (.int .i64 y) ∧ Cur w' tb ao n cap zs p' ∧ p' ≤ p + 2 ∧ w.grownBy w' (some tb) := by
  have H := hide h
  have htb := h.lt
  clear h
  go_enter Try.func67, Try.ntmps67
  go_wp2_with fail
  obtain ⟨cs, hcs, hlen⟩ : ∃ cs : List Int, (#[.int .i64 (-1), .int .i64 0, .int .i64 1, .int .i64 2, .int .i64 255, .int .i64 256, .int .i64 65535, .int .i64 9223372036854775807, .int .i64 (-9223372036854775808), .int .i64 17, .int .i64 8, .int .i64 12] : Array Value) = (cs.map (Value.int .i64)).toArray ∧ cs.length = 12 :=
    ⟨[-1, 0, 1, 2, 255, 256, 65535, 9223372036854775807, -9223372036854775808, 17, 8, 12], rfl, rfl⟩
  rw [hcs]
  clear hcs
  have hc1 := (unhide H).grown (World.grownBy_alloc w (.cells (cs.map (Value.int .i64)).toArray 3) none)
  refine (pick_of tb ao n cap p 12 zs _ hc1 (by omega) (by omega) (by omega)).mono ?_
  rintro e w1 ⟨x, p', rfl, hx0, hx1, hc, hp', hg⟩
  obtain ⟨i, rfl⟩ := Int.eq_ofNat_of_zero_le hx0
  have hblk : w1.heap[w.heap.size]? = some (.cells (cs.map (Value.int .i64)).toArray 3 (0, 0)) :=
    (hg.block w.heap.size (by simp) (by simp; omega)).trans (heap_alloc_new w _)
  have hcell : w1.cell? ⟨w.heap.size, i, none⟩ = some (.int .i64 (cs.getD i 0)) := by
    rw [cell_of_row w1 _ i _ _ (0, 0) hblk]
    simp [show i < cs.length by omega]
  have G := grown_trans (World.grownBy_alloc w (.cells (cs.map (Value.int .i64)).toArray 3) (some tb)) hg
  generalize cs.getD i 0 = y at hcell
  clear hblk hc1 hx0 hlen
  go_wp2
  go_ret
  exact ⟨y, p', rfl, hc, hp', G⟩

set_option maxRecDepth 20000 in
set_option maxHeartbeats 6400000 in
theorem spoil (tb : Nat) (ao : Option Addr) (n cap p : Nat) (zs : List Int) (w : World) (h : Cur w tb ao n cap zs p) (hp : p ≤ 1000000) (base : Nat) (htb : tb < base) (hcode : 0 < n → ∀ b off, ao = some ⟨b, off, none⟩ → b < base) (bo : Option Addr) (m c : Nat) (bs : List Int)
    (hob : w.ownsRow base 5 1 (.slice bo m c) m (bs.map (Value.int .u8))) (hm : m ≤ 60001) (hby : ∀ x ∈ bs, 0 ≤ x ∧ x ≤ 255) (hbase : base ≤ w.heap.size) :
    Calls Try.prog 52 #[.pointer (some ⟨tb, 0, none⟩), .slice bo m c] w fun e w' => ∃ (ys : List Int) (ro : Option Addr) (rc p' : Nat), e = .returned (.slice ro ys.length rc) ∧ ys.length ≤ m + 1 ∧ (∀ x ∈ ys, 0 ≤ x ∧ x ≤ 255) ∧
      w'.ownsRow base 5 1 (.slice ro ys.length rc) ys.length (ys.map (Value.int .u8)) ∧ Cur w' tb ao n cap zs p' ∧ p' ≤ p + 8 ∧ w.grownBy w' (some tb) := by
  obtain ⟨i0, hi, hiz0, hiz1, hiz2⟩ := info_parts Try.info5
  have hlen : bs.length = m := by have := hob.1; simpa using this
  have HBY := hide hby
  have HC := hide hcode
  clear hby hcode
  by_cases h0 : m = 0
  · subst h0
    have hl0 : bs = [] := List.length_eq_zero_iff.1 hlen
    subst hl0
    go_enter Try.func52, Try.ntmps52
    go_wp2
    go_ret
    exact ⟨[], bo, c, p, rfl, by simp, by simp, hob, h, by omega, World.grownBy.refl _ _⟩
  · have hne : ((m : Int) == 0) = false := by simp; omega
    have hmc : m ≤ c := by
      rcases hob.2 with ⟨_, h2⟩ | ⟨g, c', cur, hv, _, _, hle, _⟩
      · omega
      · simp at hv; obtain ⟨_, rfl⟩ := hv; exact hle
    obtain ⟨gb, hbo, hgb1, hgb2⟩ := own_at hob (by omega)
    subst hbo
    have HR := hide (own_rd hob)
    have HOB := hide hob
    have hgne : gb ≠ tb := by omega
    have hm1 : 1 ≤ m := by omega
    clear hob h0
    go_enter Try.func52, Try.ntmps52
    go_wp2_with fail
    refine (pick_any tb ao n cap p m zs w h (by omega) (by omega) (by omega)).mono ?_
    rintro e w1 ⟨x, p1, rfl, hx0, hx1, c1, hp1, g1⟩
    obtain ⟨k, rfl⟩ := Int.eq_ofNat_of_zero_le hx0
    have hkm : k < m := by omega
    have hz1 := g1.size
    have HR1 := hide ((unhide HR).beside g1 (fun _ b off e => by simp at e; omega))
    have G1 := g1
    have o1 : (w1.alloc (.cells #[] 5)).ownsRow w1.heap.size 5 1 (.slice (some ⟨w1.heap.size, 0, none⟩) 0 0) 0 [] := World.ownsRow_lit w1 #[] 0 (Nat.le_refl _) (by unfold maxLen; omega) rfl
    have O1 := hide o1
    have c1a := c1.grown (World.grownBy_alloc w1 (.cells #[] 5) none)
    have HR1a := hide (rd_front ((unhide HR1).grown (World.grownBy_alloc w1 (.cells #[] 5) none)) k (by omega))
    have HR1b := hide ((unhide HR1).grown (World.grownBy_alloc w1 (.cells #[] 5) none))
    have G1a := grown_tb G1 (World.grownBy_alloc w1 (.cells #[] 5) none) (fun g e => by simp at e)
    have hkc : (k : Int) ≤ (c : Int) := by omega
    clear h g1 HR HOB o1 c1 HR1 G1
    go_wp2_with (at_builtin; refine append_rd rfl _ _ rfl w1.heap.size _ 0 [] rfl (unhide O1) (some ⟨gb, 0, none⟩) k c (bs.take k) rfl (unhide HR1a) (by simp) (by omega) (by simp) ?_)
    intro v2 w2 hown2 hgrow2
    have O2 := hide (own_as hown2 (n' := k) (xs' := (bs.take k).map (Value.int .u8)) (by omega) (by simp))
    have hg2' : (w1.alloc (.cells #[] 5)).grownBy w2 (some w1.heap.size) := hgrow2
    have c2 := c1a.beside hg2' (fun g e => by simp at e; subst e; exact ⟨by omega, fun h b off e' => by have := unhide HC h b off e'; omega⟩)
    have HR2 := hide ((unhide HR1b).beside hg2' (fun _ b off e => by simp at e; omega))
    have G2 := grown_tb G1a hg2' (fun g e => by simp at e; omega)
    have hz2' : w1.heap.size ≤ w2.heap.size := Nat.le_trans (by simp) hg2'.size
    obtain ⟨so2, sc2, hv2⟩ := own_form (unhide O2)
    subst hv2
    clear hown2 hgrow2 hg2' c1a HR1a HR1b G1a O1
    go_wp2_with fail
    refine (pick_of tb ao n cap p1 4 zs w2 c2 (by omega) (by omega) (by omega)).mono ?_
    rintro e w3 ⟨y, p3, rfl, hy0, hy1, c3, hp3, g3⟩
    have O3 := hide (own_beneath (unhide O2) g3 (fun g g' h h' => by have := ((unhide O2).lt g h).1; simp at h'; omega))
    have HR3 := hide ((unhide HR2).beside g3 (fun _ b off e => by simp at e; omega))
    have G3 := grown_trans G2 g3
    have hz3 := g3.size
    clear c2 O2 HR2 G2 g3
    have hy4 : y = 0 ∨ y = 1 ∨ y = 2 ∨ y = 3 := by omega
    rcases hy4 with rfl | rfl | rfl | rfl
    · have OW := O3
      have cW := c3
      have GW := G3
      have HRW := HR3
      obtain ⟨so, hso⟩ : ∃ so, so2 = so := ⟨_, rfl⟩
      obtain ⟨sc, hsc⟩ : ∃ sc, sc2 = sc := ⟨_, rfl⟩
      subst hso
      subst hsc
      have HACC : Hid (∀ x ∈ bs.take k, 0 ≤ x ∧ x ≤ 255) := fun x hx => unhide HBY x (List.mem_of_mem_take hx)
      have hlt1 : (bs.take k).length = k := by rw [List.length_take]; omega
      have HTL : Hid (∀ x ∈ bs.drop (k + 1), 0 ≤ x ∧ x ≤ 255) := fun x hx => unhide HBY x (List.mem_of_mem_drop hx)
      have hkw : IntKind.i64.wrap ((k : Int) + 1) = (k : Int) + 1 := i64_in _ (by omega)
      have hkp : (0 : Int) ≤ (k : Int) + 1 := by omega
      by_cases hck : c = k + 1
      · have hmk : m = k + 1 := by omega
        have HE : Hid (bs.drop (k + 1) = []) := List.drop_eq_nil_of_le (by omega)
        have HR0 : Hid (Rd .u8 w3 (some ⟨gb, 0, none⟩) 0 (bs.drop (k + 1))) := by rw [unhide HE]; exact ⟨rfl, fun i hi => absurd hi (by omega)⟩
        have hl0 : (bs.drop (k + 1)).length = 0 := by rw [unhide HE]; rfl
        subst hck
        subst hmk
        go_wp2_with (at_builtin; refine append_rd rfl _ _ rfl w1.heap.size (.slice so2 k sc2) (k) ((bs.take k).map (Value.int .u8)) rfl (unhide OW) (some ⟨gb, 0, none⟩) 0 0 (bs.drop (k + 1)) rfl (unhide HR0) (by simp) (by omega) (by omega) ?_)
        intro v9 w9 hown9 hgrow9
        have hv9 : ∀ g, (Value.slice so2 k sc2).ownBlock = some g → w1.heap.size ≤ g := fun g e => ((unhide OW).lt g e).1
        have O9 := hide (own_as hown9 (n' := ((bs.take k) ++ (bs.drop (k + 1))).length) (xs' := ((bs.take k) ++ (bs.drop (k + 1))).map (Value.int .u8)) (by simp; omega) (by simp))
        have c9 := cW.beside hgrow9 (fun g e => by
          have := hv9 g e
          exact ⟨by omega, fun h b off e' => by have := unhide HC h b off e'; omega⟩)
        have G9 := grown_tb GW hgrow9 (fun g e => by have := hv9 g e; omega)
        obtain ⟨ro, rc, rfl⟩ := own_form (unhide O9)
        clear hown9 hgrow9
        go_wp2
        go_ret
        exact ⟨_, ro, rc, p3, rfl, by simp; omega, bytes_app (unhide HACC) (unhide HTL), own_base (unhide O9) (by omega), c9, by omega, G9⟩
      · have HRT := hide (rd_tail (unhide HRW) (k + 1) (by omega) gb 0 rfl)
        rw [Nat.zero_add] at HRT
        go_wp2_with (at_builtin; refine append_rd rfl _ _ rfl w1.heap.size (.slice so2 k sc2) (k) ((bs.take k).map (Value.int .u8)) rfl (unhide OW) (some ⟨gb, k + 1, none⟩) (m - (k + 1)) (c - (k + 1)) (bs.drop (k + 1)) rfl (unhide HRT) (by simp) (by omega) (by omega) ?_)
        intro v9 w9 hown9 hgrow9
        have hv9 : ∀ g, (Value.slice so2 k sc2).ownBlock = some g → w1.heap.size ≤ g := fun g e => ((unhide OW).lt g e).1
        have O9 := hide (own_as hown9 (n' := ((bs.take k) ++ (bs.drop (k + 1))).length) (xs' := ((bs.take k) ++ (bs.drop (k + 1))).map (Value.int .u8)) (by simp; omega) (by simp))
        have c9 := cW.beside hgrow9 (fun g e => by
          have := hv9 g e
          exact ⟨by omega, fun h b off e' => by have := unhide HC h b off e'; omega⟩)
        have G9 := grown_tb GW hgrow9 (fun g e => by have := hv9 g e; omega)
        obtain ⟨ro, rc, rfl⟩ := own_form (unhide O9)
        clear hown9 hgrow9
        go_wp2
        go_ret
        exact ⟨_, ro, rc, p3, rfl, by simp; omega, bytes_app (unhide HACC) (unhide HTL), own_base (unhide O9) (by omega), c9, by omega, G9⟩
    · go_wp2_with fail
      refine (pick_of tb ao n cap p3 256 zs w3 c3 (by omega) (by omega) (by omega)).mono ?_
      rintro e w4 ⟨a, p4, rfl, ha0, ha1, c4, hp4, g4⟩
      have O4 := hide (own_beneath (unhide O3) g4 (fun g g' h h' => by have := ((unhide O3).lt g h).1; simp at h'; omega))
      have HR4 := hide ((unhide HR3).beside g4 (fun _ b off e => by simp at e; omega))
      have G4 := grown_trans G3 g4
      have hz4 := g4.size
      have HB4 := hide (heap_alloc_new w4 (.cells #[.int .u8 255, .int .u8 0, .int .u8 254, .int .u8 240, .int .u8 a] 5))
      have c4a := c4.grown (World.grownBy_alloc w4 (.cells #[.int .u8 255, .int .u8 0, .int .u8 254, .int .u8 240, .int .u8 a] 5) none)
      have O4a := hide ((unhide O4).alloc (.cells #[.int .u8 255, .int .u8 0, .int .u8 254, .int .u8 240, .int .u8 a] 5))
      have HR4a := hide ((unhide HR4).grown (World.grownBy_alloc w4 (.cells #[.int .u8 255, .int .u8 0, .int .u8 254, .int .u8 240, .int .u8 a] 5) none))
      have G4a := grown_trans G4 (World.grownBy_alloc w4 (.cells #[.int .u8 255, .int .u8 0, .int .u8 254, .int .u8 240, .int .u8 a] 5) (some tb))
      have HZ4 : Hid ((w4.alloc (.cells #[.int .u8 255, .int .u8 0, .int .u8 254, .int .u8 240, .int .u8 a] 5)).heap.size = w4.heap.size + 1) := by unfold Hid; simp
      clear c3 O3 HR3 G3 g4 O4 HR4 G4 c4
      go_wp2_with fail
      generalize (w4.alloc (.cells #[.int .u8 255, .int .u8 0, .int .u8 254, .int .u8 240, .int .u8 a] 5)) = w4a at *
      refine (pick_of tb ao n cap p4 5 zs w4a c4a (by omega) (by omega) (by omega)).mono ?_
      rintro e w5 ⟨x3, p5, rfl, hi0', hi1', c5, hp5, g5⟩
      obtain ⟨i, rfl⟩ := Int.eq_ofNat_of_zero_le hi0'
      have hi5 : i < 5 := by omega
      have hz4a := unhide HZ4
      have O5 := hide (own_beneath (unhide O4a) g5 (fun g g' h h' => by have := ((unhide O4a).lt g h).1; simp at h'; omega))
      have HR5 := hide ((unhide HR4a).beside g5 (fun _ b off e => by simp at e; omega))
      have G5 := grown_trans G4a g5
      have hz5 := g5.size
      have hblk := (g5.block w4.heap.size (by omega) (by simp; omega)).trans (unhide HB4)
      obtain ⟨u, hu0, hu1, hcell⟩ : ∃ u, 0 ≤ u ∧ u ≤ 255 ∧ w5.cell? ⟨w4.heap.size, i, none⟩ = some (.int .u8 u) := by
        have h5 : i = 0 ∨ i = 1 ∨ i = 2 ∨ i = 3 ∨ i = 4 := by omega
        rcases h5 with rfl | rfl | rfl | rfl | rfl
        · exact ⟨255, by omega, by omega, by rw [cell_of_row w5 _ 0 _ _ (0, 0) hblk]; rfl⟩
        · exact ⟨0, by omega, by omega, by rw [cell_of_row w5 _ 1 _ _ (0, 0) hblk]; rfl⟩
        · exact ⟨254, by omega, by omega, by rw [cell_of_row w5 _ 2 _ _ (0, 0) hblk]; rfl⟩
        · exact ⟨240, by omega, by omega, by rw [cell_of_row w5 _ 3 _ _ (0, 0) hblk]; rfl⟩
        · exact ⟨a, by omega, by omega, by rw [cell_of_row w5 _ 4 _ _ (0, 0) hblk]; rfl⟩
      clear g5 hblk HB4 c4a O4a HR4a G4a
      go_wp2_with (at_builtin; refine wpList_append_own _ rfl _ _ 22 rfl w1.heap.size 5 i0 (.int .u8 0) 1 1 Try.underlying22 hi hiz0 hiz1 hiz2 rfl (by decide) (.slice so2 k sc2) k ((bs.take k).map (Value.int .u8)) rfl ((unhide O5).alloc _) ⟨w5.heap.size, 0, none⟩ 1 1 [.int .u8 u] rfl rfl (cell_one_new _ _ _) (by intro q hq; simp at hq; subst hq; rfl) (by unfold maxLen; omega) (by omega) (by simp; omega) ?_)
      intro v6 w6 hown6 hgrow6 _
      have hv6 : ∀ g, (Value.slice so2 k sc2).ownBlock = some g → w1.heap.size ≤ g := fun g e => ((unhide O5).lt g e).1
      have OW := hide (own_as hown6 (n' := k + 1) (xs' := (bs.take k ++ [u]).map (Value.int .u8)) rfl (by simp))
      obtain ⟨so, sc, hv⟩ := own_form (unhide OW)
      subst hv
      have cW := (c5.grown (World.grownBy_alloc w5 (.cells #[.int .u8 u] 5) none)).beside hgrow6 (fun g e => by
        have := hv6 g e
        exact ⟨by omega, fun h b off e' => by have := unhide HC h b off e'; omega⟩)
      have HRW := hide (((unhide HR5).grown (World.grownBy_alloc w5 (.cells #[.int .u8 u] 5) none)).aside hgrow6 (fun _ b off e g hg => by simp at e; have := hv6 g hg; omega))
      have GW := grown_tb (grown_tb G5 (World.grownBy_alloc w5 (.cells #[.int .u8 u] 5) none) (fun g e => by simp at e)) hgrow6 (fun g e => by have := hv6 g e; omega)
      have hz6 : w5.heap.size ≤ w6.heap.size := Nat.le_trans (by simp) hgrow6.size
      have HACC : Hid (∀ x ∈ bs.take k ++ [u], 0 ≤ x ∧ x ≤ 255) := bytes_push (fun x hx => unhide HBY x (List.mem_of_mem_take hx)) ⟨hu0, hu1⟩
      have hlt1 : (bs.take k).length = k := by rw [List.length_take]; omega
      clear hown6 hgrow6 c5 O5 HR5 G5 hcell
      have HTL : Hid (∀ x ∈ bs.drop k, 0 ≤ x ∧ x ≤ 255) := fun x hx => unhide HBY x (List.mem_of_mem_drop hx)
      have hck : ¬ c = k := by omega
      have HRT := hide (rd_tail (unhide HRW) k (by omega) gb 0 rfl)
      rw [Nat.zero_add] at HRT
      go_wp2_with (at_builtin; refine append_rd rfl _ _ rfl w1.heap.size (.slice so (k + 1) sc) ((k + 1)) ((bs.take k ++ [u]).map (Value.int .u8)) rfl (unhide OW) (some ⟨gb, k, none⟩) (m - k) (c - k) (bs.drop k) rfl (unhide HRT) (by simp) (by omega) (by omega) ?_)
      intro v9 w9 hown9 hgrow9
      have hv9 : ∀ g, (Value.slice so ((k + 1)) sc).ownBlock = some g → w1.heap.size ≤ g := fun g e => ((unhide OW).lt g e).1
      have O9 := hide (own_as hown9 (n' := ((bs.take k ++ [u]) ++ (bs.drop k)).length) (xs' := ((bs.take k ++ [u]) ++ (bs.drop k)).map (Value.int .u8)) (by simp; omega) (by simp))
      have c9 := cW.beside hgrow9 (fun g e => by
        have := hv9 g e
        exact ⟨by omega, fun h b off e' => by have := unhide HC h b off e'; omega⟩)
      have G9 := grown_tb GW hgrow9 (fun g e => by have := hv9 g e; omega)
      obtain ⟨ro, rc, rfl⟩ := own_form (unhide O9)
      clear hown9 hgrow9
      go_wp2
      go_ret
      exact ⟨_, ro, rc, p5, rfl, by simp; omega, bytes_app (unhide HACC) (unhide HTL), own_base (unhide O9) (by omega), c9, by omega, G9⟩
    · go_wp2_with fail
      refine (pick_of tb ao n cap p3 256 zs w3 c3 (by omega) (by omega) (by omega)).mono ?_
      rintro e w4 ⟨a, p4, rfl, ha0, ha1, c4, hp4, g4⟩
      have O4 := hide (own_beneath (unhide O3) g4 (fun g g' h h' => by have := ((unhide O3).lt g h).1; simp at h'; omega))
      have HR4 := hide ((unhide HR3).beside g4 (fun _ b off e => by simp at e; omega))
      have G4 := grown_trans G3 g4
      have hz4 := g4.size
      have HB4 := hide (heap_alloc_new w4 (.cells #[.int .u8 255, .int .u8 0, .int .u8 254, .int .u8 248, .int .u8 a] 5))
      have c4a := c4.grown (World.grownBy_alloc w4 (.cells #[.int .u8 255, .int .u8 0, .int .u8 254, .int .u8 248, .int .u8 a] 5) none)
      have O4a := hide ((unhide O4).alloc (.cells #[.int .u8 255, .int .u8 0, .int .u8 254, .int .u8 248, .int .u8 a] 5))
      have HR4a := hide ((unhide HR4).grown (World.grownBy_alloc w4 (.cells #[.int .u8 255, .int .u8 0, .int .u8 254, .int .u8 248, .int .u8 a] 5) none))
      have G4a := grown_trans G4 (World.grownBy_alloc w4 (.cells #[.int .u8 255, .int .u8 0, .int .u8 254, .int .u8 248, .int .u8 a] 5) (some tb))
      have HZ4 : Hid ((w4.alloc (.cells #[.int .u8 255, .int .u8 0, .int .u8 254, .int .u8 248, .int .u8 a] 5)).heap.size = w4.heap.size + 1) := by unfold Hid; simp
      clear c3 O3 HR3 G3 g4 O4 HR4 G4 c4
      go_wp2_with fail
      generalize (w4.alloc (.cells #[.int .u8 255, .int .u8 0, .int .u8 254, .int .u8 248, .int .u8 a] 5)) = w4a at *
      refine (pick_of tb ao n cap p4 5 zs w4a c4a (by omega) (by omega) (by omega)).mono ?_
      rintro e w5 ⟨x3, p5, rfl, hi0', hi1', c5, hp5, g5⟩
      obtain ⟨i, rfl⟩ := Int.eq_ofNat_of_zero_le hi0'
      have hi5 : i < 5 := by omega
      have hz4a := unhide HZ4
      have O5 := hide (own_beneath (unhide O4a) g5 (fun g g' h h' => by have := ((unhide O4a).lt g h).1; simp at h'; omega))
      have HR5 := hide ((unhide HR4a).beside g5 (fun _ b off e => by simp at e; omega))
      have G5 := grown_trans G4a g5
      have hz5 := g5.size
      have hblk := (g5.block w4.heap.size (by omega) (by simp; omega)).trans (unhide HB4)
      obtain ⟨u, hu0, hu1, hcell⟩ : ∃ u, 0 ≤ u ∧ u ≤ 255 ∧ w5.cell? ⟨w4.heap.size, i, none⟩ = some (.int .u8 u) := by
        have h5 : i = 0 ∨ i = 1 ∨ i = 2 ∨ i = 3 ∨ i = 4 := by omega
        rcases h5 with rfl | rfl | rfl | rfl | rfl
        · exact ⟨255, by omega, by omega, by rw [cell_of_row w5 _ 0 _ _ (0, 0) hblk]; rfl⟩
        · exact ⟨0, by omega, by omega, by rw [cell_of_row w5 _ 1 _ _ (0, 0) hblk]; rfl⟩
        · exact ⟨254, by omega, by omega, by rw [cell_of_row w5 _ 2 _ _ (0, 0) hblk]; rfl⟩
        · exact ⟨248, by omega, by omega, by rw [cell_of_row w5 _ 3 _ _ (0, 0) hblk]; rfl⟩
        · exact ⟨a, by omega, by omega, by rw [cell_of_row w5 _ 4 _ _ (0, 0) hblk]; rfl⟩
      clear g5 hblk HB4 c4a O4a HR4a G4a
      go_wp2_with (at_builtin; refine wpList_append_own _ rfl _ _ 22 rfl w1.heap.size 5 i0 (.int .u8 0) 1 1 Try.underlying22 hi hiz0 hiz1 hiz2 rfl (by decide) (.slice so2 k sc2) k ((bs.take k).map (Value.int .u8)) rfl ((unhide O5).alloc _) ⟨w5.heap.size, 0, none⟩ 1 1 [.int .u8 u] rfl rfl (cell_one_new _ _ _) (by intro q hq; simp at hq; subst hq; rfl) (by unfold maxLen; omega) (by omega) (by simp; omega) ?_)
      intro v6 w6 hown6 hgrow6 _
      have hv6 : ∀ g, (Value.slice so2 k sc2).ownBlock = some g → w1.heap.size ≤ g := fun g e => ((unhide O5).lt g e).1
      have OW := hide (own_as hown6 (n' := k + 1) (xs' := (bs.take k ++ [u]).map (Value.int .u8)) rfl (by simp))
      obtain ⟨so, sc, hv⟩ := own_form (unhide OW)
      subst hv
      have cW := (c5.grown (World.grownBy_alloc w5 (.cells #[.int .u8 u] 5) none)).beside hgrow6 (fun g e => by
        have := hv6 g e
        exact ⟨by omega, fun h b off e' => by have := unhide HC h b off e'; omega⟩)
      have HRW := hide (((unhide HR5).grown (World.grownBy_alloc w5 (.cells #[.int .u8 u] 5) none)).aside hgrow6 (fun _ b off e g hg => by simp at e; have := hv6 g hg; omega))
      have GW := grown_tb (grown_tb G5 (World.grownBy_alloc w5 (.cells #[.int .u8 u] 5) none) (fun g e => by simp at e)) hgrow6 (fun g e => by have := hv6 g e; omega)
      have hz6 : w5.heap.size ≤ w6.heap.size := Nat.le_trans (by simp) hgrow6.size
      have HACC : Hid (∀ x ∈ bs.take k ++ [u], 0 ≤ x ∧ x ≤ 255) := bytes_push (fun x hx => unhide HBY x (List.mem_of_mem_take hx)) ⟨hu0, hu1⟩
      have hlt1 : (bs.take k).length = k := by rw [List.length_take]; omega
      clear hown6 hgrow6 c5 O5 HR5 G5 hcell
      have HTL : Hid (∀ x ∈ bs.drop (k + 1), 0 ≤ x ∧ x ≤ 255) := fun x hx => unhide HBY x (List.mem_of_mem_drop hx)
      have hkw : IntKind.i64.wrap ((k : Int) + 1) = (k : Int) + 1 := i64_in _ (by omega)
      have hkp : (0 : Int) ≤ (k : Int) + 1 := by omega
      by_cases hck : c = k + 1
      · have hmk : m = k + 1 := by omega
        have HE : Hid (bs.drop (k + 1) = []) := List.drop_eq_nil_of_le (by omega)
        have HR0 : Hid (Rd .u8 w6 (some ⟨gb, 0, none⟩) 0 (bs.drop (k + 1))) := by rw [unhide HE]; exact ⟨rfl, fun i hi => absurd hi (by omega)⟩
        have hl0 : (bs.drop (k + 1)).length = 0 := by rw [unhide HE]; rfl
        subst hck
        subst hmk
        go_wp2_with (at_builtin; refine append_rd rfl _ _ rfl w1.heap.size (.slice so (k + 1) sc) ((k + 1)) ((bs.take k ++ [u]).map (Value.int .u8)) rfl (unhide OW) (some ⟨gb, 0, none⟩) 0 0 (bs.drop (k + 1)) rfl (unhide HR0) (by simp) (by omega) (by omega) ?_)
        intro v9 w9 hown9 hgrow9
        have hv9 : ∀ g, (Value.slice so ((k + 1)) sc).ownBlock = some g → w1.heap.size ≤ g := fun g e => ((unhide OW).lt g e).1
        have O9 := hide (own_as hown9 (n' := ((bs.take k ++ [u]) ++ (bs.drop (k + 1))).length) (xs' := ((bs.take k ++ [u]) ++ (bs.drop (k + 1))).map (Value.int .u8)) (by simp; omega) (by simp))
        have c9 := cW.beside hgrow9 (fun g e => by
          have := hv9 g e
          exact ⟨by omega, fun h b off e' => by have := unhide HC h b off e'; omega⟩)
        have G9 := grown_tb GW hgrow9 (fun g e => by have := hv9 g e; omega)
        obtain ⟨ro, rc, rfl⟩ := own_form (unhide O9)
        clear hown9 hgrow9
        go_wp2
        go_ret
        exact ⟨_, ro, rc, p5, rfl, by simp; omega, bytes_app (unhide HACC) (unhide HTL), own_base (unhide O9) (by omega), c9, by omega, G9⟩
      · have HRT := hide (rd_tail (unhide HRW) (k + 1) (by omega) gb 0 rfl)
        rw [Nat.zero_add] at HRT
        go_wp2_with (at_builtin; refine append_rd rfl _ _ rfl w1.heap.size (.slice so (k + 1) sc) ((k + 1)) ((bs.take k ++ [u]).map (Value.int .u8)) rfl (unhide OW) (some ⟨gb, k + 1, none⟩) (m - (k + 1)) (c - (k + 1)) (bs.drop (k + 1)) rfl (unhide HRT) (by simp) (by omega) (by omega) ?_)
        intro v9 w9 hown9 hgrow9
        have hv9 : ∀ g, (Value.slice so ((k + 1)) sc).ownBlock = some g → w1.heap.size ≤ g := fun g e => ((unhide OW).lt g e).1
        have O9 := hide (own_as hown9 (n' := ((bs.take k ++ [u]) ++ (bs.drop (k + 1))).length) (xs' := ((bs.take k ++ [u]) ++ (bs.drop (k + 1))).map (Value.int .u8)) (by simp; omega) (by simp))
        have c9 := cW.beside hgrow9 (fun g e => by
          have := hv9 g e
          exact ⟨by omega, fun h b off e' => by have := unhide HC h b off e'; omega⟩)
        have G9 := grown_tb GW hgrow9 (fun g e => by have := hv9 g e; omega)
        obtain ⟨ro, rc, rfl⟩ := own_form (unhide O9)
        clear hown9 hgrow9
        go_wp2
        go_ret
        exact ⟨_, ro, rc, p5, rfl, by simp; omega, bytes_app (unhide HACC) (unhide HTL), own_base (unhide O9) (by omega), c9, by omega, G9⟩
    · have hlt1 : (bs.take k).length = k := by rw [List.length_take]; omega
      have HACC : Hid (∀ x ∈ bs.take k, 0 ≤ x ∧ x ≤ 255) := fun x hx => unhide HBY x (List.mem_of_mem_take hx)
      have O3' := hide (own_as (unhide O3) (n' := (bs.take k).length) (xs' := (bs.take k).map (Value.int .u8)) hlt1.symm rfl)
      have HL1 := hide hlt1
      clear hlt1
      go_wp2
      go_ret
      exact ⟨bs.take k, so2, sc2, p3, by rw [unhide HL1]; rfl, by rw [unhide HL1]; omega, unhide HACC, by have h := own_base (unhide O3') (show base ≤ w1.heap.size by omega); rw [unhide HL1] at h ⊢; exact h, c3, by omega, G3⟩

end Go.Proofs.Ytoeehfjbnbbijaa
