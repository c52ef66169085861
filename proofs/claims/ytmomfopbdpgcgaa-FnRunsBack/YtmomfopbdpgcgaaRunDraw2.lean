/-
  Lists of numbers that are drawn for runs.
-/
import Derived.Test.YtmomfopbdpgcgaaBlockDraw
import Derived.Maps.AppendAt
namespace Go.Proofs.Ytmomfopbdpgcgaa
open Go.RowKit

set_option maxRecDepth 20000 in
set_option maxHeartbeats 1600000 in
theorem drawList (tb : Nat) (ao : Option Addr) (n cap p : Nat) (zs : List Int) (w : World) (h : Cur w tb ao n cap zs p) (hp : p ≤ 1000000) (hcode : 0 < n → ∀ b off, ao = some ⟨b, off, none⟩ → b < w.heap.size) :
    Calls Try.prog 40 #[.pointer (some ⟨tb, 0, none⟩)] w fun e w' => ∃ (v : Value) (ys : List Int) (q : Nat), e = .returned v ∧ ys.length ≤ 64 ∧ w'.ownsRow w.heap.size 3 1 v ys.length (ys.map (Value.int .i64)) ∧ Cur w' tb ao n cap zs q ∧ q ≤ p + 600 ∧ w.grownBy w' (some tb) := by
  have hlt := h.lt
  have HAL := hide hcode
  have H := hide h
  clear h hcode
  obtain ⟨i0, hi, hz0, hz1, hz2⟩ := info_parts info_bd
  go_enter Try.func40, Try.ntmps40
  go_wp2_with fail
  refine (drawBlock tb ao n cap p zs w (unhide H) hp 300 (by omega)).mono ?_
  rintro e w1 ⟨v, rfl, ⟨xs, o1⟩, ⟨q1, hq1, c1⟩, g1⟩
  obtain ⟨so, sc, rfl⟩ := own_form o1
  obtain ⟨g, rfl, _, _⟩ := own_at o1 (by omega)
  have hcap : 64 ≤ sc := own_cap o1
  have hg0 := (o1.lt g rfl).1
  have HNT : Hid (∀ g', w.heap.size ≤ g' → g' ≠ tb ∧ (0 < n → ∀ b off, ao = some ⟨b, off, none⟩ → b ≠ g')) := fun g' hg' => ⟨by omega, fun h0 b off e => by have := unhide HAL h0 b off e; omega⟩
  have O1 := hide o1
  have C1 := hide c1
  have G1 := hide g1
  clear o1 c1 g1 H
  go_wp2_with fail
  refine (pick_of tb ao n cap q1 65 zs w1 (unhide C1) (by omega) (by omega) (by omega)).mono ?_
  rintro e w2 ⟨x, q2, rfl, hx0, hx1, c2, hq2, g2⟩
  obtain ⟨k, rfl⟩ := Int.eq_ofNat_of_zero_le hx0
  have hk : k ≤ 64 := by omega
  have hks : k ≤ sc := by omega
  have hksI : (k : Int) ≤ (sc : Int) := by omega
  have O2 := hide (own_beneath (unhide O1) g2 (fun a b e1 e2 => by have := ((unhide O1).lt a e1).1; simp at e2; omega))
  have C2 := hide c2
  have G2 := hide (grown_trans (unhide G1) g2)
  clear c2 g2 O1 C1 G1 hx0 hx1
  go_wp2_with fail
  refine (once_of tb ao n cap q2 3 zs w2 (unhide C2) (by omega) (by omega) (by omega)).mono ?_
  rintro e w3 ⟨t, q3, rfl, c3, hq3, g3⟩
  have O3 := hide (own_beneath (unhide O2) g3 (fun a b e1 e2 => by have := ((unhide O2).lt a e1).1; simp at e2; omega))
  have C3 := hide c3
  have G3 := hide (grown_trans (unhide G2) g3)
  clear c3 g3 O2 C2 G2
  cases t with
  | false =>
    have O4 := O3
    have C4 := C3
    have G4 := G3
    obtain ⟨q4, hq4⟩ : ∃ q4, q3 = q4 := ⟨_, rfl⟩
    rw [hq4] at C4
    obtain ⟨xs', hxs⟩ : ∃ xs', xs = xs' := ⟨_, rfl⟩
    rw [hxs] at O4
    have hxl : xs'.length = 64 := by have := (unhide O4).1; simpa using this
    have HE : Hid ((w3.alloc (.cells #[] 3)).ownsRow w.heap.size 3 1 (.slice (some ⟨w3.heap.size, 0, none⟩) 0 0) 0 []) := own_base (World.ownsRow_lit w3 #[] 0 (Nat.le_refl _) (by unfold maxLen; omega) rfl) (unhide G4).size
    have HL : Hid (((xs'.take k).map (Value.int .i64)).length = k * 1) := by unfold Hid; rw [List.length_map, List.length_take]; omega
    have HN : Hid (∀ j u, ((xs'.take k).map (Value.int .i64))[j]? = some u → (w3.alloc (.cells #[] 3)).cell? ((⟨g, 0, none⟩ : Addr).add j) = some u) := fun j u hu => by
      have hj : j < k := by
        obtain ⟨h1, _⟩ := List.getElem?_eq_some_iff.1 hu
        have := unhide HL
        omega
      have h2 := ((unhide O4).alloc (.cells #[] 3)).cellAt j (by omega)
      rw [List.map_take, List.getElem?_take_of_lt hj] at hu
      rw [Addr.add_lit, Nat.zero_add, h2]
      exact hu
    go_wp2_with (at_builtin; refine wpList_append_own_at _ rfl _ _ 27 rfl w.heap.size 3 i0 (.int .i64 0) 1 8 Try.underlying27 hi hz0 hz1 hz2 rfl (by decide) (.slice (some ⟨w3.heap.size, 0, none⟩) 0 0) 0 [] rfl (unhide HE) ⟨g, 0, none⟩ k sc ((xs'.take k).map (Value.int .i64)) rfl (unhide HL) (unhide HN) (by intro u hu; rw [List.mem_map] at hu; obtain ⟨a, _, rfl⟩ := hu; rfl) (by unfold maxLen; omega) (by omega) (by have := (unhide G4).size; simp; omega) ?_; intro v' w5 h1 h2 _ _)
    have HF : Hid (w5.ownsRow w.heap.size 3 1 v' (xs'.take k).length ((xs'.take k).map (Value.int .i64)) ∧ Cur w5 tb ao n cap zs q4 ∧ w.grownBy w5 (some tb)) := by
      have hge : ∀ g', (Value.slice (some ⟨w3.heap.size, 0, none⟩) 0 0).ownBlock = some g' → w.heap.size ≤ g' := fun g' e => ((unhide HE).lt g' e).1
      refine ⟨?_, ((unhide C4).grown (World.grownBy_alloc _ _ _)).beside h2 (fun g' e => unhide HNT g' (hge g' e)), grown_newR (grown_trans (unhide G4) (World.grownBy_alloc _ _ _)) h2 hge⟩
      have e : (xs'.take k).length = 0 + k := by rw [List.length_take]; omega
      rw [e]
      exact h1
    have hlen : (xs'.take k).length ≤ 64 := by rw [List.length_take]; omega
    clear h1 h2 HE HL HN
    go_wp2
    go_ret
    exact ⟨_, xs'.take k, q4, rfl, hlen, (unhide HF).1, (unhide HF).2.1, by omega, (unhide HF).2.2⟩
  | true =>
    go_wp2_with fail
    refine (pick_of tb ao n cap q3 20 zs w3 (unhide C3) (by omega) (by omega) (by omega)).mono ?_
    rintro e w4 ⟨y, q4, rfl, hy0, hy1, c4, hq4, g4⟩
    obtain ⟨yn, rfl⟩ := Int.eq_ofNat_of_zero_le hy0
    have O4 := hide (own_beneath (unhide O3) g4 (fun a b e1 e2 => by have := ((unhide O3).lt a e1).1; simp at e2; omega))
    have C4 := hide c4
    have G4 := hide (grown_trans (unhide G3) g4)
    clear c4 g4 O3 C3 G3
    go_wp2
    go_loopw [5] (fun i wr => ∃ (a : Nat) (xs' : List Int), a ≤ 64 ∧ i = .int .i64 a ∧ Hid (wr.ownsRow w.heap.size 3 1 (.slice (some ⟨g, 0, none⟩) 64 sc) 64 (xs'.map (Value.int .i64))) ∧ Hid (Cur wr tb ao n cap zs q4) ∧ Hid (w.grownBy wr (some tb))) (fun i _ => k - (intOf i).toNat)
    case atStart => exact ⟨yn, xs, by omega, rfl, O4, C4, G4⟩
    case round =>
      clear O4 C4 G4
      obtain ⟨a, xs', ha, rfl, O4, C4, G4⟩ := hrel
      by_cases hlt2 : a < k
      · have hold : ∃ v, wr.cell? ⟨g, a, none⟩ = some v := by rw [(unhide O4).cellAt a (by omega)]; exact ⟨_, List.getElem?_eq_getElem (by rw [(unhide O4).1]; omega)⟩
        obtain ⟨v, hv⟩ := hold
        have hfr := (unhide O4).frozenAt a
        have st := (unhide O4).stored a (.int .i64 0)
        have HST : Hid ((wr.setCell ⟨g, a, none⟩ (.int .i64 0)).ownsRow w.heap.size 3 1 (.slice (some ⟨g, 0, none⟩) 64 sc) 64 ((xs'.set a 0).map (Value.int .i64)) ∧ Cur (wr.setCell ⟨g, a, none⟩ (.int .i64 0)) tb ao n cap zs q4 ∧ w.grownBy (wr.setCell ⟨g, a, none⟩ (.int .i64 0)) (some tb)) := by
          rw [List.map_set]
          exact ⟨st.1, (unhide C4).beside st.2 (fun g' e => unhide HNT g' (by simp at e; omega)), grown_newR (unhide G4) st.2 (fun g' e => by simp at e; omega)⟩
        have hakI : (a : Int) < (k : Int) := by omega
        clear st O4 C4 G4
        go_wp2
        go_roundw
        case rel => exact ⟨a + 1, xs'.set a 0, by omega, by go_num, (unhide HST).1, (unhide HST).2.1, (unhide HST).2.2⟩
        case measure => simp [intOf]; omega
      · have hxl : xs'.length = 64 := by have := (unhide O4).1; simpa using this
        have HE : Hid ((wr.alloc (.cells #[] 3)).ownsRow w.heap.size 3 1 (.slice (some ⟨wr.heap.size, 0, none⟩) 0 0) 0 []) := own_base (World.ownsRow_lit wr #[] 0 (Nat.le_refl _) (by unfold maxLen; omega) rfl) (unhide G4).size
        have HL : Hid (((xs'.take k).map (Value.int .i64)).length = k * 1) := by unfold Hid; rw [List.length_map, List.length_take]; omega
        have HN : Hid (∀ j u, ((xs'.take k).map (Value.int .i64))[j]? = some u → (wr.alloc (.cells #[] 3)).cell? ((⟨g, 0, none⟩ : Addr).add j) = some u) := fun j u hu => by
          have hj : j < k := by
            obtain ⟨h1, _⟩ := List.getElem?_eq_some_iff.1 hu
            have := unhide HL
            omega
          have h2 := ((unhide O4).alloc (.cells #[] 3)).cellAt j (by omega)
          rw [List.map_take, List.getElem?_take_of_lt hj] at hu
          rw [Addr.add_lit, Nat.zero_add, h2]
          exact hu
        go_wp2_with (at_builtin; refine wpList_append_own_at _ rfl _ _ 27 rfl w.heap.size 3 i0 (.int .i64 0) 1 8 Try.underlying27 hi hz0 hz1 hz2 rfl (by decide) (.slice (some ⟨wr.heap.size, 0, none⟩) 0 0) 0 [] rfl (unhide HE) ⟨g, 0, none⟩ k sc ((xs'.take k).map (Value.int .i64)) rfl (unhide HL) (unhide HN) (by intro u hu; rw [List.mem_map] at hu; obtain ⟨a, _, rfl⟩ := hu; rfl) (by unfold maxLen; omega) (by omega) (by have := (unhide G4).size; simp; omega) ?_; intro v' w5 h1 h2 _ _)
        have HF : Hid (w5.ownsRow w.heap.size 3 1 v' (xs'.take k).length ((xs'.take k).map (Value.int .i64)) ∧ Cur w5 tb ao n cap zs q4 ∧ w.grownBy w5 (some tb)) := by
          have hge : ∀ g', (Value.slice (some ⟨wr.heap.size, 0, none⟩) 0 0).ownBlock = some g' → w.heap.size ≤ g' := fun g' e => ((unhide HE).lt g' e).1
          refine ⟨?_, ((unhide C4).grown (World.grownBy_alloc _ _ _)).beside h2 (fun g' e => unhide HNT g' (hge g' e)), grown_newR (grown_trans (unhide G4) (World.grownBy_alloc _ _ _)) h2 hge⟩
          have e : (xs'.take k).length = 0 + k := by rw [List.length_take]; omega
          rw [e]
          exact h1
        have hlen : (xs'.take k).length ≤ 64 := by rw [List.length_take]; omega
        clear h1 h2 HE HL HN
        go_wp2
        go_ret
        exact ⟨_, xs'.take k, q4, rfl, hlen, (unhide HF).1, (unhide HF).2.1, by omega, (unhide HF).2.2⟩

end Go.Proofs.Ytmomfopbdpgcgaa
