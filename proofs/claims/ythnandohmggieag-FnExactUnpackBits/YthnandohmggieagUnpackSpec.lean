/-
  The walks of the specification's UnpackBits.
-/
import Derived.Test.YthnandohmggieagUnpack
namespace Go.Proofs.Ythnandohmggieag
open Go.RowKit

/-- The taker of bits, as it lies in memory. -/
def Tk (w : World) (tb : Nat) (ao : Option Addr) (n cap p : Nat) (bad : Bool) : Prop := w.heap[tb]? = some (.cells #[.slice ao n cap, .int .i64 p, .bool bad] 59 (0, 0))

section
variable {w : World} {tb : Nat} {ao : Option Addr} {n cap p : Nat} {bad : Bool}
theorem Tk.c0 (h : Tk w tb ao n cap p bad) : w.cell? ⟨tb, 0, none⟩ = some (.slice ao n cap) := by rw [cell_of_row w tb 0 _ _ (0, 0) h]; rfl
theorem Tk.c1 (h : Tk w tb ao n cap p bad) : w.cell? ⟨tb, 1, none⟩ = some (.int .i64 p) := by rw [cell_of_row w tb 1 _ _ (0, 0) h]; rfl
theorem Tk.c2 (h : Tk w tb ao n cap p bad) : w.cell? ⟨tb, 2, none⟩ = some (.bool bad) := by rw [cell_of_row w tb 2 _ _ (0, 0) h]; rfl
theorem Tk.fz (h : Tk w tb ao n cap p bad) (j : Nat) : w.frozen? ⟨tb, j, none⟩ = false := frozen_of_row w tb j _ _ h
theorem Tk.lt (h : Tk w tb ao n cap p bad) : tb < w.heap.size := by obtain ⟨h, _⟩ := Array.getElem?_eq_some_iff.1 h; exact h
theorem Tk.next (h : Tk w tb ao n cap p bad) (q : Nat) : Tk (w.setCell ⟨tb, 1, none⟩ (.int .i64 q)) tb ao n cap q bad := heap_setCell_same w tb 1 _ _ _ h
theorem Tk.spoil (h : Tk w tb ao n cap p bad) : Tk (w.setCell ⟨tb, 2, none⟩ (.bool true)) tb ao n cap p true := heap_setCell_same w tb 2 _ _ _ h
theorem Tk.grown {w' : World} (h : Tk w tb ao n cap p bad) (hg : w.grownBy w' none) : Tk w' tb ao n cap p bad := (hg.block tb h.lt (by simp)).trans h
end

set_option maxHeartbeats 800000 in
theorem specBit (tb : Nat) (ao : Option Addr) (n cap p : Nat) (bad : Bool) (zs : List Int) (w : World) (ht : Tk w tb ao n cap p bad) (hr : Rd .u8 w ao n zs) (hb : ∀ i, 0 ≤ zs.getD i 0 ∧ zs.getD i 0 ≤ 255) (hn : n ≤ 4194304) (hp : p < 8 * n) :
    Calls Try.prog 33 #[.pointer (some ⟨tb, 0, none⟩)] w fun e w' => e = .returned (.int .i64 (bitAt zs p)) ∧ Tk w' tb ao n cap (p + 1) bad ∧ w.grownBy w' (some tb) := by
  obtain ⟨hl, hc⟩ := hr
  obtain ⟨b, off, rfl, hcb⟩ := hc (p / 8) (by omega)
  have c0 := ht.c0
  have c1 := ht.c1
  have f1 := ht.fz 1
  have hbb := hb (p / 8)
  have HB : Hid (bitAt zs p = (zs.getD (p / 8) 0) / 2 ^ (7 - p % 8) % 2) := rfl
  generalize zs.getD (p / 8) 0 = x at hcb hbb HB
  clear hc hb
  have hge : decide ((8 * n : Int) ≤ (p : Int)) = false := by simp; omega
  go_enter Try.func33, Try.ntmps33
  go_wp2
  go_quiet (fail)
  go_wp2
  go_quiet (fail)
  go_wp2
  go_ret
  have hs := shr_bound x hbb.1 hbb.2 (7 - p % 8)
  refine ⟨ret_int (a := bits BinOp.and IntKind.i64 (x / 2 ^ (7 - p % 8)) 1) ?_, ?_, ?_⟩
  · rw [and1_i64 _ hs.1 (by omega), unhide HB]
  · exact Tk.next (w := w.drewN _) ht (p + 1)
  · exact grown_set' w _ tb 1 _

set_option maxHeartbeats 800000 in
theorem specBitEnd (tb : Nat) (ao : Option Addr) (n cap p : Nat) (bad : Bool) (w : World) (ht : Tk w tb ao n cap p bad) (hn : n ≤ 4194304) (hp : 8 * n ≤ p) :
    Calls Try.prog 33 #[.pointer (some ⟨tb, 0, none⟩)] w fun e w' => e = .returned (.int .i64 0) ∧ Tk w' tb ao n cap p true ∧ w.grownBy w' (some tb) := by
  have c0 := ht.c0
  have c1 := ht.c1
  have c2 := ht.c2
  have f1 := ht.fz 2
  have hge : decide ((8 * n : Int) ≤ (p : Int)) = true := by simp; omega
  go_enter Try.func33, Try.ntmps33
  go_wp2
  go_quiet (fail)
  go_wp2
  go_ret
  exact ⟨rfl, Tk.spoil (w := w.drewN _) ht, grown_set' w _ tb 2 _⟩

set_option maxHeartbeats 800000 in
theorem specNum (tb : Nat) (ao : Option Addr) (n cap p m : Nat) (bad : Bool) (zs : List Int) (w : World) (ht : Tk w tb ao n cap p bad) (hr : Rd .u8 w ao n zs) (hne : 0 < n → ∀ b off, ao = some ⟨b, off, none⟩ → b ≠ tb)
    (hb : ∀ i, 0 ≤ zs.getD i 0 ∧ zs.getD i 0 ≤ 255) (hn : n ≤ 4194304) (hm : m ≤ 16) (hp : p + m ≤ 8 * n) :
    Calls Try.prog 31 #[.pointer (some ⟨tb, 0, none⟩), .int .i64 m] w fun e w' => e = .returned (.int .i64 (numAt zs p m)) ∧ Tk w' tb ao n cap (p + m) bad ∧ w.grownBy w' (some tb) := by
  have HR := hide hr
  have HB := hide hb
  have HNE := hide hne
  have HT := hide ht
  clear hr hb hne ht
  go_enter Try.func31, Try.ntmps31
  go_wp2
  go_loopw [5, 6] (fun v i wr => ∃ k : Nat, k ≤ m ∧ i = .int .i64 k ∧ v = .int .i64 (numAt zs p k) ∧ Tk wr tb ao n cap (p + k) bad ∧ w.grownBy wr (some tb)) (fun _ i _ => m - (intOf i).toNat)
  case atStart => exact ⟨0, Nat.zero_le _, rfl, rfl, unhide HT, World.grownBy.refl _ _⟩
  case round =>
    obtain ⟨k, hk, rfl, rfl, htk, hgk⟩ := hrel
    by_cases hlt : k < m
    · have hs := numAt_small zs p k (by omega)
      have h01 := bitAt_01 zs (p + k)
      have hrk : Rd .u8 wr ao n zs := (unhide HR).beside hgk (unhide HNE)
      have HN : Hid (numAt zs p (k + 1) = 2 * numAt zs p k + bitAt zs (p + k)) := rfl
      go_wp2_with fail
      refine (specBit tb ao n cap (p + k) bad zs wr htk hrk (unhide HB) hn (by omega)).mono ?_
      rintro e w1 ⟨rfl, ht1, g1⟩
      generalize numAt zs p k = s0 at *
      generalize bitAt zs (p + k) = s1 at *
      have hg1 := grown_trans hgk g1
      clear htk hgk g1 hrk
      go_wp2
      go_roundw
      case rel => exact ⟨k + 1, by omega, by go_num, by rw [unhide HN], ht1, hg1⟩
      case measure => simp [intOf]; omega
    · have hkm : k = m := by omega
      subst hkm
      go_wp2
      go_ret
      exact ⟨rfl, htk, hgk⟩

set_option maxHeartbeats 800000 in
theorem specNumBad (tb : Nat) (ao : Option Addr) (n cap p m : Nat) (bad : Bool) (zs : List Int) (w : World) (ht : Tk w tb ao n cap p bad) (hr : Rd .u8 w ao n zs) (hne : 0 < n → ∀ b off, ao = some ⟨b, off, none⟩ → b ≠ tb)
    (hb : ∀ i, 0 ≤ zs.getD i 0 ∧ zs.getD i 0 ≤ 255) (hn : n ≤ 4194304) (hm : m ≤ 16) (hp0 : p ≤ 8 * n) (hp : 8 * n < p + m) :
    Calls Try.prog 31 #[.pointer (some ⟨tb, 0, none⟩), .int .i64 m] w fun e w' => ∃ (s : Int) (p' : Nat), e = .returned (.int .i64 s) ∧ Tk w' tb ao n cap p' true ∧ w.grownBy w' (some tb) := by
  have HR := hide hr
  have HB := hide hb
  have HNE := hide hne
  have HT := hide ht
  clear hr hb hne ht
  go_enter Try.func31, Try.ntmps31
  go_wp2
  go_loopw [5, 6] (fun v i wr => ∃ (k p' : Nat) (bad' : Bool) (s : Int), k ≤ m ∧ i = .int .i64 k ∧ v = .int .i64 s ∧ 0 ≤ s ∧ s < 2 ^ k ∧ Tk wr tb ao n cap p' bad' ∧ p' ≤ 8 * n ∧ (bad' = true ∨ p' = p + k) ∧ w.grownBy wr (some tb)) (fun _ i _ => m - (intOf i).toNat)
  case atStart => exact ⟨0, p, bad, 0, Nat.zero_le _, rfl, rfl, by omega, by simp, unhide HT, hp0, .inr rfl, World.grownBy.refl _ _⟩
  case round =>
    obtain ⟨k, p', bad', s, hk, rfl, rfl, hs0, hs1, htk, hp', hor, hgk⟩ := hrel
    have hpw := (pow_small k (by omega)).2
    rw [Int.toNat_natCast] at hpw
    have e2 : (2 : Int) ^ (k + 1) = 2 * 2 ^ k := by rw [Int.pow_succ]; omega
    have HE := hide e2
    have hs2 : s < 65536 := by omega
    have HS1 := hide hs1
    have HOR := hide hor
    clear e2 hs1 hor hpw
    by_cases hlt : k < m
    · have hrk : Rd .u8 wr ao n zs := (unhide HR).beside hgk (unhide HNE)
      by_cases hpe : p' < 8 * n
      · have h01 := bitAt_01 zs p'
        go_wp2_with fail
        refine (specBit tb ao n cap p' bad' zs wr htk hrk (unhide HB) hn hpe).mono ?_
        rintro e w1 ⟨rfl, ht1, g1⟩
        generalize bitAt zs p' = s1 at *
        have hg1 := grown_trans hgk g1
        clear htk hgk g1 hrk
        go_wp2
        go_roundw
        case rel => exact ⟨k + 1, p' + 1, bad', _, by omega, by go_num, rfl, by omega, by rw [unhide HE]; have := unhide HS1; omega, ht1, by omega, (unhide HOR).elim .inl (fun h => .inr (by omega)), hg1⟩
        case measure => simp [intOf]; omega
      · go_wp2_with fail
        refine (specBitEnd tb ao n cap p' bad' wr htk hn (by omega)).mono ?_
        rintro e w1 ⟨rfl, ht1, g1⟩
        have hg1 := grown_trans hgk g1
        clear htk hgk g1 hrk
        go_wp2
        go_roundw
        case rel => exact ⟨k + 1, p', true, _, by omega, by go_num, rfl, by omega, by rw [unhide HE]; have := unhide HS1; omega, ht1, by omega, .inl rfl, hg1⟩
        case measure => simp [intOf]; omega
    · have hkm : k = m := by omega
      subst hkm
      have hbt : bad' = true := by
        rcases unhide HOR with h | h
        · exact h
        · omega
      subst hbt
      go_wp2
      go_ret
      exact ⟨⟨s, rfl⟩, ⟨p', htk⟩, hgk⟩

set_option maxHeartbeats 1600000 in
theorem specUnpack (ao bo : Option Addr) (n m cap cap' : Nat) (zs xs : List Int) (w : World) (hr : Rd .u8 w ao n zs) (hx : Rd .i64 w bo m xs) (hb : ∀ i, 0 ≤ zs.getD i 0 ∧ zs.getD i 0 ≤ 255) (hn : n ≤ 4194304) (hm : m ≤ 4194304) :
    Calls Try.prog 17 #[.slice ao n cap, .slice bo m cap'] w fun e w' => ∃ co cc, e = .returned (.tuple #[.slice co (unpL zs xs).length cc, .bool (unpB zs xs)]) ∧
      w'.ownsRow w.heap.size 3 1 (.slice co (unpL zs xs).length cc) (unpL zs xs).length ((unpL zs xs).map (Value.int .i64)) ∧ w.grownBy w' none := by
  obtain ⟨i0, hi, hz0, hz1, hz2⟩ := info_parts Try.info3
  have HR := hide hr
  have HB := hide hb
  have HLT := hide hr.lt
  obtain ⟨hlx, hcx⟩ := hx
  have hlz : Hid (zs.length = n) := hr.1
  clear hr hb
  have t0 : Tk ((w.alloc (.cells #[.slice ao n cap, .int .i64 0, .bool false] 59)).alloc (.cells #[] 3)) w.heap.size ao n cap 0 false := by
    unfold Tk; rw [Below.heap_alloc _ _ _ (by simp)]; exact heap_alloc_new w _
  have o0 : ((w.alloc (.cells #[.slice ao n cap, .int .i64 0, .bool false] 59)).alloc (.cells #[] 3)).ownsRow (w.heap.size + 1) 3 1 (.slice (some ⟨w.heap.size + 1, 0, none⟩) 0 0) 0 [] := by
    have h := World.ownsRow_lit (base := w.heap.size + 1) (e := 3) (size := 1) (w.alloc (.cells #[.slice ao n cap, .int .i64 0, .bool false] 59)) #[] 0 (by simp) (by unfold maxLen; omega) rfl
    simpa using h
  have g0 : w.grownBy ((w.alloc (.cells #[.slice ao n cap, .int .i64 0, .bool false] 59)).alloc (.cells #[] 3)) none := grown_alloc (grown_alloc (World.grownBy.refl _ _) _) _
  go_enter Try.func17, Try.ntmps17
  go_wp2
  go_loopw [7, 8] (fun v i wr => ∃ (acc : List Int) (k p : Nat), k ≤ m ∧ acc.length = k ∧ i = .int .i64 k ∧ p ≤ 8 * n ∧ Un zs xs acc p k ∧ Tk wr w.heap.size ao n cap p false ∧ wr.ownsRow (w.heap.size + 1) 3 1 v acc.length (acc.map (Value.int .i64)) ∧ w.grownBy wr none) (fun _ i _ => m - (intOf i).toNat)
  case atStart => exact ⟨[], 0, 0, Nat.zero_le _, rfl, rfl, Nat.zero_le _, un_zero zs xs, t0, o0, g0⟩
  case round =>
    obtain ⟨acc, k, p, hk, hak, rfl, hp, hun, htk, hok, hgk⟩ := hrel
    clear t0 o0 g0
    by_cases hlt : k < m
    · obtain ⟨b, off, rfl, hcb⟩ := hcx k hlt
      have hcell := hgk.cell hcb (by simp)
      have HS := hide (un_step hun (by omega))
      have HN := hide (un_bad hun (by omega))
      rw [unhide hlz] at HS HN
      clear hun hcx hcb
      generalize xs.getD k 0 = l at hcell HS HN
      by_cases hl : 0 ≤ l ∧ l ≤ 16
      · obtain ⟨lm, rfl⟩ := Int.eq_ofNat_of_zero_le hl.1
        have hlm : lm ≤ 16 := by omega
        have HL := hide hl
        have hbt : Hid (decide (0 ≤ (lm : Int) ∧ (lm : Int) ≤ 16) = true) := decide_eq_true hl
        rw [Int.toNat_natCast] at HS HN
        clear hl
        have hrk : Rd .u8 wr ao n zs := (unhide HR).grown hgk
        have hne : 0 < n → ∀ b off, ao = some ⟨b, off, none⟩ → b ≠ w.heap.size := fun h b off e => by have := unhide HLT h b off e; omega
        by_cases hfit : p + lm ≤ 8 * n
        · have hs := numAt_small zs p lm hlm
          go_wp2_with fail
          refine (between lm 0 16 true hbt _).mono ?_
          rintro e w1 ⟨rfl, rfl⟩
          go_wp2_with fail
          refine (specNum w.heap.size ao n cap p lm false zs w1 htk hrk hne (unhide HB) hn hlm hfit).mono ?_
          rintro e w2 ⟨rfl, t2, g2⟩
          have hg2 := grown_new hgk g2 (fun g e => by simp at e; omega)
          have ho2 := own_beneath hok g2 (fun g g' h h' => by have := (hok.lt g h).1; simp at h'; omega)
          have c2 := t2.c2
          generalize hnum : numAt zs p lm = x at *
          have HNUM := hide hnum
          clear hnum g2 htk hok hgk hrk hne hcell
          go_wp2_with (at_builtin; refine wpList_append_own _ rfl _ _ 34 rfl (w.heap.size + 1) 3 i0 (.int .i64 0) 1 8 Try.underlying34 hi hz0 hz1 hz2 rfl (by decide) _ _ _ rfl (ho2.alloc _) ⟨w2.heap.size, 0, none⟩ 1 1 [.int .i64 x] rfl rfl (cell_one_new _ _ _) ?d2 ?d3 ?d4 ?d5 ?_)
          case d2 => first | rfl | (intro u hu; simp at hu; subst hu; rfl)
          case d3 => unfold maxLen; omega
          case d4 => omega
          case d5 => have := t2.lt; simp; omega
          intro v' w3 hown' hgrow _
          have hg3 := grown_new (grown_alloc hg2 _) hgrow (fun g e => by have := (ho2.lt g e).1; omega)
          have t3 : Tk w3 w.heap.size ao n cap (p + lm) false :=
            (hgrow.block w.heap.size (by have := t2.lt; simp; omega) (fun e => by have := (ho2.lt _ e.symm).1; omega)).trans ((Below.heap_alloc _ _ _ t2.lt).trans t2)
          have hR : w3.ownsRow (w.heap.size + 1) 3 1 v' (acc ++ [x]).length ((acc ++ [x]).map (Value.int .i64)) := by
            rw [List.length_append, List.map_append, hak]; exact hown'
          clear hown' hgrow ho2 hg2 t2 c2
          go_wp2
          go_roundw
          case rel => exact ⟨acc ++ [x], k + 1, p + lm, by omega, by simp; omega, by go_num, hfit, unhide HS (unhide HL) hfit, t3, hR, hg3⟩
          case measure => simp [intOf]; omega
        · have hnone := unhide HN (fun h => hfit h.2)
          have HL1 : Hid (unpL zs xs = []) := by unfold Hid unpL; rw [hnone]; rfl
          have HL2 : Hid (unpB zs xs = false) := by unfold Hid unpB; rw [hnone]; rfl
          clear hnone HS HN
          go_wp2_with fail
          refine (between lm 0 16 true hbt _).mono ?_
          rintro e w1 ⟨rfl, rfl⟩
          go_wp2_with fail
          refine (specNumBad w.heap.size ao n cap p lm false zs w1 htk hrk hne (unhide HB) hn hlm hp (by omega)).mono ?_
          rintro e w2 ⟨x, p', rfl, t2, g2⟩
          have hg2 := grown_new hgk g2 (fun g e => by simp at e; omega)
          have c2 := t2.c2
          clear g2 htk hok hgk hrk hne hcell
          go_wp2
          go_ret2
          exact ⟨some ⟨w2.heap.size, 0, none⟩, 0, by rw [unhide HL1, unhide HL2]; rfl, by rw [unhide HL1]; exact World.ownsRow_lit w2 #[] 0 hg2.size (by unfold maxLen; omega) rfl, grown_alloc hg2 _⟩
      · have hnone := unhide HN (fun h => hl h.1)
        have HL1 : Hid (unpL zs xs = []) := by unfold Hid unpL; rw [hnone]; rfl
        have HL2 : Hid (unpB zs xs = false) := by unfold Hid unpB; rw [hnone]; rfl
        have hbt : Hid (decide (0 ≤ l ∧ l ≤ 16) = false) := decide_eq_false hl
        clear hnone HS HN hl
        go_wp2_with fail
        refine (between l 0 16 false hbt _).mono ?_
        rintro e w1 ⟨rfl, rfl⟩
        go_wp2
        go_ret2
        exact ⟨some ⟨w1.heap.size, 0, none⟩, 0, by rw [unhide HL1, unhide HL2]; rfl, by rw [unhide HL1]; exact World.ownsRow_lit w1 #[] 0 hgk.size (by unfold maxLen; omega) rfl, grown_alloc hgk _⟩
    · have hkm : k = m := by omega
      subst hkm
      rw [← hlx] at hun
      have hend := un_end hun
      have HL1 : Hid (unpL zs xs = acc) := by unfold Hid unpL; rw [hend]; rfl
      have HL2 : Hid (unpB zs xs = true) := by unfold Hid unpB; rw [hend]; rfl
      obtain ⟨co, cc, rfl⟩ := own_form hok
      clear hend hun hcx
      go_wp2
      go_ret2
      exact ⟨co, cc, by rw [unhide HL1, unhide HL2]; rfl, by rw [unhide HL1]; exact own_base hok (by omega), hgk⟩

end Go.Proofs.Ythnandohmggieag
