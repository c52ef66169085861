/-
  ToneMake, ToneCopy, ToneTile, RangeOwn, Spots, SpotNum, RangeNew, SpotsNew, AppRowF, RawLast, RangeStop, LoadIn, RawLastIn.
-/
import Derived.Shelf.Abstract
import Derived.RangeFuncNested
import Derived.RangeFuncBound
import Derived.RangeFuncCalls
import Derived.RangeFuncLeaves
import Derived.WalkKit
import Derived.OwnWalkIn
import Derived.TacticsInMore
import Derived.LoopNIn
import Derived.LoopIn
import Derived.Shelf.RegionOpen
import Derived.Laws.OwnMore
import Derived.OrdersIn
import Derived.Test.YtkefpjbdkhifhaaMBc

namespace Go.Proofs.Ytkefpjbdkhifhaa
open Go.RowKit Go.Shelf

set_option maxRecDepth 20000 in
set_option maxHeartbeats 1600000 in
theorem implPlaneOk (ao : Option Addr) (m cap : Nat) (zs : List Int) (w h : Int) (W : World) (hr : Rd .i64 W ao m zs) (hm : m ≤ 9223372036854775807) (b : Bool) (HB : Hid (planeB zs w h = b)) :
    Calls Try.prog 31 #[.slice ao m cap, .int .i64 w, .int .i64 h] W fun e W' => e = .returned (.bool b) ∧ W.grownBy W' none := by
  have HR := hide hr
  clear hr
  go_enter Try.func31, Try.ntmps31
  go_wp2_with fail
  refine (fixTones ao m cap zs w h W (unhide HR) hm b HB).mono ?_
  rintro e w1 ⟨⟨v, rfl, hf⟩, g1⟩
  have HG1 := hide g1
  clear g1
  rcases hf with ⟨rfl, wd, ht, g, n, rfl, rfl, _, rfl, _⟩ | ⟨rfl, a, c, so, sn, sc, rfl, _⟩
  · go_wp2
    go_ret
    exact ⟨rfl, grown_alloc (unhide HG1) _⟩
  · go_wp2
    go_ret
    exact ⟨rfl, grown_alloc (unhide HG1) _⟩

theorem field_grid (a b c : Value) (w : World) : (Instr.field 57 (.agg #[a, b, c]) 0).run Try.prog w = .ok (.agg #[a, b, c]) w := by kernel_rfl
theorem field_things (a b c : Value) (w : World) : (Instr.field 55 (.agg #[a, b, c]) 1).run Try.prog w = .ok c w := by kernel_rfl

/-- A function that makes a plane anew with other sides. -/
def TurnC (F : Nat) (ok : Nat → Nat → Nat → Nat → Prop) (X : List Int → Nat → Nat → Nat → Nat → List Int) : Prop :=
  ∀ (wd ht g n nw nh m : Nat) (L : List Int) (W : World), (1 ≤ wd ∧ wd ≤ 1024) → (1 ≤ ht ∧ ht ≤ 1024) → Hid (wd * ht = n) → n ≤ 131072 → (1 ≤ nw ∧ nw ≤ 1024) → (1 ≤ nh ∧ nh ≤ 1024) → Hid (nw * nh = m) → m ≤ 131072 → ok wd ht nw nh →
    Blk .u16 73 W g L → L.length = n → (∀ x ∈ L, 0 ≤ x ∧ x ≤ 4095) →
    Calls Try.prog F #[.agg #[.int .i64 (wd : Int), .int .i64 (ht : Int), .slice (some ⟨g, 0, none⟩) n n], .agg #[.int .i64 (nw : Int), .int .i64 (nh : Int)]] W fun e W' =>
      ∃ g', e = .returned (.agg #[.int .i64 (nw : Int), .int .i64 (nh : Int), .slice (some ⟨g', 0, none⟩) m m]) ∧ Blk .u16 73 W' g' (X L wd ht nw nh) ∧ W.grownBy W' none

set_option maxRecDepth 20000 in
set_option maxHeartbeats 3200000 in
theorem remade (F : Nat) (ok : Nat → Nat → Nat → Nat → Prop) (X : List Int → Nat → Nat → Nat → Nat → List Int) (hF : TurnC F ok X) (eF : ∀ args w, (callFunc F args).run Try.prog w = .ok (.enter F args) w)
    (ao : Option Addr) (m cap : Nat) (zs : List Int) (w h nw nh : Int) (W : World) (hr : Rd .i64 W ao m zs) (hm : m ≤ 9223372036854775807) (hok : ok w.toNat h.toNat nw.toNat nh.toNat)
    (hX : ∀ (wd ht nw nh : Nat), ok wd ht nw nh → zs.length = wd * ht → 1 ≤ wd → 1 ≤ ht → (∀ x ∈ zs, 0 ≤ x ∧ x ≤ 4095) → (X zs wd ht nw nh).length = nw * nh ∧ ∀ x ∈ X zs wd ht nw nh, 0 ≤ x ∧ x ≤ 4095)
    (L : List Int) (HL : Hid ((if planeB zs w h && sidesB nw nh then X zs w.toNat h.toNat nw.toNat nh.toNat else []) = L)) :
    Calls Try.prog 45 #[.slice ao m cap, .agg #[.int .i64 w, .int .i64 h], .agg #[.int .i64 nw, .int .i64 nh], .func (.func F) #[] #[]] W fun e W' => ∃ so sc, e = .returned (.slice so L.length sc) ∧ W'.ownsRow W.heap.size 3 1 (.slice so L.length sc) L.length (L.map (Value.int .i64)) ∧ W.grownBy W' none := by
  have HX := hide hX
  have HF := hide hF
  have HEF := hide eF
  have HOK := hide hok
  clear hX hF hok eF
  obtain ⟨pb, HP⟩ : ∃ y, Hid (planeB zs w h = y) := ⟨_, rfl⟩
  obtain ⟨sb, HS⟩ : ∃ y, Hid (sidesB nw nh = y) := ⟨_, rfl⟩
  obtain ⟨W0, hW0⟩ : ∃ W0, (W.alloc (.cells #[.int .i64 w, .int .i64 h] 48)).alloc (.cells #[.int .i64 nw, .int .i64 nh] 48) = W0 := ⟨_, rfl⟩
  have HG0 : Hid (W.grownBy W0 none) := by rw [← hW0]; exact grown_alloc (World.grownBy_alloc _ _ _) _
  have b1 : Hid (W0.heap[W.heap.size + 1]? = some (.cells #[.int .i64 nw, .int .i64 nh] 48 (0, 0))) := by
    rw [← hW0]
    have := heap_alloc_new (W.alloc (.cells #[.int .i64 w, .int .i64 h] 48)) (.cells #[.int .i64 nw, .int .i64 nh] 48)
    unfold Hid
    simpa using this
  have HR := hide (hr.grown (unhide HG0))
  have HZ := hide hr.1
  have HW := hide hW0
  clear hW0 hr
  go_enter Try.func45, Try.ntmps45
  go_wp2_with fail
  rw [unhide HW]
  refine (fixTones ao m cap zs w h W0 (unhide HR) hm pb HP).mono ?_
  rintro e w1 ⟨⟨v, rfl, hf⟩, g1⟩
  have b1' := grown_atG g1 (unhide b1) (by simp)
  have k0 : w1.cell? ⟨W.heap.size + 1, 0, none⟩ = some (.int .i64 nw) := by rw [cell_of_row w1 _ 0 _ _ (0, 0) b1']; rfl
  have k1 : w1.cell? ⟨W.heap.size + 1, 1, none⟩ = some (.int .i64 nh) := by rw [cell_of_row w1 _ 1 _ _ (0, 0) b1']; rfl
  have HG1 := hide (grown_trans (unhide HG0) g1)
  have HG1' := hide g1
  clear g1 b1' HW
  rcases hf with ⟨rfl, wd, ht, g, n, rfl, rfl, hn, rfl, hB, hge⟩ | ⟨rfl, a, c, so, sn, sc, rfl, _⟩
  · have hpl := plane_of (unhide HP)
    have hnm : n = m := by
      have h1 := hpl.2.2.1
      rw [unhide HZ, ← Int.natCast_mul, hn] at h1
      omega
    subst hnm
    have HPL := hide hpl
    have HN := hide hn
    have HB := hide hB
    have hbd : (1 ≤ wd ∧ wd ≤ 1024) ∧ (1 ≤ ht ∧ ht ≤ 1024) ∧ n ≤ 131072 := by
      obtain ⟨h1, h2, _, h4, _⟩ := hpl
      rw [← Int.natCast_mul, hn] at h4
      omega
    have hlt : W.heap.size + 1 < w1.heap.size := World.block_lt_of_cell? w1 _ k0
    have GT1 := World.grownBy_alloc w1 (.cells #[.int .i64 (wd : Int), .int .i64 (ht : Int), .slice (some ⟨g, 0, none⟩) n n] 57) none
    have j0 := GT1.cell k0 (by simp)
    have j1 := GT1.cell k1 (by simp)
    clear hpl hn hB hge GT1
    cases sb with
    | false =>
      obtain rfl : L = [] := by rw [← unhide HL, unhide HS]; simp
      go_wp2_with fail
      refine (isPlane nw nh false HS _).mono ?_
      rintro e w2 ⟨rfl, g2⟩
      have HG2 := hide (grown_trans (grown_alloc (unhide HG1) _) g2)
      clear g2
      go_wp2
      go_ret
      exact ⟨none, 0, rfl, ⟨rfl, .inl ⟨rfl, rfl⟩⟩, unhide HG2⟩
    | true =>
      obtain ⟨s1, s2, s3⟩ := sides_of (unhide HS)
      obtain ⟨nwN, rfl⟩ : ∃ k : Nat, nw = (k : Int) := ⟨nw.toNat, by omega⟩
      obtain ⟨nhN, rfl⟩ : ∃ k : Nat, nh = (k : Int) := ⟨nh.toNat, by omega⟩
      obtain ⟨mm, HMM⟩ : ∃ k : Nat, Hid (nwN * nhN = k) := ⟨_, rfl⟩
      have hmm : mm ≤ 131072 := by rw [← Int.natCast_mul, unhide HMM] at s3; omega
      have HLG : Hid (X zs wd ht nwN nhN = L) := by
        unfold Hid
        rw [← unhide HL, unhide HP, unhide HS]
        rfl
      have hok : ok wd ht nwN nhN := by have := unhide HOK; simpa using this
      have hx := unhide HX wd ht nwN nhN hok (by rw [unhide HZ, unhide HN]) hbd.1.1 hbd.2.1.1 (unhide HPL).2.2.2.2
      rw [unhide HLG, unhide HMM] at hx
      have HXX := hide hx
      have HOK' := hide hok
      clear hx hok s3
      go_wp2_with fail
      refine (isPlane (nwN : Int) (nhN : Int) true HS _).mono ?_
      rintro e w2 ⟨rfl, g2⟩
      have GA := grown_trans (World.grownBy_alloc w1 (.cells #[.int .i64 (wd : Int), .int .i64 (ht : Int), .slice (some ⟨g, 0, none⟩) n n] 57) none) g2
      have HB2 := hide ((unhide HB).grown GA)
      have k0' := GA.cell k0 (by simp)
      have k1' := GA.cell k1 (by simp)
      have bt := grown_atG g2 (heap_alloc_new w1 (.cells #[.int .i64 (wd : Int), .int .i64 (ht : Int), .slice (some ⟨g, 0, none⟩) n n] 57)) (by simp)
      have t0 : w2.cell? ⟨w1.heap.size, 0, none⟩ = some (.int .i64 (wd : Int)) := by rw [cell_of_row w2 _ 0 _ _ (0, 0) bt]; rfl
      have t1 : w2.cell? ⟨w1.heap.size, 1, none⟩ = some (.int .i64 (ht : Int)) := by rw [cell_of_row w2 _ 1 _ _ (0, 0) bt]; rfl
      have t2 : w2.cell? ⟨w1.heap.size, 2, none⟩ = some (.slice (some ⟨g, 0, none⟩) n n) := by rw [cell_of_row w2 _ 2 _ _ (0, 0) bt]; rfl
      have HG2 := hide (grown_trans (unhide HG1) GA)
      have eF := unhide HEF
      clear k0 k1 GA bt g2 HB
      go_wp2_with fail
      refine (unhide HF wd ht g n nwN nhN mm zs w2 hbd.1 hbd.2.1 HN hbd.2.2 (by omega) (by omega) HMM hmm (unhide HOK') (unhide HB2) (unhide HZ) (unhide HPL).2.2.2.2).mono ?_
      rintro e w3 ⟨g', rfl, hB3, g3⟩
      rw [unhide HLG] at hB3
      have HB3 := hide hB3
      have HG3 := hide (grown_trans (unhide HG2) g3)
      have fl0 := field_grid (.int .i64 (nwN : Int)) (.int .i64 (nhN : Int)) (.slice (some ⟨g', 0, none⟩) mm mm) w3
      have fl1 := field_things (.int .i64 (nwN : Int)) (.int .i64 (nhN : Int)) (.slice (some ⟨g', 0, none⟩) mm mm) w3
      clear hB3 g3 eF
      go_wp2_with fail
      refine (toneList 73 g' mm L w3 (unhide HB3) (unhide HXX).1 hmm (unhide HXX).2).mono ?_
      rintro e w4 ⟨so, sc, rfl, o4, g4⟩
      have hL := (unhide HXX).1
      rw [← hL] at o4 ⊢
      have HO4 := hide (own_base o4 (unhide HG3).size)
      have HG4 := hide (grown_trans (unhide HG3) g4)
      clear hL o4 g4
      go_wp2
      go_ret
      exact ⟨_, _, rfl, unhide HO4, unhide HG4⟩
  · obtain rfl : L = [] := by rw [← unhide HL, unhide HP]; simp
    go_wp2
    go_ret
    exact ⟨none, 0, rfl, ⟨rfl, .inl ⟨rfl, rfl⟩⟩, grown_alloc (unhide HG1) _⟩

end Go.Proofs.Ytkefpjbdkhifhaa

namespace Go.Proofs.Ytkefpjbdkhifhaa
open Go.RowKit

theorem wp_copyB {P : Program} {o : Oper} {a : Act} {w : World} {K' : Act → World → Prop} {Q : Exit → Act → World → Prop} (d s : Operand) (dT sT : TypeId)
    (ho : o.op = .call { callee := .builtin .copy, args := #[d, s], argTypes := #[dT, sT] }) (elem : TypeId) (hu : P.underlying dT = some (.slice elem)) (hsz : (P.info? elem).map (·.size) = some 1)
    (g off dLen dCap gs so sLen sCap : Nat) (hd : a.eval d = .slice (some ⟨g, off, none⟩) dLen dCap) (hs : a.eval s = .slice (some ⟨gs, so, none⟩) sLen sCap)
    (K : IntKind) (t : TypeId) (L : List Int) (hB : Blk K t w g L) (S : List Int) (m : Nat) (hm : Nat.min sLen dLen = m) (hS : Rd K w (some ⟨gs, so, none⟩) m S) (hfit : off + m ≤ L.length) (R : List Int) (hR : spliceL L S off = R)
    (h : ∀ w', Blk K t w' g R → w.grownBy w' (some g) → K' (a.put o.dst (.int .i64 m)) w') : Oper.wp P o a w K' Q := by
  refine wp_copyI d s dT sT ho elem hu 1 hsz g off dLen dCap ⟨gs, so, none⟩ sLen sCap hd hs (L.map (Value.int K)).toArray t hB m hm (S.map (Value.int K)) (by rw [List.length_map, hS.1, Nat.mul_one]) ?_ (by simp [hS.1]; exact hfit) (by intro v hv; obtain ⟨z, _, rfl⟩ := List.mem_map.1 hv; rfl) (R.map (Value.int K)) ?_ ?_
  · intro j v hv
    have hj : j < m := by
      have := (List.getElem?_eq_some_iff.1 hv).1
      rw [List.length_map, hS.1] at this
      exact this
    obtain ⟨b, of, e, hc⟩ := hS.2 j hj
    simp only [Option.some.injEq, Addr.mk.injEq, and_true] at e
    obtain ⟨rfl, rfl⟩ := e
    have hz : (S.map (Value.int K))[j]? = some (.int K (S.getD j 0)) := by
      have : j < S.length := by rw [hS.1]; exact hj
      simp [this]
    rw [hz] at hv
    cases hv
    rw [Addr.add_lit]
    exact hc
  · rw [← hR]
    simp [spliceL]
  · intro w' h1 h2
    exact h w' (unhide h1) h2

theorem step_copyB {P : Program} {ops : Array Oper} {o : Oper} {a : Act} {w : World} {K' : Act → World → Prop} {Q : Exit → Act → World → Prop} {E : Prop} (hgd : o.guard = none) (d s : Operand) (dT sT : TypeId)
    (ho : o.op = .call { callee := .builtin .copy, args := #[d, s], argTypes := #[dT, sT] }) (elem : TypeId) (hu : P.underlying dT = some (.slice elem)) (hsz : (P.info? elem).map (·.size) = some 1)
    (g off dLen dCap gs so sLen sCap : Nat) (hd : a.eval d = .slice (some ⟨g, off, none⟩) dLen dCap) (hs : a.eval s = .slice (some ⟨gs, so, none⟩) sLen sCap)
    (K : IntKind) (t : TypeId) (L : List Int) (hB : Blk K t w g L) (S : List Int) (m : Nat) (hm : Nat.min sLen dLen = m) (hS : Rd K w (some ⟨gs, so, none⟩) m S) (hfit : off + m ≤ L.length) (R : List Int) (hR : spliceL L S off = R)
    (h : ∀ w', Blk K t w' g R → w.grownBy w' (some g) → K' (a.put o.dst (.int .i64 m)) w') :
    if Region.wanted o (yielded ops a.tmps) = true then Oper.wp P o a w K' Q else E := by
  have hw : Region.wanted o (yielded ops a.tmps) = true := by simp [Region.wanted, hgd]
  rw [if_pos hw]
  exact wp_copyB d s dT sT ho elem hu hsz g off dLen dCap gs so sLen sCap hd hs K t L hB S m hm hS hfit R hR h

theorem wpList_copyB {P : Program} {ops : Array Oper} {rest : List Oper} {o : Oper} {a : Act} {w : World} {Q : Exit → Act → World → Prop} (hgd : o.guard = none) (d s : Operand) (dT sT : TypeId)
    (ho : o.op = .call { callee := .builtin .copy, args := #[d, s], argTypes := #[dT, sT] }) (elem : TypeId) (hu : P.underlying dT = some (.slice elem)) (hsz : (P.info? elem).map (·.size) = some 1)
    (g off dLen dCap gs so sLen sCap : Nat) (hd : a.eval d = .slice (some ⟨g, off, none⟩) dLen dCap) (hs : a.eval s = .slice (some ⟨gs, so, none⟩) sLen sCap)
    (K : IntKind) (t : TypeId) (L : List Int) (hB : Blk K t w g L) (S : List Int) (m : Nat) (hm : Nat.min sLen dLen = m) (hS : Rd K w (some ⟨gs, so, none⟩) m S) (hfit : off + m ≤ L.length) (R : List Int) (hR : spliceL L S off = R)
    (h : ∀ w', Blk K t w' g R → w.grownBy w' (some g) → wpList P ops Q rest (a.put o.dst (.int .i64 m)) w') : wpList P ops Q (o :: rest) a w :=
  wpList_plain hgd fun _ hK => wp_copyB d s dT sT ho elem hu hsz g off dLen dCap gs so sLen sCap hd hs K t L hB S m hm hS hfit R hR (fun w' h1 h2 => hK _ _ (h w' h1 h2))

end Go.Proofs.Ytkefpjbdkhifhaa

namespace Go.Proofs.Ytkefpjbdkhifhaa
open Go.RowKit

/-- The cells of a block of samples. -/
def tq (zs : List Int) : Array Value := (zs.map (Value.int .u16)).toArray
theorem tq_size (zs : List Int) : (tq zs).size = zs.length := by simp [tq]
theorem tq_one (zs : List Int) : (tq zs).all (·.oneCell') = true := by simp [tq, Value.oneCell']
theorem tq_z : tq (List.replicate 64 0) = #[.int .u16 0, .int .u16 0, .int .u16 0, .int .u16 0, .int .u16 0, .int .u16 0, .int .u16 0, .int .u16 0, .int .u16 0, .int .u16 0, .int .u16 0, .int .u16 0, .int .u16 0, .int .u16 0, .int .u16 0, .int .u16 0, .int .u16 0, .int .u16 0, .int .u16 0, .int .u16 0, .int .u16 0, .int .u16 0, .int .u16 0, .int .u16 0, .int .u16 0, .int .u16 0, .int .u16 0, .int .u16 0, .int .u16 0, .int .u16 0, .int .u16 0, .int .u16 0, .int .u16 0, .int .u16 0, .int .u16 0, .int .u16 0, .int .u16 0, .int .u16 0, .int .u16 0, .int .u16 0, .int .u16 0, .int .u16 0, .int .u16 0, .int .u16 0, .int .u16 0, .int .u16 0, .int .u16 0, .int .u16 0, .int .u16 0, .int .u16 0, .int .u16 0, .int .u16 0, .int .u16 0, .int .u16 0, .int .u16 0, .int .u16 0, .int .u16 0, .int .u16 0, .int .u16 0, .int .u16 0, .int .u16 0, .int .u16 0, .int .u16 0, .int .u16 0] := by rfl

theorem tileRow (wd ht g n r c l lo : Nat) (hw : wd ≤ 1024) (hh : ht ≤ 1024) (hr : 8 * r + l < ht) (hc : 8 * c + 8 ≤ wd) (HN : Hid (wd * ht = n)) (HLO : Hid ((8 * r + l) * wd + 8 * c = lo)) (W : World) :
    Calls Try.prog 83 #[.agg #[.int .i64 (wd : Int), .int .i64 (ht : Int), .slice (some ⟨g, 0, none⟩) n n], .int .i64 (r : Int), .int .i64 (c : Int), .int .i64 (l : Int)] W fun e W' => e = .returned (.slice (some ⟨g, lo, none⟩) 8 (n - lo)) ∧ W.grownBy W' none := by
  have hx := row_end (w := wd) hr
  rw [Nat.mul_comm ht wd, unhide HN] at hx
  have hll : lo + 8 ≤ n := by have := unhide HLO; omega
  have hnb : n ≤ 1048576 := by rw [← unhide HN]; exact Nat.mul_le_mul hw hh
  have k1 : IntKind.i64.wrap ((r : Int) * 8) = ((8 * r : Nat) : Int) := by rw [i64_in _ (by omega)]; omega
  obtain ⟨r8, HR8⟩ : ∃ k : Nat, Hid (8 * r = k) := ⟨_, rfl⟩
  obtain ⟨c8, HC8⟩ : ∃ k : Nat, Hid (8 * c = k) := ⟨_, rfl⟩
  rw [unhide HR8] at k1
  have k2 : IntKind.i64.wrap ((c : Int) * 8) = (c8 : Int) := by have := unhide HC8; rw [i64_in _ (by omega)]; omega
  obtain ⟨rl, HRL⟩ : ∃ k : Nat, Hid (r8 + l = k) := ⟨_, rfl⟩
  have k3 : IntKind.i64.wrap ((r8 : Int) + (l : Int)) = (rl : Int) := by have := unhide HRL; have := unhide HR8; rw [i64_in _ (by omega)]; omega
  have HIX : Hid (rl * wd + c8 = lo) := by unfold Hid; rw [← unhide HRL, ← unhide HR8, ← unhide HC8]; exact unhide HLO
  have hrl : rl ≤ 1024 := by have := unhide HRL; have := unhide HR8; omega
  have hc8 : c8 ≤ 1024 := by have := unhide HC8; omega
  have k4 := i64_in ((lo : Int) + 8) (by omega)
  obtain ⟨hi, HHI⟩ : ∃ k : Nat, Hid (lo + 8 = k) := ⟨_, rfl⟩
  have k5 : IntKind.i64.wrap ((lo : Int) + 8) = (hi : Int) := by have := unhide HHI; rw [k4]; omega
  clear k4
  have s1 : (0 : Int) ≤ (lo : Int) := by omega
  have s2 : (lo : Int) ≤ (hi : Int) := by have := unhide HHI; omega
  have s3 : (hi : Int) ≤ (n : Int) := by have := unhide HHI; omega
  have s4 : ¬ n = lo := by omega
  have b0 := heap_alloc_new W (.cells #[.int .i64 (wd : Int), .int .i64 (ht : Int), .slice (some ⟨g, 0, none⟩) n n] 57)
  have c0 : (W.alloc (.cells #[.int .i64 (wd : Int), .int .i64 (ht : Int), .slice (some ⟨g, 0, none⟩) n n] 57)).cell? ⟨W.heap.size, 0, none⟩ = some (.int .i64 (wd : Int)) := by rw [cell_of_row _ _ 0 _ _ (0, 0) b0]; rfl
  have HG0 := hide (World.grownBy_alloc W (.cells #[.int .i64 (wd : Int), .int .i64 (ht : Int), .slice (some ⟨g, 0, none⟩) n n] 57) none)
  have HB0 := hide b0
  clear b0 c0 hx hr hc
  go_enter Try.func83, Try.ntmps83
  go_wp2_with fail
  refine (toneIndex wd rl c8 _ _ (by omega) (by omega) (by omega) lo HIX _).mono ?_
  rintro e w1 ⟨rfl, g1⟩
  have b1 := grown_atG g1 (unhide HB0) (by simp)
  have c2 : w1.cell? ⟨W.heap.size, 2, none⟩ = some (.slice (some ⟨g, 0, none⟩) n n) := by rw [cell_of_row w1 _ 2 _ _ (0, 0) b1]; rfl
  have HG1 := hide (grown_trans (unhide HG0) g1)
  clear b1 g1
  go_wp2
  go_ret
  refine ⟨?_, unhide HG1⟩
  have := unhide HHI
  simp
  omega

set_option maxRecDepth 20000 in
set_option maxHeartbeats 6400000 in
theorem tileAt (wd ht g n r c : Nat) (L : List Int) (hw : wd ≤ 1024) (hh : ht ≤ 1024) (hr : 8 * r + 8 ≤ ht) (hc : 8 * c + 8 ≤ wd) (HN : Hid (wd * ht = n)) (W : World) (hB : Blk .u16 73 W g L) (hL : L.length = n) (T : List Int) (HT : Hid (T.length = 64)) (HTA : Hid (∀ i, i < 64 → T.getD i 0 = L.getD ((8 * r + i / 8) * wd + 8 * c + i % 8) 0)) :
    Calls Try.prog 59 #[.agg #[.int .i64 (wd : Int), .int .i64 (ht : Int), .slice (some ⟨g, 0, none⟩) n n], .int .i64 (r : Int), .int .i64 (c : Int)] W fun e W' => e = .returned (.agg (tq T)) ∧ W.grownBy W' none := by
  have HL := hide hL
  have HGL : Hid (g < W.heap.size) := hB.lt
  have HTS : Hid ((tq T).size = 64) := by unfold Hid; rw [tq_size]; exact unhide HT
  obtain ⟨Z, HZ⟩ : ∃ Z, Hid (tq (List.replicate 64 0) = Z) := ⟨_, rfl⟩
  have HZS : Hid (Z.size = 64) := by unfold Hid; rw [← unhide HZ, tq_size]; rfl
  have HZO : Hid (Z.all (·.oneCell') = true) := by rw [← unhide HZ]; exact tq_one _
  have hz : (#[.int .u16 0, .int .u16 0, .int .u16 0, .int .u16 0, .int .u16 0, .int .u16 0, .int .u16 0, .int .u16 0, .int .u16 0, .int .u16 0, .int .u16 0, .int .u16 0, .int .u16 0, .int .u16 0, .int .u16 0, .int .u16 0, .int .u16 0, .int .u16 0, .int .u16 0, .int .u16 0, .int .u16 0, .int .u16 0, .int .u16 0, .int .u16 0, .int .u16 0, .int .u16 0, .int .u16 0, .int .u16 0, .int .u16 0, .int .u16 0, .int .u16 0, .int .u16 0, .int .u16 0, .int .u16 0, .int .u16 0, .int .u16 0, .int .u16 0, .int .u16 0, .int .u16 0, .int .u16 0, .int .u16 0, .int .u16 0, .int .u16 0, .int .u16 0, .int .u16 0, .int .u16 0, .int .u16 0, .int .u16 0, .int .u16 0, .int .u16 0, .int .u16 0, .int .u16 0, .int .u16 0, .int .u16 0, .int .u16 0, .int .u16 0, .int .u16 0, .int .u16 0, .int .u16 0, .int .u16 0, .int .u16 0, .int .u16 0, .int .u16 0, .int .u16 0] : Array Value) = Z := by rw [← unhide HZ]; exact tq_z.symm
  obtain ⟨W0, hW0⟩ : ∃ W0, ((W.alloc (.cells #[.int .i64 (wd : Int), .int .i64 (ht : Int), .slice (some ⟨g, 0, none⟩) n n] 57)).alloc (.cells Z 75)).alloc (.cells Z 75) = W0 := ⟨_, rfl⟩
  have HG0 : Hid (W.grownBy W0 none) := by rw [← hW0]; exact grown_alloc (grown_alloc (World.grownBy_alloc _ _ _) _) _
  have b0 : Hid (W0.heap[W.heap.size]? = some (.cells #[.int .i64 (wd : Int), .int .i64 (ht : Int), .slice (some ⟨g, 0, none⟩) n n] 57 (0, 0))) := by rw [← hW0, Below.heap_alloc _ _ _ (by simp <;> omega), Below.heap_alloc _ _ _ (by simp)]; exact heap_alloc_new W _
  have b1 : Hid (W0.heap[W.heap.size + 1]? = some (.cells Z 75 (0, 0))) := by
    rw [← hW0, Below.heap_alloc _ _ _ (by simp)]
    have := heap_alloc_new (W.alloc (.cells #[.int .i64 (wd : Int), .int .i64 (ht : Int), .slice (some ⟨g, 0, none⟩) n n] 57)) (.cells Z 75)
    unfold Hid
    simpa using this
  have b2 : Hid (W0.heap[W.heap.size + 1 + 1]? = some (.cells Z 75 (0, 0))) := by
    rw [← hW0]
    have := heap_alloc_new ((W.alloc (.cells #[.int .i64 (wd : Int), .int .i64 (ht : Int), .slice (some ⟨g, 0, none⟩) n n] 57)).alloc (.cells Z 75)) (.cells Z 75)
    unfold Hid
    simpa using this
  have HB0 := hide (hB.grown (unhide HG0))
  have HS0 : Hid (W0.heap.size = W.heap.size + 3) := by rw [← hW0]; simp [Hid]
  have HW := hide hW0
  have bq : Hid ((((W.alloc (.cells #[.int .i64 (wd : Int), .int .i64 (ht : Int), .slice (some ⟨g, 0, none⟩) n n] 57)).alloc (.cells Z 75)).alloc (.cells Z 75)).heap[W.heap.size + 1 + 1]? = some (.cells Z 75 (0, 0))) := by rw [unhide HW]; exact b2
  clear hW0 hB hL
  go_enter Try.func59, Try.ntmps59
  go_wp2_with ((refine store_row rfl 75 _ _ rfl (W.heap.size + 1 + 1) rfl Z rfl Z 75 (unhide bq) rfl (by rw [unhide HZS]; kernel_rfl) (unhide HZO) ?_; intro w2 hB2 g2))
  rw [unhide HW] at g2
  have p0 := hide (grown_atG g2 (unhide b0) (by simp <;> omega))
  have p1 := hide (grown_atG g2 (unhide b1) (by simp))
  have HB2 := hide ((unhide HB0).beside g2 (by have := unhide HGL; simp; omega))
  have HQ2 : Hid (Blk .u16 75 w2 (W.heap.size + 1 + 1) (laidTo T 0)) := by
    unfold Hid Blk
    rw [hB2, laidTo_zero, unhide HT, ← unhide HZ]
    rfl
  have HG2 : Hid (W.grownBy w2 none) := grown_new (unhide HG0) g2 (fun k e => by simp at e; omega)
  clear g2 hB2 bq HW b0 b1 b2 HB0 hz
  generalize hs : W.heap.size = s at *
  have HS := hide hs
  clear hs
  generalize hqq : s + 1 + 1 = q at *
  have HQS : Hid (q = s + 2) := by unfold Hid; omega
  clear hqq
  go_wp2
  go_loopw [10] (fun lv wr => ∃ l : Nat, l ≤ 8 ∧ lv = .int .i64 l ∧ Hid (Blk .u16 75 wr q (laidTo T (8 * l))) ∧ Hid (w2.grownBy wr (some q))) (fun lv _ => 8 - (intOf lv).toNat)
  case atStart => exact ⟨0, by omega, by go_num, HQ2, World.grownBy.refl _ _⟩
  case round =>
    clear HQ2
    obtain ⟨l, hl, rfl, HQR, HGR⟩ := hrel
    by_cases hlt : l < 8
    · have hlI : (l : Int) < 8 := by omega
      have e1 := i64_in ((l : Int) + 1) (by omega)
      obtain ⟨l8, HL8⟩ : ∃ k : Nat, Hid (8 * l = k) := ⟨_, rfl⟩
      have hl8 : l8 + 8 ≤ 64 := by have := unhide HL8; omega
      have k1 : IntKind.i64.wrap ((l : Int) * 8) = (l8 : Int) := by have := unhide HL8; rw [i64_in _ (by omega)]; omega
      have s1 : (0 : Int) ≤ (l8 : Int) := by omega
      have s2 : (l8 : Int) ≤ 64 := by omega
      have s3 : ¬ 64 = l8 := by omega
      obtain ⟨lo, HLO⟩ : ∃ k : Nat, Hid ((8 * r + l) * wd + 8 * c = k) := ⟨_, rfl⟩
      have hro : 8 * r + l < ht := by omega
      have hlx := row_end (w := wd) hro
      rw [Nat.mul_comm ht wd, unhide HN] at hlx
      have hlo8 : lo + 8 ≤ n := by have := unhide HLO; omega
      rw [unhide HL8] at HQR
      have x0 := hide (grown_atG (unhide HGR) (unhide p0) (by have := unhide HQS; simp; omega))
      have HBR := hide ((unhide HB2).beside (unhide HGR) (by have := unhide HGL; have := unhide HQS; simp; omega))
      have HSP : Hid (spliceL (laidTo T l8) ((L.drop lo).take 8) l8 = laidTo T (l8 + 8)) := by
        have hsl : ((L.drop lo).take 8).length = 8 := by have := unhide HL; simp; omega
        have h1 := laidTo_splice T ((L.drop lo).take 8) l8 (by rw [hsl, unhide HT]; exact hl8) (by
          rw [hsl]
          refine List.ext_getElem (by rw [hsl]; simp; have := unhide HT; omega) (fun i h1 h2 => ?_)
          have hi : i < 8 := by rw [hsl] at h1; exact h1
          have h3 : lo + i < L.length := by have := unhide HL; omega
          have h4 : l8 + i < T.length := by have := unhide HT; omega
          have h5 := unhide HTA (l8 + i) (by omega)
          have h6 : (l8 + i) / 8 = l := by have := unhide HL8; omega
          have h7 : (l8 + i) % 8 = i := by have := unhide HL8; omega
          rw [h6, h7, unhide HLO] at h5
          simp [h3, h4] at h5 ⊢
          exact h5.symm)
        rw [hsl] at h1
        exact h1
      clear hlx hro
      go_wp2
      refine wp_region_noPanic ?_
      refine wp_region_tailL 20 (fun W => W.heap[s]? = some (.cells #[.int .i64 (wd : Int), .int .i64 (ht : Int), .slice (some ⟨g, 0, none⟩) n n] 57 (0, 0))) [true, true, true, true, true, true, true, false, false] (by kernel_rfl) (fun _ _ _ _ _ h => h) rfl (by decide) (by kernel_rfl) (show wr.drew.heap[s]? = _ from unhide x0) ?_
      have HQR : Hid (Blk .u16 75 wr.drew q (laidTo T l8)) := unhide HQR
      have HBR : Hid (Blk .u16 73 wr.drew g L) := unhide HBR
      have HD : Hid (wr.grownBy wr.drew none) := grown_drew (World.grownBy.refl _ _)
      have x0 : Hid (wr.drew.heap[s]? = _) := unhide x0
      generalize wr.drew = w4 at *
      refine heldF_take (v := ?_) (Or.inl ⟨by rfl, ?_⟩) ?_
      rotate_left 1
      · intro w' hSw
        go_simp
        try with_reducible rfl
      try simp only [Act.put, List.setIfInBounds_toArray, List.set_cons_zero, List.set_cons_succ]
      refine heldF_take (v := ?_) (Or.inl ⟨by rfl, ?_⟩) ?_
      rotate_left 1
      · intro w' hSw
        go_simp
        try with_reducible rfl
      try simp only [Act.put, List.setIfInBounds_toArray, List.set_cons_zero, List.set_cons_succ]
      refine heldF_take (v := ?_) (Or.inl ⟨by rfl, ?_⟩) ?_
      rotate_left 1
      · intro w' hSw
        go_simp
        try with_reducible rfl
      try simp only [Act.put, List.setIfInBounds_toArray, List.set_cons_zero, List.set_cons_succ]
      refine heldF_take (v := .agg #[.int .i64 (wd : Int), .int .i64 (ht : Int), .slice (some ⟨g, 0, none⟩) n n]) (Or.inl ⟨by rfl, ?_⟩) ?_
      · intro w' hSw
        exact exec_row 57 _ rfl s rfl _ _ hSw _ Try.underlying57 rfl (by kernel_rfl)
      try simp only [Act.put, List.setIfInBounds_toArray, List.set_cons_zero, List.set_cons_succ]
      refine heldF_take (v := ?_) (Or.inl ⟨by rfl, ?_⟩) ?_
      rotate_left 1
      · intro w' hSw
        go_simp
        try with_reducible rfl
      try simp only [Act.put, List.setIfInBounds_toArray, List.set_cons_zero, List.set_cons_succ]
      refine heldF_take (v := ?_) (Or.inl ⟨by rfl, ?_⟩) ?_
      rotate_left 1
      · intro w' hSw
        go_simp
        try with_reducible rfl
      try simp only [Act.put, List.setIfInBounds_toArray, List.set_cons_zero, List.set_cons_succ]
      refine heldF_take (v := ?_) (Or.inl ⟨by rfl, ?_⟩) ?_
      rotate_left 1
      · intro w' hSw
        go_simp
        try with_reducible rfl
      try simp only [Act.put, List.setIfInBounds_toArray, List.set_cons_zero, List.set_cons_succ]
      refine heldF_skip ?_
      refine heldF_skip ?_
      refine heldF_nil ?_
      refine tailL_skip ?_
      refine tailL_skip ?_
      refine tailL_skip ?_
      refine tailL_skip ?_
      refine tailL_skip ?_
      refine tailL_skip ?_
      refine tailL_skip ?_
      refine tailL_step (fun K hK => ?_)
      go_simp
      refine (tileRow wd ht g n r c l lo hw hh (by omega) hc HN HLO w4).mono ?_
      rintro e w5 ⟨rfl, g5⟩
      refine hK.out _ _ (.inr (grown_atG g5 (unhide x0) (by simp))) ?_
      clear hK K
      try simp only [Act.put, List.setIfInBounds_toArray, List.set_cons_zero, List.set_cons_succ]
      refine tailL_step (fun K hK => ?_)
      refine step_copyB rfl _ _ _ _ rfl 73 Try.underlying53 (by kernel_rfl) q l8 (64 - l8) _ g lo 8 _ rfl rfl .u16 75 (laidTo T l8) ((unhide HQR).grown g5) ((L.drop lo).take 8) 8 (by simp [Nat.min_def]; omega) (((unhide HBR).grown g5).rd lo 8 (by have := unhide HL; omega)) (by rw [laidTo_len T l8 (by have := unhide HT; omega), unhide HT]; exact hl8) _ (unhide HSP) ?_
      intro w7 hQ7 g7
      refine hK.out _ _ (.inl rfl) ?_
      clear hK K
      refine tailL_nil (NoPanic.normal ?_)
      try simp only [Act.put]
      have HQ7 : Hid (Blk .u16 75 w7 q (laidTo T (8 * (l + 1)))) := by rw [show 8 * (l + 1) = l8 + 8 by have := unhide HL8; omega]; exact hQ7
      have HG7 : Hid (w2.grownBy w7 (some q)) := grown_trans (unhide HGR) (grown_trans (grown_any (grown_trans (unhide HD) g5)) g7)
      clear hQ7 g7 g5 HQR HGR HBR HSP
      go_wp2
      go_roundw
      case rel => exact ⟨l + 1, by omega, by go_num, HQ7, HG7⟩
      case measure => simp [intOf]; omega
    · obtain rfl : l = 8 := by omega
      have hld : decide ((8 : Int) < 8) = false := by decide
      have eT : laidTo T (8 * 8) = T := by rw [show 8 * 8 = T.length from (unhide HT).symm]; exact laidTo_all T
      rw [eT] at HQR
      have HQH : Hid (wr.heap[q]? = some (.cells (tq T) 75 (0, 0))) := unhide HQR
      have HO1 := hide (grown_atG (unhide HGR) (unhide p1) (by have := unhide HQS; simp; omega))
      clear eT
      go_wp2_with (first | (refine load_row rfl 75 _ rfl q rfl (tq T) 75 (unhide HQH) _ Try.underlying75 rfl (by rw [unhide HTS]; kernel_rfl) ?_) | (refine store_row rfl 75 _ _ rfl (s + 1) rfl (tq T) rfl _ 75 (unhide HO1) (by rw [unhide HZS, unhide HTS]) (by rw [unhide HTS]; kernel_rfl) (tq_one _) ?_; intro w9 hB9 g9))
      refine bodyPost_ret (v := .agg (tq T)) ?_ rfl ⟨rfl, ?_⟩
      · rw [results_c1 rfl]
        exact run_loadVar_row w9 _ 75 75 _ (0, 0) _ hB9 Try.underlying75 rfl (by rw [unhide HTS]; kernel_rfl)
      · exact grown_new (grown_new (unhide HG2) (unhide HGR) (fun k e => by simp at e; have := unhide HS; have := unhide HQS; omega)) g9 (fun k e => by simp at e; have := unhide HS; omega)

end Go.Proofs.Ytkefpjbdkhifhaa

namespace Go.Proofs.Ytkefpjbdkhifhaa
open Go.RowKit Go.Shelf

/-- All blocks lie as they lay, but those of O. -/
structure But (O : Nat → Prop) (W W' : World) : Prop where
  os : W'.os = W.os
  tape : W'.tape = W.tape
  output : W'.output = W.output
  size : W.heap.size ≤ W'.heap.size
  block : ∀ k, k < W.heap.size → ¬ O k → W'.heap[k]? = W.heap[k]?
theorem But.refl (O : Nat → Prop) (W : World) : But O W W := ⟨rfl, rfl, rfl, Nat.le_refl _, fun _ _ _ => rfl⟩
theorem But.trans {O : Nat → Prop} {A B C : World} (h : But O A B) (g : But O B C) : But O A C :=
  ⟨g.os.trans h.os, g.tape.trans h.tape, g.output.trans h.output, Nat.le_trans h.size g.size, fun k hk ho => (g.block k (Nat.lt_of_lt_of_le hk h.size) ho).trans (h.block k hk ho)⟩
theorem But.of_grown {O : Nat → Prop} {W W' : World} {row : Option Nat} (h : W.grownBy W' row) (hr : ∀ g, row = some g → O g) : But O W W' :=
  ⟨h.os, h.tape, h.output, h.size, fun k hk ho => h.block k hk (fun e => ho (hr k e.symm))⟩
theorem But.mono {O O' : Nat → Prop} {W W' : World} (h : But O W W') (ho : ∀ k, O k → O' k) : But O' W W' := ⟨h.os, h.tape, h.output, h.size, fun k hk hn => h.block k hk (fun e => hn (ho k e))⟩
theorem But.putObj {O : Nat → Prop} (W : World) (l : Nat) (o : Obj) (hl : O l) : But O W (W.putObj l o) := But.of_grown (grownBy_putObj' W l o) (fun g e => by cases e; exact hl)

/-- What speaks of the blocks of O alone. -/
def LocalJ {α : Type} (O : Nat → Prop) (J : List α → World → Prop) : Prop := ∀ pre W W', J pre W → (∀ k, O k → W'.heap[k]? = W.heap[k]?) → J pre W'

/-- What an iterator gives a loop whose body always goes on and writes into the blocks of O alone: all of S, in its order. -/
def Gives {α : Type} (P : Program) (g : Nat) (lb : Array Value) (encs : α → Array Value) (S : List α) (O : Nat → Prop) (w : World) : Prop :=
  ∀ (n l : Nat) (J : List α → World → Prop) (W : World), But O w W → (∀ k, O k → k < W.heap.size) → l < W.heap.size → ¬ O l → w.heap.size ≤ l → LocalJ (fun k => O k ∨ k = l) J →
    (∀ pre x W1 m, J pre W1 → But (fun k => O k ∨ k = l) W W1 → pre ++ [x] <+: S → YieldAt Fence.wide m P l (encs x) W1 fun e W' => e = .returned (.bool true) ∧ J (pre ++ [x]) W' ∧ But (fun k => O k ∨ k = l) W1 W') → J [] W →
    CallsIn Fence.wide n P g (#[.func (.yield l) #[] #[]] ++ lb) W fun e W' => (∃ v, e = .returned v) ∧ J S W' ∧ But (fun k => O k ∨ k = l) W W'

/-- How the body of a round is left. -/
def goesOn (R : World → Prop) : Exit → Act → World → Prop
  | .normal, _, W' => R W'
  | _, _, _ => False

theorem rangeFunc_gives {α : Type} {n : Nat} {P : Program} {g : Operand} {ps : Array Tmp} {assign body : Code} {Q : Exit → Act → World → Prop} {a : Act} {w : World}
    {gf : Nat} {lb : Array Value} (hg : a.eval g = .func (.func gf) #[] lb) (eg : ∀ args w, (callFunc gf args).run P w = .ok (.enter gf args) w)
    {encs : α → Array Value} {S : List α} {O : Nat → Prop} (hO : ∀ k, O k → k < w.heap.size) (hG : Gives P gf lb encs S O w) (hps : ∀ x, (encs x).size = ps.size)
    (I : List α → World → Prop) (hI : LocalJ O I) (h0 : I [] w) (a₁ : α → Act)
    (hassign : ∀ (l m : Nat) (x : α) (W : World) (K : Act → World → Prop), K (a₁ x) W →
      assign.wpIn (Fence.wide.inRound l) m P (Exit.then K (fun _ _ _ => False)) { tmps := (ps.zip (encs x)).foldl (fun t (p, v) => t.setIfInBounds p v) a.tmps, defers := [] } W)
    (hbody : ∀ (l m : Nat) (pre : List α) (x : α) (W : World), I pre W → But O w W → pre ++ [x] <+: S → body.wpIn (Fence.wide.inRound l) m P (goesOn fun W' => I (pre ++ [x]) W' ∧ But O W W') (a₁ x) W)
    (hdone : ∀ (D : Nat) (W : World), w.heap.size ≤ D → I S W → But O w W → W.heap[D]? = some (.deferred (some [])) → Q .normal { a with defers := { target := .collected D, args := #[] } :: a.defers } W) :
    (Code.rangeFunc g ps assign body).wpIn Fence.wide n P Q a w := by
  refine wpIn_rangeFunc ?_
  intro fn hfn
  obtain ⟨R, hR⟩ : ∃ R : LoopState → Loop, R = fun st => { state := st, pending := none, fn, tmps := a.tmps, params := ps, assign, body, defers := w.heap.size } := ⟨_, rfl⟩
  obtain ⟨l, hl⟩ : ∃ l, w.heap.size + 1 = l := ⟨_, rfl⟩
  obtain ⟨W1, hW1⟩ : ∃ W1, (w.alloc (.deferred (some []))).alloc (.loop (R .ready)) = W1 := ⟨_, rfl⟩
  have hs1 : W1.heap.size = w.heap.size + 2 := by rw [← hW1]; simp
  have hOl : ¬ O l := fun e => by have := hO l e; omega
  have hOD : ¬ O w.heap.size := fun e => by have := hO _ e; omega
  have hL1 : W1.heap[l]? = some (.loop (R .ready)) := by
    rw [← hW1, ← hl]; have := World.alloc_heap_new (w.alloc (.deferred (some []))) (.loop (R .ready)); rwa [World.size_alloc] at this
  have hD1 : W1.heap[w.heap.size]? = some (.deferred (some [])) := by
    rw [← hW1]; exact (Below.heap_alloc _ _ _ (by simp)).trans (World.alloc_heap_new w _)
  have b1 : ∀ O', But O' w W1 := fun O' => by
    rw [← hW1]; exact But.of_grown (grown_alloc (grown_alloc (World.grownBy.refl w none) _) _) (fun g e => by cases e)
  have hI1 : I [] W1 := hI _ _ _ h0 (fun k hk => (b1 (fun _ => False)).block k (hO k hk) (fun e => e))
  refine ⟨l, [{ target := .collected w.heap.size, args := #[] }], W1, { target := .fn (.func gf) lb, args := #[.func (.yield l) #[] #[]] }, W1, gf, #[.func (.yield l) #[] #[]] ++ lb, W1, ?_, ?_, fun _ _ => trivial, ?_, (fun h => by simp [Fence.wide] at h), ?_⟩
  · rw [← hW1, ← hl, hR]; exact run_enterLoop_outer _ _ _ _ _
  · simp only [resolve, hg]
    simp [go_sem]
  · simp [invoke, go_sem, eg]
  · have loc : LocalJ (fun k => O k ∨ k = l) (fun pre W => I pre W ∧ W.heap[l]? = some (.loop (R .ready))) := fun pre W W' h hk => ⟨hI _ _ _ h.1 (fun k ok => hk k (.inl ok)), (hk l (.inr rfl)).trans h.2⟩
    refine (hG (n - 1) l _ W1 (b1 O) (fun k hk => by have := hO k hk; omega) (by omega) hOl (by omega) loc ?_ ⟨hI1, hL1⟩).mono ?_
    · rintro pre x W m ⟨hi, hlW⟩ bW hlen
      have hlt : l < W.heap.size := (Array.getElem?_eq_some_iff.1 hlW).1
      have hy := run_yield (P := P) (args := encs x) hlW (by rw [hR]; exact hps x)
      rw [hR] at hy
      refine ⟨fn, _, assign, body, hy, roundIn_of_wpIn hfn (hassign l m x W _ ⟨_, run_beginRound hlW (by rw [hR]), ?_⟩)⟩
      clear hy
      obtain ⟨W2, hW2⟩ : ∃ W2, W.putObj l (.loop { R .ready with state := .busy }) = W2 := ⟨_, rfl⟩
      rw [hW2]
      have hl2 : W2.heap[l]? = some (.loop { R .ready with state := .busy }) := by rw [← hW2]; exact World.putObj_heap_same hlt
      have b2 : But (fun k => O k ∨ k = l) W W2 := by rw [← hW2]; exact But.putObj W l _ (.inr rfl)
      have hi2 : I pre W2 := hI _ _ _ hi (fun k hk => by rw [← hW2]; exact World.putObj_heap_other (fun e => hOl (by rw [← e]; exact hk)))
      have bw2 : But O w W2 := by
        have h := bW.trans b2
        exact ⟨h.os.trans (b1 O).os, h.tape.trans (b1 O).tape, h.output.trans (b1 O).output, Nat.le_trans (b1 O).size h.size, fun k hk ho => (h.block k (by omega) (fun e => by rcases e with e | e; exact ho e; omega)).trans ((b1 O).block k hk ho)⟩
      refine wpIn_mono (hbody l m pre x W2 hi2 bw2 hlen) ?_
      rintro e a3 W3 hp
      cases e with
      | normal =>
        obtain ⟨hi3, b3⟩ := hp
        have hl3 : W3.heap[l]? = some (.loop { R .ready with state := .busy }) := (b3.block l (Array.getElem?_eq_some_iff.1 hl2).1 hOl).trans hl2
        have hlt3 : l < W3.heap.size := (Array.getElem?_eq_some_iff.1 hl3).1
        have he := run_endRound (P := P) none hl3
        have hi4 : I (pre ++ [x]) (W3.putObj l (.loop (R .ready))) := hI _ _ _ hi3 (fun k hk => World.putObj_heap_other (fun e => hOl (by rw [← e]; exact hk)))
        have hl4 : (W3.putObj l (.loop (R .ready))).heap[l]? = some (.loop (R .ready)) := World.putObj_heap_same hlt3
        refine ⟨_, _, ?_, rfl, ⟨hi4, hl4⟩, (b2.trans (b3.mono (fun k hk => .inl hk))).trans (But.putObj W3 l _ (.inr rfl))⟩
        rw [hR] at he ⊢
        exact he
      | ret => exact hp.elim
      | exit id => exact hp.elim
      | goto t => exact hp.elim
      | panic ch => exact hp.elim
      | outgrown => exact hp.elim
    · rintro e W5 ⟨⟨v, rfl⟩, ⟨hi5, hl5⟩, b5⟩
      have hD5 : W5.heap[w.heap.size]? = some (.deferred (some [])) := (b5.block w.heap.size (by omega) (fun e => by rcases e with e | e; exact hOD e; omega)).trans hD1
      have he := run_endLoop (P := P) hl5 (by rw [hR]; simp)
      refine ⟨none, _, by rw [hR] at he; exact he, hdone w.heap.size _ (Nat.le_refl _) (hI _ _ _ hi5 (fun k hk => World.putObj_heap_other (fun e => hOl (by rw [← e]; exact hk)))) ?_ ((World.putObj_heap_other (by omega)).trans hD5)⟩
      have b6 : ∀ o, But (fun k => O k ∨ k = l) W1 (W5.putObj l o) := fun o => b5.trans (But.putObj W5 l o (.inr rfl))
      exact ⟨(b6 _).os.trans (b1 O).os, (b6 _).tape.trans (b1 O).tape, (b6 _).output.trans (b1 O).output, Nat.le_trans (b1 O).size (b6 _).size, fun k hk ho => ((b6 _).block k (by omega) (fun e => by rcases e with e | e; exact ho e; omega)).trans ((b1 O).block k hk ho)⟩

/-- The same inside a round of another loop. -/
theorem rangeFunc_gives_in {α : Type} {n : Nat} {P : Program} {g : Operand} {ps : Array Tmp} {assign body : Code} {Q : Exit → Act → World → Prop} {a : Act} {w : World} {l₀ : Nat} {r₀ : Loop} (hl₀ : w.heap[l₀]? = some (.loop r₀))
    {gf : Nat} {lb : Array Value} (hg : a.eval g = .func (.func gf) #[] lb) (eg : ∀ args w, (callFunc gf args).run P w = .ok (.enter gf args) w)
    {encs : α → Array Value} {S : List α} {O : Nat → Prop} (hO : ∀ k, O k → k < w.heap.size) (hG : Gives P gf lb encs S O w) (hps : ∀ x, (encs x).size = ps.size)
    (I : List α → World → Prop) (hI : LocalJ O I) (h0 : I [] w) (a₁ : α → Act)
    (hassign : ∀ (l m : Nat) (x : α) (W : World) (K : Act → World → Prop), K (a₁ x) W →
      assign.wpIn ((Fence.wide.inRound l₀).inRound l) m P (Exit.then K (fun _ _ _ => False)) { tmps := (ps.zip (encs x)).foldl (fun t (p, v) => t.setIfInBounds p v) a.tmps, defers := [] } W)
    (hbody : ∀ (l m : Nat) (pre : List α) (x : α) (W : World), I pre W → But O w W → pre ++ [x] <+: S → body.wpIn ((Fence.wide.inRound l₀).inRound l) m P (goesOn fun W' => I (pre ++ [x]) W' ∧ But O W W') (a₁ x) W)
    (hdone : ∀ (W : World), I S W → But O w W → Q .normal a W) :
    (Code.rangeFunc g ps assign body).wpIn (Fence.wide.inRound l₀) n P Q a w := by
  refine wpIn_rangeFunc ?_
  intro fn hfn
  obtain ⟨R, hR⟩ : ∃ R : LoopState → Loop, R = fun st => { state := st, pending := none, fn, tmps := a.tmps, params := ps, assign, body, defers := r₀.defers } := ⟨_, rfl⟩
  obtain ⟨l, hl⟩ : ∃ l, w.heap.size = l := ⟨_, rfl⟩
  obtain ⟨W1, hW1⟩ : ∃ W1, w.alloc (.loop (R .ready)) = W1 := ⟨_, rfl⟩
  have hs1 : W1.heap.size = w.heap.size + 1 := by rw [← hW1]; simp
  have hOl : ¬ O l := fun e => by have := hO l e; omega
  have hL1 : W1.heap[l]? = some (.loop (R .ready)) := by rw [← hW1, ← hl]; exact World.alloc_heap_new w _
  have b1 : ∀ O', But O' w W1 := fun O' => by
    rw [← hW1]; exact But.of_grown (grown_alloc (World.grownBy.refl w none) _) (fun g e => by cases e)
  have hI1 : I [] W1 := hI _ _ _ h0 (fun k hk => (b1 (fun _ => False)).block k (hO k hk) (fun e => e))
  refine ⟨l, [], W1, { target := .fn (.func gf) lb, args := #[.func (.yield l) #[] #[]] }, W1, gf, #[.func (.yield l) #[] #[]] ++ lb, W1, ?_, ?_, fun _ _ => trivial, ?_, (fun h => by simp [Fence.wide, Fence.inRound] at h), ?_⟩
  · rw [← hW1, ← hl, hR]; exact run_enterLoop_inner hl₀ _ _ _ _ _
  · simp only [resolve, hg]
    simp [go_sem]
  · simp [invoke, go_sem, eg]
  · have loc : LocalJ (fun k => O k ∨ k = l) (fun pre W => I pre W ∧ W.heap[l]? = some (.loop (R .ready))) := fun pre W W' h hk => ⟨hI _ _ _ h.1 (fun k ok => hk k (.inl ok)), (hk l (.inr rfl)).trans h.2⟩
    refine (CallsIn.inRound l₀ (hG (n - 1) l _ W1 (b1 O) (fun k hk => by have := hO k hk; omega) (by omega) hOl (by omega) loc ?_ ⟨hI1, hL1⟩)).mono ?_
    · rintro pre x W m ⟨hi, hlW⟩ bW hlen
      have hlt : l < W.heap.size := (Array.getElem?_eq_some_iff.1 hlW).1
      have hy := run_yield (P := P) (args := encs x) hlW (by rw [hR]; exact hps x)
      rw [hR] at hy
      refine ⟨fn, _, assign, body, hy, roundIn_of_wpIn (F := Fence.wide.inRound l₀) hfn (hassign l m x W _ ⟨_, run_beginRound hlW (by rw [hR]), ?_⟩)⟩
      clear hy
      obtain ⟨W2, hW2⟩ : ∃ W2, W.putObj l (.loop { R .ready with state := .busy }) = W2 := ⟨_, rfl⟩
      rw [hW2]
      have hl2 : W2.heap[l]? = some (.loop { R .ready with state := .busy }) := by rw [← hW2]; exact World.putObj_heap_same hlt
      have b2 : But (fun k => O k ∨ k = l) W W2 := by rw [← hW2]; exact But.putObj W l _ (.inr rfl)
      have hi2 : I pre W2 := hI _ _ _ hi (fun k hk => by rw [← hW2]; exact World.putObj_heap_other (fun e => hOl (by rw [← e]; exact hk)))
      have bw2 : But O w W2 := by
        have h := bW.trans b2
        exact ⟨h.os.trans (b1 O).os, h.tape.trans (b1 O).tape, h.output.trans (b1 O).output, Nat.le_trans (b1 O).size h.size, fun k hk ho => (h.block k (by omega) (fun e => by rcases e with e | e; exact ho e; omega)).trans ((b1 O).block k hk ho)⟩
      refine wpIn_mono (hbody l m pre x W2 hi2 bw2 hlen) ?_
      rintro e a3 W3 hp
      cases e with
      | normal =>
        obtain ⟨hi3, b3⟩ := hp
        have hl3 : W3.heap[l]? = some (.loop { R .ready with state := .busy }) := (b3.block l (Array.getElem?_eq_some_iff.1 hl2).1 hOl).trans hl2
        have hlt3 : l < W3.heap.size := (Array.getElem?_eq_some_iff.1 hl3).1
        have he := run_endRound (P := P) none hl3
        have hi4 : I (pre ++ [x]) (W3.putObj l (.loop (R .ready))) := hI _ _ _ hi3 (fun k hk => World.putObj_heap_other (fun e => hOl (by rw [← e]; exact hk)))
        have hl4 : (W3.putObj l (.loop (R .ready))).heap[l]? = some (.loop (R .ready)) := World.putObj_heap_same hlt3
        refine ⟨_, _, ?_, rfl, ⟨hi4, hl4⟩, (b2.trans (b3.mono (fun k hk => .inl hk))).trans (But.putObj W3 l _ (.inr rfl))⟩
        rw [hR] at he ⊢
        exact he
      | ret => exact hp.elim
      | exit id => exact hp.elim
      | goto t => exact hp.elim
      | panic ch => exact hp.elim
      | outgrown => exact hp.elim
    · rintro e W5 ⟨⟨v, rfl⟩, ⟨hi5, hl5⟩, b5⟩
      have he := run_endLoop (P := P) hl5 (by rw [hR]; simp)
      have b6 : ∀ o, But (fun k => O k ∨ k = l) W1 (W5.putObj l o) := fun o => b5.trans (But.putObj W5 l o (.inr rfl))
      exact ⟨none, _, by rw [hR] at he; exact he, hdone _ (hI _ _ _ hi5 (fun k hk => World.putObj_heap_other (fun e => hOl (by rw [← e]; exact hk))))
        ⟨(b6 _).os.trans (b1 O).os, (b6 _).tape.trans (b1 O).tape, (b6 _).output.trans (b1 O).output, Nat.le_trans (b1 O).size (b6 _).size, fun k hk ho => ((b6 _).block k (by omega) (fun e => by rcases e with e | e; exact ho e; omega)).trans ((b1 O).block k hk ho)⟩⟩

end Go.Proofs.Ytkefpjbdkhifhaa

namespace Go.Proofs.Ytkefpjbdkhifhaa
open Go.RowKit Go.Shelf

attribute [local go_sem] Oper.semAt_some

/-- The first k columns of a row. -/
def sCol (r : Nat) : Nat → List (Nat × Nat)
  | 0 => []
  | k + 1 => sCol r k ++ [(r, k)]
/-- The first r rows of W columns. -/
def sTo (W : Nat) : Nat → List (Nat × Nat)
  | 0 => []
  | r + 1 => sTo W r ++ sCol r W
theorem sCol_len (r : Nat) : ∀ k, (sCol r k).length = k
  | 0 => rfl
  | k + 1 => by simp [sCol, sCol_len r k]
theorem sTo_len (W : Nat) : ∀ r, (sTo W r).length = r * W
  | 0 => by simp [sTo]
  | r + 1 => by simp [sTo, sTo_len W r, sCol_len, Nat.succ_mul]
theorem sCol_pre (r : Nat) {k m : Nat} (h : k ≤ m) : sCol r k <+: sCol r m := by
  induction m with
  | zero => obtain rfl : k = 0 := by omega
            exact List.prefix_refl _
  | succ m ih =>
    by_cases e : k = m + 1
    · subst e; exact List.prefix_refl _
    · exact (ih (by omega)).trans (List.prefix_append _ _)
theorem sTo_pre (W : Nat) {k m : Nat} (h : k ≤ m) : sTo W k <+: sTo W m := by
  induction m with
  | zero => obtain rfl : k = 0 := by omega
            exact List.prefix_refl _
  | succ m ih =>
    by_cases e : k = m + 1
    · subst e; exact List.prefix_refl _
    · exact (ih (by omega)).trans (List.prefix_append _ _)
/-- Where a row is not at its end, what has come and one more is a beginning of all. -/
theorem spot_pre {W H r k : Nat} (hr : r < H) (hk : k < W) : sTo W r ++ sCol r k ++ [(r, k)] <+: sTo W H := by
  have h1 : sTo W r ++ sCol r (k + 1) <+: sTo W (r + 1) := (List.prefix_append_right_inj _).2 (sCol_pre r (by omega))
  rw [List.append_assoc]
  exact h1.trans (sTo_pre W (by omega))

theorem sCol_mem {r k : Nat} {x : Nat × Nat} : x ∈ sCol r k → x.1 = r ∧ x.2 < k := by
  induction k with
  | zero => intro h; simp [sCol] at h
  | succ k ih =>
    intro h
    simp only [sCol, List.mem_append, List.mem_singleton] at h
    rcases h with h | h
    · have := ih h; omega
    · subst h; simp
theorem sTo_mem {W r : Nat} {x : Nat × Nat} : x ∈ sTo W r → x.1 < r ∧ x.2 < W := by
  induction r with
  | zero => intro h; simp [sTo] at h
  | succ r ih =>
    intro h
    simp only [sTo, List.mem_append] at h
    rcases h with h | h
    · have := ih h; omega
    · have := sCol_mem h; omega

set_option maxRecDepth 100000 in
set_option maxHeartbeats 1600000 in
theorem spots1_in (F : Fence) (n : Nat) (hf : F.fn 82) (hro : F.round = none) (hn : 1 ≤ n) (l Bn wd ht : Nat) (hwd : wd ≤ 4096) (hht : ht ≤ 4096) (J Jx : List (Nat × Nat) → World → Prop)
    (hY : ∀ pre (x : Nat × Nat) W, J pre W → pre ++ [x] <+: sTo wd ht → YieldAt F (n - 1) Try.prog l #[.int .i64 (x.1 : Int), .int .i64 (x.2 : Int)] W fun e W' =>
      (e = .returned (.bool true) ∧ J (pre ++ [x]) W' ∧ W'.heap[Bn]? = W.heap[Bn]?) ∨ (e = .returned (.bool false) ∧ Jx (pre ++ [x]) W'))
    (W : World) (hBn : W.heap[Bn]? = some (.cells #[.int .i64 (wd : Int), .int .i64 (ht : Int)] 48 (0, 0))) (h0 : J [] W) :
    CallsIn F n Try.prog 82 #[.func (.yield l) #[] #[], .pointer (some ⟨Bn, 0, none⟩)] W fun e W' => (∃ v, e = .returned v) ∧
      ((∃ ys, ys = sTo wd ht ∧ J ys W') ∨ (∃ pre, pre <+: sTo wd ht ∧ Jx pre W')) := by
  refine callsIn_of_wp Try.func82 rfl hf ?_ hro
  simp only [Try.ntmps82, List.size_toArray, List.length_cons, List.length_nil, Nat.reduceAdd, Nat.reduceSub, Array.replicate_succ, Array.replicate_zero, List.push_toArray, List.append_toArray, List.nil_append, List.cons_append]
  have cb := areaCells hBn
  gi_wp2
  gi_loopw [7] (fun i wr => ∃ r : Nat, r ≤ ht ∧ i = .int .i64 r ∧ J (sTo wd r) wr ∧ wr.heap[Bn]? = some (.cells #[.int .i64 (wd : Int), .int .i64 (ht : Int)] 48 (0, 0))) (fun i _ => ht - (intOf i).toNat)
  case atStart => exact ⟨0, Nat.zero_le _, rfl, h0, hBn⟩
  case round =>
    obtain ⟨r, hr, rfl, hJr, hbr⟩ := hrel
    by_cases hlt : r < ht
    · have cr := areaCells hbr
      gi_wp2
      gi_loopw [12] (fun i wr => ∃ k : Nat, k ≤ wd ∧ i = .int .i64 k ∧ J (sTo wd r ++ sCol r k) wr ∧ wr.heap[Bn]? = some (.cells #[.int .i64 (wd : Int), .int .i64 (ht : Int)] 48 (0, 0))) (fun i _ => wd - (intOf i).toNat)
      case atStart => exact ⟨0, Nat.zero_le _, rfl, by rw [sCol, List.append_nil]; exact hJr, hbr⟩
      case round =>
        obtain ⟨k, hk, rfl, hJk, hbk⟩ := hrel
        by_cases hltk : k < wd
        · have hlen := spot_pre (W := wd) (H := ht) hlt hltk
          obtain ⟨fn, tmps, assign, body, hy, hR⟩ := hY (sTo wd r ++ sCol r k) (r, k) wr hJk hlen
          dsimp only at hy
          gi_wp2
          refine hR.mono ?_
          rintro e W3 (⟨rfl, hJ3, hk3⟩ | ⟨rfl, hJx3⟩)
          · have hb3 : W3.heap[Bn]? = some (.cells #[.int .i64 (wd : Int), .int .i64 (ht : Int)] 48 (0, 0)) := hk3.trans hbk
            gi_wp2
            go_roundw
            case rel => exact ⟨k + 1, by omega, by go_num, by rw [sCol, ← List.append_assoc]; exact hJ3, hb3⟩
            case measure => simp [intOf]; omega
          · gi_wp2
            refine bodyPost_ret (results_none rfl _ _ _) rfl ?_
            exact ⟨⟨_, rfl⟩, .inr ⟨_, spot_pre hlt hltk, hJx3⟩⟩
        · obtain rfl : k = wd := by omega
          gi_wp2
          go_roundw
          case rel => exact ⟨r + 1, by omega, by go_num, by rw [sTo]; exact hJk, hbk⟩
          case measure => simp [intOf]; omega
    · obtain rfl : r = ht := by omega
      gi_wp2
      go_end0
      exact ⟨⟨_, rfl⟩, .inl ⟨_, rfl, hJr⟩⟩

/-- The spots of an area, given to a loop whose body always goes on. -/
theorem spots_gives (Bn wd ht : Nat) (hwd : wd ≤ 4096) (hht : ht ≤ 4096) (O : Nat → Prop) (w : World) (hBn : w.heap[Bn]? = some (.cells #[.int .i64 (wd : Int), .int .i64 (ht : Int)] 48 (0, 0))) (hOB : ¬ O Bn) :
    Gives Try.prog 82 #[.pointer (some ⟨Bn, 0, none⟩)] (fun x : Nat × Nat => #[.int .i64 (x.1 : Int), .int .i64 (x.2 : Int)]) (sTo wd ht) O w := by
  intro n l J W hW _ hl hOl hwl hJ hY h0
  have hlt : Bn < w.heap.size := (Array.getElem?_eq_some_iff.1 hBn).1
  have hBW : W.heap[Bn]? = some (.cells #[.int .i64 (wd : Int), .int .i64 (ht : Int)] 48 (0, 0)) := (hW.block Bn hlt hOB).trans hBn
  have hltW : Bn < W.heap.size := (Array.getElem?_eq_some_iff.1 hBW).1
  have hn1 : ∀ m, CallsIn Fence.wide m Try.prog 82 (#[.func (.yield l) #[] #[]] ++ #[.pointer (some ⟨Bn, 0, none⟩)]) W (fun e W' => (∃ v, e = .returned v) ∧ J (sTo wd ht) W' ∧ But (fun k => O k ∨ k = l) W W') → CallsIn Fence.wide n Try.prog 82 (#[.func (.yield l) #[] #[]] ++ #[.pointer (some ⟨Bn, 0, none⟩)]) W (fun e W' => (∃ v, e = .returned v) ∧ J (sTo wd ht) W' ∧ But (fun k => O k ∨ k = l) W W') := fun m h => callsIn_wide.2 (callsIn_wide.1 h)
  refine hn1 1 ?_
  refine (spots1_in Fence.wide 1 trivial rfl (Nat.le_refl _) l Bn wd ht hwd hht (fun pre W1 => J pre W1 ∧ But (fun k => O k ∨ k = l) W W1) (fun _ _ => False) ?_ W hBW ⟨h0, But.refl _ _⟩).mono ?_
  · rintro pre x W1 ⟨hj, hb⟩ hlen
    obtain ⟨fn, tmps, assign, body, hy, hR⟩ := hY pre x W1 (1 - 1) hj hb hlen
    refine ⟨fn, tmps, assign, body, hy, hR.mono ?_⟩
    rintro e W' ⟨rfl, hj', hb'⟩
    exact .inl ⟨rfl, ⟨hj', hb.trans hb'⟩, hb'.block Bn (Nat.lt_of_lt_of_le hltW hb.size) (fun e => by rcases e with e | e; exact hOB e; omega)⟩
  · rintro e W' ⟨hv, (⟨ys, rfl, hj, hb⟩ | ⟨pre, _, hf⟩)⟩
    · exact ⟨hv, hj, hb⟩
    · exact hf.elim

/-- What makes the function. -/
theorem spots_in (F : Fence) (n : Nat) (hf : F.fn 58) (hro : F.round = none) (a b : Int) (w : World) :
    CallsIn F n Try.prog 58 #[.agg #[.int .i64 a, .int .i64 b]] w fun e w' => e = .returned (.func (.func 82) #[] #[.pointer (some ⟨w.heap.size, 0, none⟩)]) ∧ w' = w.alloc (.cells #[.int .i64 a, .int .i64 b] 48) := by
  refine callsIn_of_wp Try.func58 rfl hf ?_ hro
  simp only [Try.ntmps58, List.size_toArray, List.length_cons, List.length_nil, Nat.reduceAdd, Nat.reduceSub, Array.replicate_succ, Array.replicate_zero, List.push_toArray, List.append_toArray, List.nil_append, List.cons_append]
  gi_wp2
  go_ret
  exact ⟨rfl, rfl⟩

end Go.Proofs.Ytkefpjbdkhifhaa

namespace Go.Proofs.Ytkefpjbdkhifhaa
open Go.RowKit Go.Shelf

theorem sCol_at (r : Nat) : ∀ (k j : Nat), j < k → (sCol r k)[j]? = some (r, j)
  | 0, j, h => by omega
  | k + 1, j, h => by
    rw [sCol]
    by_cases e : j < k
    · rw [List.getElem?_append_left (by rw [sCol_len]; exact e)]
      exact sCol_at r k j e
    · obtain rfl : j = k := by omega
      rw [List.getElem?_append_right (by rw [sCol_len]; exact Nat.le_refl _), sCol_len, Nat.sub_self]
      rfl
theorem sTo_at (W : Nat) : ∀ (H i : Nat) (x : Nat × Nat), (sTo W H)[i]? = some x → x.1 * W + x.2 = i ∧ x.1 < H ∧ x.2 < W
  | 0, i, x, h => by simp [sTo] at h
  | r + 1, i, x, h => by
    rw [sTo] at h
    by_cases e : i < r * W
    · rw [List.getElem?_append_left (by rw [sTo_len]; exact e)] at h
      obtain ⟨h1, h2, h3⟩ := sTo_at W r i x h
      exact ⟨h1, by omega, h3⟩
    · rw [List.getElem?_append_right (by rw [sTo_len]; omega), sTo_len] at h
      have hj : i - r * W < W := by
        have := (List.getElem?_eq_some_iff.1 h).1
        rwa [sCol_len] at this
      rw [sCol_at r W _ hj] at h
      have e2 : (r, i - r * W) = x := Option.some.inj h
      subst e2
      exact ⟨by show r * W + (i - r * W) = i; omega, by show r < r + 1; omega, hj⟩
theorem spot_num {W H : Nat} {pre : List (Nat × Nat)} {x : Nat × Nat} (h : pre ++ [x] <+: sTo W H) : x.1 * W + x.2 = pre.length ∧ x.1 < H ∧ x.2 < W := by
  obtain ⟨rest, e⟩ := h
  refine sTo_at W H pre.length x ?_
  rw [← e, List.append_assoc, List.getElem?_append_right (Nat.le_refl _), Nat.sub_self]
  rfl
theorem spot_less {W H : Nat} {pre : List (Nat × Nat)} {x : Nat × Nat} (h : pre ++ [x] <+: sTo W H) : pre.length < H * W := by
  have := h.length_le
  rw [sTo_len] at this
  simp at this
  omega

end Go.Proofs.Ytkefpjbdkhifhaa

namespace Go.Proofs.Ytkefpjbdkhifhaa
open Go.RowKit Go.Shelf

/-- What an iterator gives a loop whose body always goes on. -/
def News {α : Type} (P : Program) (g : Nat) (lb : Array Value) (encs : α → Array Value) (S : List α) (O : Nat → Prop) (w : World) : Prop :=
  ∀ (n l : Nat) (J : List α → World → Prop) (W : World), But O w W → (∀ k, O k → k < W.heap.size) → l < W.heap.size → ¬ O l → w.heap.size ≤ l →
    (∀ pre x W1 m, J pre W1 → But (fun k => O k ∨ k = l) W W1 → pre ++ [x] <+: S → YieldAt Fence.wide m P l (encs x) W1 fun e W' => e = .returned (.bool true) ∧ J (pre ++ [x]) W' ∧ But (fun k => O k ∨ k = l) W1 W') → J [] W →
    CallsIn Fence.wide n P g (#[.func (.yield l) #[] #[]] ++ lb) W fun e W' => (∃ v, e = .returned v) ∧ J S W' ∧ But (fun k => O k ∨ k = l) W W'

theorem rangeFunc_news {α : Type} {n : Nat} {P : Program} {g : Operand} {ps : Array Tmp} {assign body : Code} {Q : Exit → Act → World → Prop} {a : Act} {w : World}
    {gf : Nat} {lb : Array Value} (hg : a.eval g = .func (.func gf) #[] lb) (eg : ∀ args w, (callFunc gf args).run P w = .ok (.enter gf args) w)
    {encs : α → Array Value} {S : List α} {O : Nat → Prop} (hO : ∀ k, O k → k < w.heap.size) (hG : News P gf lb encs S O w) (hps : ∀ x, (encs x).size = ps.size)
    (I : Nat → List α → World → Prop) (hI : ∀ l pre W W', I l pre W → (∀ k, k < W.heap.size → k ≠ l → W'.heap[k]? = W.heap[k]?) → I l pre W') (h0 : ∀ l, w.heap.size ≤ l → I l [] w) (a₁ : α → Act)
    (hassign : ∀ (l m : Nat) (x : α) (W : World) (K : Act → World → Prop), K (a₁ x) W →
      assign.wpIn (Fence.wide.inRound l) m P (Exit.then K (fun _ _ _ => False)) { tmps := (ps.zip (encs x)).foldl (fun t (p, v) => t.setIfInBounds p v) a.tmps, defers := [] } W)
    (hbody : ∀ (l m : Nat) (pre : List α) (x : α) (W : World), l = w.heap.size + 1 → l < W.heap.size → I l pre W → But O w W → pre ++ [x] <+: S → body.wpIn (Fence.wide.inRound l) m P (goesOn fun W' => I l (pre ++ [x]) W' ∧ But O W W') (a₁ x) W)
    (hdone : ∀ (l D : Nat) (W : World), D = w.heap.size → l = w.heap.size + 1 → I l S W → But O w W → W.heap[D]? = some (.deferred (some [])) → Q .normal { a with defers := { target := .collected D, args := #[] } :: a.defers } W) :
    (Code.rangeFunc g ps assign body).wpIn Fence.wide n P Q a w := by
  refine wpIn_rangeFunc ?_
  intro fn hfn
  obtain ⟨R, hR⟩ : ∃ R : LoopState → Loop, R = fun st => { state := st, pending := none, fn, tmps := a.tmps, params := ps, assign, body, defers := w.heap.size } := ⟨_, rfl⟩
  obtain ⟨l, hl⟩ : ∃ l, w.heap.size + 1 = l := ⟨_, rfl⟩
  obtain ⟨W1, hW1⟩ : ∃ W1, (w.alloc (.deferred (some []))).alloc (.loop (R .ready)) = W1 := ⟨_, rfl⟩
  have hs1 : W1.heap.size = w.heap.size + 2 := by rw [← hW1]; simp
  have hOl : ¬ O l := fun e => by have := hO l e; omega
  have hOD : ¬ O w.heap.size := fun e => by have := hO _ e; omega
  have hL1 : W1.heap[l]? = some (.loop (R .ready)) := by
    rw [← hW1, ← hl]; have := World.alloc_heap_new (w.alloc (.deferred (some []))) (.loop (R .ready)); rwa [World.size_alloc] at this
  have hD1 : W1.heap[w.heap.size]? = some (.deferred (some [])) := by
    rw [← hW1]; exact (Below.heap_alloc _ _ _ (by simp)).trans (World.alloc_heap_new w _)
  have b1 : ∀ O', But O' w W1 := fun O' => by
    rw [← hW1]; exact But.of_grown (grown_alloc (grown_alloc (World.grownBy.refl w none) _) _) (fun g e => by cases e)
  have hI1 : I l [] W1 := hI l _ _ _ (h0 l (by omega)) (fun k hk _ => (b1 (fun _ => False)).block k hk (fun e => e))
  refine ⟨l, [{ target := .collected w.heap.size, args := #[] }], W1, { target := .fn (.func gf) lb, args := #[.func (.yield l) #[] #[]] }, W1, gf, #[.func (.yield l) #[] #[]] ++ lb, W1, ?_, ?_, fun _ _ => trivial, ?_, (fun h => by simp [Fence.wide] at h), ?_⟩
  · rw [← hW1, ← hl, hR]; exact run_enterLoop_outer _ _ _ _ _
  · simp only [resolve, hg]
    simp [go_sem]
  · simp [invoke, go_sem, eg]
  · refine (hG (n - 1) l (fun pre W => I l pre W ∧ W.heap[l]? = some (.loop (R .ready))) W1 (b1 O) (fun k hk => by have := hO k hk; omega) (by omega) hOl (by omega) ?_ ⟨hI1, hL1⟩).mono ?_
    · rintro pre x W m ⟨hi, hlW⟩ bW hlen
      have hlt : l < W.heap.size := (Array.getElem?_eq_some_iff.1 hlW).1
      have hy := run_yield (P := P) (args := encs x) hlW (by rw [hR]; exact hps x)
      rw [hR] at hy
      refine ⟨fn, _, assign, body, hy, roundIn_of_wpIn hfn (hassign l m x W _ ⟨_, run_beginRound hlW (by rw [hR]), ?_⟩)⟩
      clear hy
      obtain ⟨W2, hW2⟩ : ∃ W2, W.putObj l (.loop { R .ready with state := .busy }) = W2 := ⟨_, rfl⟩
      rw [hW2]
      have hl2 : W2.heap[l]? = some (.loop { R .ready with state := .busy }) := by rw [← hW2]; exact World.putObj_heap_same hlt
      have b2 : But (fun k => O k ∨ k = l) W W2 := by rw [← hW2]; exact But.putObj W l _ (.inr rfl)
      have hi2 : I l pre W2 := hI l _ _ _ hi (fun k _ hk => by rw [← hW2]; exact World.putObj_heap_other hk)
      have bw2 : But O w W2 := by
        have h := bW.trans b2
        exact ⟨h.os.trans (b1 O).os, h.tape.trans (b1 O).tape, h.output.trans (b1 O).output, Nat.le_trans (b1 O).size h.size, fun k hk ho => (h.block k (by omega) (fun e => by rcases e with e | e; exact ho e; omega)).trans ((b1 O).block k hk ho)⟩
      refine wpIn_mono (hbody l m pre x W2 (by omega) (Array.getElem?_eq_some_iff.1 hl2).1 hi2 bw2 hlen) ?_
      rintro e a3 W3 hp
      cases e with
      | normal =>
        obtain ⟨hi3, b3⟩ := hp
        have hl3 : W3.heap[l]? = some (.loop { R .ready with state := .busy }) := (b3.block l (Array.getElem?_eq_some_iff.1 hl2).1 hOl).trans hl2
        have hlt3 : l < W3.heap.size := (Array.getElem?_eq_some_iff.1 hl3).1
        have he := run_endRound (P := P) none hl3
        have hi4 : I l (pre ++ [x]) (W3.putObj l (.loop (R .ready))) := hI l _ _ _ hi3 (fun k _ hk => World.putObj_heap_other hk)
        have hl4 : (W3.putObj l (.loop (R .ready))).heap[l]? = some (.loop (R .ready)) := World.putObj_heap_same hlt3
        refine ⟨_, _, ?_, rfl, ⟨hi4, hl4⟩, (b2.trans (b3.mono (fun k hk => .inl hk))).trans (But.putObj W3 l _ (.inr rfl))⟩
        rw [hR] at he ⊢
        exact he
      | ret => exact hp.elim
      | exit id => exact hp.elim
      | goto t => exact hp.elim
      | panic ch => exact hp.elim
      | outgrown => exact hp.elim
    · rintro e W5 ⟨⟨v, rfl⟩, ⟨hi5, hl5⟩, b5⟩
      have hD5 : W5.heap[w.heap.size]? = some (.deferred (some [])) := (b5.block w.heap.size (by omega) (fun e => by rcases e with e | e; exact hOD e; omega)).trans hD1
      have he := run_endLoop (P := P) hl5 (by rw [hR]; simp)
      refine ⟨none, _, by rw [hR] at he; exact he, hdone l w.heap.size _ rfl (by omega) (hI l _ _ _ hi5 (fun k _ hk => World.putObj_heap_other hk)) ?_ ((World.putObj_heap_other (by omega)).trans hD5)⟩
      have b6 : ∀ o, But (fun k => O k ∨ k = l) W1 (W5.putObj l o) := fun o => b5.trans (But.putObj W5 l o (.inr rfl))
      exact ⟨(b6 _).os.trans (b1 O).os, (b6 _).tape.trans (b1 O).tape, (b6 _).output.trans (b1 O).output, Nat.le_trans (b1 O).size (b6 _).size, fun k hk ho => ((b6 _).block k (by omega) (fun e => by rcases e with e | e; exact ho e; omega)).trans ((b1 O).block k hk ho)⟩

end Go.Proofs.Ytkefpjbdkhifhaa

namespace Go.Proofs.Ytkefpjbdkhifhaa
open Go.RowKit Go.Shelf

/-- The spots of an area, given to a loop whose body always goes on. -/
theorem spots_news (Bn wd ht : Nat) (hwd : wd ≤ 4096) (hht : ht ≤ 4096) (O : Nat → Prop) (w : World) (hBn : w.heap[Bn]? = some (.cells #[.int .i64 (wd : Int), .int .i64 (ht : Int)] 48 (0, 0))) (hOB : ¬ O Bn) :
    News Try.prog 82 #[.pointer (some ⟨Bn, 0, none⟩)] (fun x : Nat × Nat => #[.int .i64 (x.1 : Int), .int .i64 (x.2 : Int)]) (sTo wd ht) O w := by
  intro n l J W hW _ hl hOl hwl hY h0
  have hlt : Bn < w.heap.size := (Array.getElem?_eq_some_iff.1 hBn).1
  have hBW : W.heap[Bn]? = some (.cells #[.int .i64 (wd : Int), .int .i64 (ht : Int)] 48 (0, 0)) := (hW.block Bn hlt hOB).trans hBn
  have hltW : Bn < W.heap.size := (Array.getElem?_eq_some_iff.1 hBW).1
  have hn1 : ∀ m, CallsIn Fence.wide m Try.prog 82 (#[.func (.yield l) #[] #[]] ++ #[.pointer (some ⟨Bn, 0, none⟩)]) W (fun e W' => (∃ v, e = .returned v) ∧ J (sTo wd ht) W' ∧ But (fun k => O k ∨ k = l) W W') → CallsIn Fence.wide n Try.prog 82 (#[.func (.yield l) #[] #[]] ++ #[.pointer (some ⟨Bn, 0, none⟩)]) W (fun e W' => (∃ v, e = .returned v) ∧ J (sTo wd ht) W' ∧ But (fun k => O k ∨ k = l) W W') := fun m h => callsIn_wide.2 (callsIn_wide.1 h)
  refine hn1 1 ?_
  refine (spots1_in Fence.wide 1 trivial rfl (Nat.le_refl _) l Bn wd ht hwd hht (fun pre W1 => J pre W1 ∧ But (fun k => O k ∨ k = l) W W1) (fun _ _ => False) ?_ W hBW ⟨h0, But.refl _ _⟩).mono ?_
  · rintro pre x W1 ⟨hj, hb⟩ hlen
    obtain ⟨fn, tmps, assign, body, hy, hR⟩ := hY pre x W1 (1 - 1) hj hb hlen
    refine ⟨fn, tmps, assign, body, hy, hR.mono ?_⟩
    rintro e W' ⟨rfl, hj', hb'⟩
    exact .inl ⟨rfl, ⟨hj', hb.trans hb'⟩, hb'.block Bn (Nat.lt_of_lt_of_le hltW hb.size) (fun e => by rcases e with e | e; exact hOB e; omega)⟩
  · rintro e W' ⟨hv, (⟨ys, rfl, hj, hb⟩ | ⟨pre, _, hf⟩)⟩
    · exact ⟨hv, hj, hb⟩
    · exact hf.elim

end Go.Proofs.Ytkefpjbdkhifhaa

namespace Go.Proofs.Ytkefpjbdkhifhaa
open Go.RowKit

theorem step_append_rowF {α : Type} {P : World → Value → α → List Nat → Prop} (hP : OwOk P) {e T : TypeId} (hT : Try.prog.underlying T = some (.slice e)) (hI : (Try.prog.info? e).map (fun i => (i.zero, i.size, i.bytes)) = some (some (.slice none 0 0), 1, 24))
    {w : World} {ops : Array Oper} {o : Oper} {a : Act} {K : Act → World → Prop} {Q : Exit → Act → World → Prop} {E : Prop} (hgd : o.guard = none) (s x : Operand)
    (ho : o.op = .call { callee := .builtin .append, args := #[s, x], argTypes := #[T, T] })
    (g cap : Nat) (L : List α) (F : List Nat) (hs : a.eval s = .slice (some ⟨g, 0, none⟩) L.length cap) (hown : OwR e P w (.slice (some ⟨g, 0, none⟩) L.length cap) L F) (hF : F.Nodup) (u : Value) (b : α) (Fb : List Nat) (hu : P w u b Fb) (hFb : Fb.Nodup) (hd : ∀ x ∈ Fb, x ∉ F) (hx : a.eval x = .slice (some ⟨w.heap.size, 0, none⟩) 1 1) (hroom : L.length + 1 ≤ cap) (R : List α) (hR : L ++ [b] = R)
    (h : ∀ w' F', OwR e P w' (.slice (some ⟨g, 0, none⟩) R.length cap) R F' → F'.Nodup → (∀ x ∈ F', x ∈ F ∨ x ∈ Fb) → w.grownBy w' (some g) → K (a.put o.dst (.slice (some ⟨g, 0, none⟩) R.length cap)) w') :
    if Region.wanted o (yielded ops a.tmps) = true then Oper.wp Try.prog o a (w.alloc (.cells #[u] e)) K Q else E := by
  subst hR
  have hw : Region.wanted o (yielded ops a.tmps) = true := by simp [Region.wanted, hgd]
  rw [if_pos hw]
  obtain ⟨i0, hi, hz0, hz1, hz2⟩ := info_parts hI
  obtain ⟨us, Fs, l1, l2, o1, els, rfl⟩ := hown
  obtain ⟨uo, un, uc, rfl⟩ := hP.form _ _ _ _ hu
  have hn := List.nodup_append.1 hF
  have hgb : g ∈ blk (.slice (some ⟨g, 0, none⟩) L.length cap) := mem_blk.2 rfl
  obtain ⟨w', hrun, r1, r2⟩ := run_append_fits (P := Try.prog) (w.alloc (.cells #[.slice uo un uc] e)) 0 T o.type e i0 1 hT hi hz1 g L.length cap us (o1.alloc _) ⟨w.heap.size, 0, none⟩ 1 1 [.slice uo un uc] rfl (World.news_of_block (cs := #[.slice uo un uc]) (t := e) (fr := (0, 0)) (heap_alloc_new w _)) (by intro y hy; simp at hy; subst hy; rfl) hroom
  have hga : w.grownBy w' (some g) := ⟨r2.os, r2.tape, r2.output, by have h := r2.size; simp at h; omega, fun k hk hr => (r2.block k (by simp; omega) hr).trans (Below.heap_alloc _ _ _ hk)⟩
  have hwr : Wr [g] w w' := Wr.ofRow hga (fun q e => by have e9 := Option.some.inj e; simp [e9])
  have hfl : (Fs ++ [Fb]).flatten = Fs.flatten ++ Fb := by simp
  unfold Oper.wp
  simp only [execOp, ho, resolve, invoke, builtin, Sem.run_bind, Sem.run_pure, Result.andThen_ok, List.map_toArray, List.map_cons, List.map_nil, hs, hx, hrun]
  have hlen : (L ++ [b]).length = L.length + 1 := by simp
  have := h w' (blk (.slice (some ⟨g, 0, none⟩) (L ++ [b]).length cap) ++ (Fs ++ [Fb]).flatten) ⟨us ++ [.slice uo un uc], Fs ++ [Fb], by simp [l1], by simp [l2], by rw [hlen]; exact r1, fun i hi => ?_, rfl⟩ ?_ ?_ hga
  · rw [hlen] at this
    exact this
  · by_cases hil : i < L.length
    · have e1 : (us ++ [Value.slice uo un uc]).getD i (.slice none 0 0) = us.getD i (.slice none 0 0) := by simp [List.getElem?_append_left (show i < us.length by omega)]
      have e2 : (Fs ++ [Fb]).getD i [] = Fs.getD i [] := by simp [List.getElem?_append_left (show i < Fs.length by omega)]
      rw [e1, e2, List.getElem_append_left hil]
      exact hP.wr (els i hil) hwr (fun y hy hy2 => hn.2.2 g hgb y (flat_in (by omega) y hy) (by simp at hy2; exact hy2.symm))
    · have hie : i = L.length := by rw [List.length_append] at hi; simp at hi; omega
      subst hie
      have e1 : (us ++ [Value.slice uo un uc]).getD L.length (.slice none 0 0) = .slice uo un uc := by rw [← l1]; simp
      have e2 : (Fs ++ [Fb]).getD L.length [] = Fb := by rw [← l2]; simp
      rw [e1, e2, List.getElem_append_right (Nat.le_refl _)]
      simp only [Nat.sub_self, List.getElem_cons_zero]
      exact hP.wr hu hwr (fun y hy hy2 => hd y hy (by simp at hy2; subst hy2; simp [hgb]))
  · rw [hfl]
    have hb : blk (.slice (some ⟨g, 0, none⟩) (L ++ [b]).length cap) = [g] := rfl
    rw [hb]
    refine List.nodup_append.2 ⟨by simp, List.nodup_append.2 ⟨hn.2.1, hFb, fun y hy z hz => ?_⟩, fun y hy z hz => ?_⟩
    · rintro rfl
      exact hd y hz (by simp [hy])
    · rintro rfl
      simp at hy
      subst hy
      rcases List.mem_append.1 hz with hz | hz
      · exact hn.2.2 y hgb y hz rfl
      · exact hd y hz (by simp [hgb])
  · intro y hy
    rw [hfl] at hy
    rcases List.mem_append.1 hy with hy | hy
    · have e9 : g = y := Option.some.inj (mem_blk.1 hy)
      subst e9
      exact .inl (by simp [hgb])
    · rcases List.mem_append.1 hy with hy | hy
      · exact .inl (by simp [hy])
      · exact .inr hy

end Go.Proofs.Ytkefpjbdkhifhaa

namespace Go.Proofs.Ytkefpjbdkhifhaa
open Go.RowKit

section
variable {P : Program} {ops : Array Oper} {md : Region.Mode} {S : World → Prop} {Q : Exit → Act → World → Prop} {m : Nat}
def lexRawT (md : Region.Mode) (ops : Array Oper) (m f : Nat) : List Bool → Nat → Array Bool → Bool
  | [], _, _ => true
  | true :: ms, k, listed => (Region.ready md ops listed).contains k && Region.free md ops listed k && (k != m) && waits md ops (f + 1) m k && lexRawT md ops m f ms (k + 1) (listed.setIfInBounds k true)
  | false :: ms, k, listed => lexRawT md ops m f ms (k + 1) listed
theorem anyT_raw {f fl : Nat} (hs : Region.noSelect ops = true) (hQ : ∀ c a d v w, Q (.panic c) (Act.put a d v) w → Q (.panic c) a w) :
    ∀ (l : List Oper) (ms : List Bool) (k : Nat) (listed : Array Bool) (a : Act) (w : World), l.length = ms.length → (∀ j, j < l.length → l[j]? = ops[k + j]?) → Cl md ops listed →
    lexRawT md ops m f ms k listed = true → S w → heldF P ops S (fun a' => wpAnyT P md ops Q S m fl (listedOf ms k listed) a' w) l ms a → wpAnyT P md ops Q S m (takenF ms + fl) listed a w
  | [], [], _, listed, a, w, _, _, _, _, _, h => by simp only [takenF, Nat.zero_add]; exact h
  | [], _ :: _, _, _, _, _, hl, _, _, _, _, _ => by simp at hl
  | _ :: _, [], _, _, _, _, hl, _, _, _, _, _ => by simp at hl
  | o :: l, true :: ms, k, listed, a, w, hl, ha, hcl, hB, hS, h => by
    have h0 : ops[k]? = some o := by have := ha 0 (by simp); simpa using this.symm
    simp only [lexRawT, Bool.and_eq_true, bne_iff_ne] at hB
    obtain ⟨⟨⟨⟨hr, hf⟩, hne⟩, hw⟩, hB'⟩ := hB
    obtain ⟨v, hy, hK⟩ := h
    have hrm : k ∈ Region.ready md ops listed := by simpa using hr
    have e : takenF (true :: ms) + fl = (takenF ms + fl) + 1 := by simp only [takenF]; omega
    rw [e]
    exact wpAnyT_first h0 hne hw (Region.noSelect_spec hs) (fun c a' w' hq => hQ c a' _ _ w' hq) _ listed a w hcl (Region.free_spec h0 hf) hrm hy hS
      (anyT_raw hs hQ l ms (k + 1) _ _ w (by simpa using hl) (fun j hj => by have := ha (j + 1) (by simpa using hj); simpa [Nat.add_assoc, Nat.add_comm 1 j] using this) (hcl.set hrm) hB' hS hK)
  | o :: l, false :: ms, k, listed, a, w, hl, ha, hcl, hB, hS, h =>
    anyT_raw hs hQ l ms (k + 1) listed a w (by simpa using hl) (fun j hj => by have := ha (j + 1) (by simpa using hj); simpa [Nat.add_assoc, Nat.add_comm 1 j] using this) hcl hB hS h

theorem anyT_step1 {l : List Oper} {i f : Nat} {o : Oper} {listed : Array Bool} {a : Act} {w : World} (ho : l[i]? = some o) (hr : Region.ready md l.toArray listed = [i])
    (h : ∀ K' : Act → World → Prop, Shut (∀ a w, (i = m ∨ S w) → wpAnyT P md l.toArray Q S m f (listed.setIfInBounds i true) a w → K' a w) → if Region.wanted o (yielded l.toArray a.tmps) = true then Oper.wp P o a w K' Q else K' (a.put o.dst undef) w) :
    wpAnyT P md l.toArray Q S m (f + 1) listed a w := by
  refine ⟨fun h1 => by rw [hr] at h1; simp at h1, fun j hj => ?_⟩
  rw [hr] at hj
  obtain rfl : j = i := by simpa using hj
  exact wpOp_step (by simpa using ho) (fun K' hK => h K' (fun a' w' hS ht => hK a' w' ⟨hS, ht⟩))
theorem anyT_step2 {l : List Oper} {i j f : Nat} {oi oj : Oper} {listed : Array Bool} {a : Act} {w : World} (hoi : l[i]? = some oi) (hoj : l[j]? = some oj) (hr : Region.ready md l.toArray listed = [i, j])
    (hi : ∀ K' : Act → World → Prop, Shut (∀ a w, (i = m ∨ S w) → wpAnyT P md l.toArray Q S m f (listed.setIfInBounds i true) a w → K' a w) → if Region.wanted oi (yielded l.toArray a.tmps) = true then Oper.wp P oi a w K' Q else K' (a.put oi.dst undef) w)
    (hj : ∀ K' : Act → World → Prop, Shut (∀ a w, (j = m ∨ S w) → wpAnyT P md l.toArray Q S m f (listed.setIfInBounds j true) a w → K' a w) → if Region.wanted oj (yielded l.toArray a.tmps) = true then Oper.wp P oj a w K' Q else K' (a.put oj.dst undef) w) :
    wpAnyT P md l.toArray Q S m (f + 1) listed a w := by
  refine ⟨fun h1 => by rw [hr] at h1; simp at h1, fun q hq => ?_⟩
  rw [hr] at hq
  rcases List.mem_cons.1 hq with rfl | hq
  · exact wpOp_step (by simpa using hoi) (fun K' hK => hi K' (fun a' w' hS ht => hK a' w' ⟨hS, ht⟩))
  · obtain rfl : q = j := by simpa using hq
    exact wpOp_step (by simpa using hoj) (fun K' hK => hj K' (fun a' w' hS ht => hK a' w' ⟨hS, ht⟩))
theorem anyT_done {listed : Array Bool} {a : Act} {w : World} (hr : Region.ready md ops listed = []) (h : Q .normal a w) : ∀ f, wpAnyT P md ops Q S m f listed a w
  | 0 => ⟨hr, h⟩
  | _ + 1 => ⟨fun _ => h, fun j hj => by rw [hr] at hj; cases hj⟩
end

theorem wp_region_rawT {P : Program} {id : Nat} {Q : Exit → Act → World → Prop} {a : Act} {w : World} {l : List Oper} (f : Nat) (S : World → Prop) (ms : List Bool) (hm : P.follows .mixedOrders = true) (hQ : ∀ c a d v w, Q (.panic c) (Act.put a d v) w → Q (.panic c) a w)
    (hl : l.length = ms.length) (hB : (Region.noSelect l.toArray && lexRawT .any l.toArray (l.length - 1) f ms 0 (Array.replicate l.length false)) = true)
    (hS : S w.drew) (h : heldF P l.toArray S (fun a' => wpAnyT P .any l.toArray Q S (l.length - 1) (leftF ms) (listedOf ms 0 (Array.replicate l.length false)) a' w.drew) l ms a) : (Code.region id l.toArray true).wp P Q a w := by
  rw [Bool.and_eq_true] at hB
  refine wp_region_any hm (wpAny_of_T (S := S) (m := l.length - 1) _ _ _ _ ?_)
  have := anyT_raw (P := P) (ops := l.toArray) (md := .any) (S := S) (Q := Q) (m := l.length - 1) (f := f) (fl := leftF ms) hB.1 hQ l ms 0 (Array.replicate l.length false) a w.drew hl (fun j hj => by simp) (Cl.none _) hB.2 hS h
  rw [count_all ms, ← hl] at this
  simpa using this

end Go.Proofs.Ytkefpjbdkhifhaa

namespace Go.Proofs.Ytkefpjbdkhifhaa
open Go.RowKit Go.Shelf

section
variable {P : Program} {ops : Array Oper} {md : Region.Mode} {Q : Exit → Act → World → Prop}

def noDefer : List Oper → Bool
  | [] => true
  | o :: r => (match o.op with | .defer _ => false | _ => true) && noDefer r
theorem noDefer_at : ∀ {l : List Oper}, noDefer l = true → ∀ (i : Nat) (o : Oper), l[i]? = some o → ∀ c, o.op ≠ .defer c
  | [], _, i, o, h, _ => by simp at h
  | x :: r, hn, i, o, h, c => by
    simp only [noDefer, Bool.and_eq_true] at hn
    cases i with
    | zero =>
      have e : x = o := by simpa using h
      subst e
      intro e2
      simp [e2] at hn
    | succ i => exact noDefer_at hn.2 i o (by simpa using h) c

theorem rows_round {row : String} {args : Array Value} {w : World} {R : Value → World → Prop} (l n : Nat) (h : Rows P row args w R) : RowsIn (Fence.wide.inRound l) n P row args w R := fun c cs _ => by
  obtain ⟨v, w', r, s⟩ := h c cs
  refine ⟨v, w', r, ?_⟩
  rw [fenced_inRound]
  exact stepsIn_wide.2 s

theorem wpOp_round {l n i : Nat} {K : Act → World → Prop} {a : Act} {w : World} (hnd : ∀ (i : Nat) (o : Oper), ops[i]? = some o → ∀ c, o.op ≠ .defer c) (hQ : ∀ a w, ¬ Q .outgrown a w) (h : wpOp P ops Q i K a w) : wpOpIn (Fence.wide.inRound l) n P ops Q i K a w := by
  unfold wpOp at h
  unfold wpOpIn
  cases ho : ops[i]? with
  | none => simp only [ho] at h; exact h
  | some o =>
    simp only [ho] at h
    by_cases hw : Region.wanted o (yielded ops a.tmps) = true
    · simp only [hw, if_true] at h ⊢
      rcases h with h | ⟨_, a0, w0, hq⟩
      · unfold Oper.wp at h
        refine ⟨fun _ _ => trivial, ?_⟩
        rw [Oper.semAt_eq _ _ _ (hnd i o ho)]
        generalize (execOp a.eval o).run P w = r at h ⊢
        cases r with
        | ok x w' =>
          cases x with
          | enter f args => exact ⟨fun e => by simp [Fence.wide, Fence.inRound] at e, CallsIn.inRound l (callsIn_wide.2 h)⟩
          | row rw' args => exact ⟨fun e => by simp [Fence.wide, Fence.inRound] at e, rows_round l _ h⟩
          | _ => first | exact h | exact h.elim
        | halt x w' => cases x <;> first | exact h | exact h.elim
      · exact (hQ _ _ hq).elim
    · simp only [hw, if_false, Bool.false_eq_true] at h ⊢
      exact ⟨fun _ _ => trivial, h⟩

theorem wpAny_round {l n : Nat} (hnd : ∀ (i : Nat) (o : Oper), ops[i]? = some o → ∀ c, o.op ≠ .defer c) (hQ : ∀ a w, ¬ Q .outgrown a w) : ∀ (fuel : Nat) (listed : Array Bool) (a : Act) (w : World), wpAny P md ops Q fuel listed a w → wpAnyIn (Fence.wide.inRound l) n P md ops Q fuel listed a w
  | 0, _, _, _, h => h
  | fuel + 1, _, _, _, h => ⟨h.1, fun i hi => wpOpIn_mono (fun a' w' h' => wpAny_round hnd hQ fuel _ a' w' h') (wpOp_round hnd hQ (h.2 i hi))⟩
end

/-- A region that draws its order, inside of a round. -/
theorem wpIn_raw {P : Program} {id l0 n : Nat} {Q : Exit → Act → World → Prop} {a : Act} {w : World} {l : List Oper} (S : World → Prop) (ms : List Bool) (hm : P.follows .mixedOrders = true) (hQo : ∀ a w, ¬ Q .outgrown a w) (hQ : ∀ c a d v w, Q (.panic c) (Act.put a d v) w → Q (.panic c) a w)
    (hl : l.length = ms.length) (hnd : noDefer l = true) (hB : (Region.noSelect l.toArray && lexRaw .any l.toArray ms 0 (Array.replicate l.length false)) = true)
    (hS : S w.drew) (h : heldF P l.toArray S (fun a' => wpAnyH P .any l.toArray Q S (leftF ms) (listedOf ms 0 (Array.replicate l.length false)) a' w.drew) l ms a) : (Code.region id l.toArray true).wpIn (Fence.wide.inRound l0) n P Q a w := by
  rw [Bool.and_eq_true] at hB
  have := anyH_raw (P := P) (ops := l.toArray) (md := .any) (S := S) (Q := Q) (leftF ms) hB.1 hQ l ms 0 (Array.replicate l.length false) a w.drew hl (fun j hj => by simp) hB.2 hS h
  rw [count_all ms, ← hl] at this
  refine wpIn_region_any hm (wpAny_round (fun i o ho c => noDefer_at hnd i o (by simpa using ho) c) hQo _ _ _ _ ?_)
  have h2 := wpAny_of_held _ _ _ _ this
  rw [List.size_toArray]
  exact h2

/-- What an iterator gives a loop whose body may also return: all of S, or a beginning of it. -/
def Stops {α : Type} (P : Program) (g : Nat) (lb : Array Value) (encs : α → Array Value) (S : List α) (O : Nat → Prop) (w : World) : Prop :=
  ∀ (n l : Nat) (J : List α → World → Prop) (Jx : World → Prop) (W : World), But O w W → (∀ k, O k → k < W.heap.size) → l < W.heap.size → ¬ O l → w.heap.size ≤ l → LocalJ (fun k => O k ∨ k = l) J →
    (∀ pre x W1 m, J pre W1 → But (fun k => O k ∨ k = l) W W1 → pre ++ [x] <+: S → YieldAt Fence.wide m P l (encs x) W1 fun e W' => ((e = .returned (.bool true) ∧ J (pre ++ [x]) W') ∨ (e = .returned (.bool false) ∧ Jx W')) ∧ But (fun k => O k ∨ k = l) W1 W') → J [] W →
    CallsIn Fence.wide n P g (#[.func (.yield l) #[] #[]] ++ lb) W fun e W' => (∃ v, e = .returned v) ∧ (J S W' ∨ Jx W') ∧ But (fun k => O k ∨ k = l) W W'

/-- How the body of a round is left. -/
def onOrRet (R Rx : World → Prop) : Exit → Act → World → Prop
  | .normal, _, W' => R W'
  | .ret, _, W' => Rx W'
  | _, _, _ => False

theorem rangeFunc_stops {α : Type} {n : Nat} {P : Program} {g : Operand} {ps : Array Tmp} {assign body : Code} {Q : Exit → Act → World → Prop} {a : Act} {w : World}
    {gf : Nat} {lb : Array Value} (hg : a.eval g = .func (.func gf) #[] lb) (eg : ∀ args w, (callFunc gf args).run P w = .ok (.enter gf args) w)
    {encs : α → Array Value} {S : List α} {O : Nat → Prop} (hO : ∀ k, O k → k < w.heap.size) (hG : Stops P gf lb encs S O w) (hps : ∀ x, (encs x).size = ps.size)
    (I : List α → World → Prop) (hI : LocalJ O I) (Ix : World → Prop) (hIx : ∀ W W', Ix W → (∀ k, O k → W'.heap[k]? = W.heap[k]?) → Ix W') (h0 : I [] w) (a₁ : α → Act)
    (hassign : ∀ (l m : Nat) (x : α) (W : World) (K : Act → World → Prop), K (a₁ x) W →
      assign.wpIn (Fence.wide.inRound l) m P (Exit.then K (fun _ _ _ => False)) { tmps := (ps.zip (encs x)).foldl (fun t (p, v) => t.setIfInBounds p v) a.tmps, defers := [] } W)
    (hbody : ∀ (l m : Nat) (pre : List α) (x : α) (W : World), I pre W → But O w W → pre ++ [x] <+: S → body.wpIn (Fence.wide.inRound l) m P (onOrRet (fun W' => I (pre ++ [x]) W' ∧ But O W W') (fun W' => Ix W' ∧ But O W W')) (a₁ x) W)
    (hdone : ∀ (D : Nat) (W : World), w.heap.size ≤ D → I S W → But O w W → W.heap[D]? = some (.deferred (some [])) → Q .normal { a with defers := { target := .collected D, args := #[] } :: a.defers } W)
    (hstop : ∀ (D : Nat) (W : World), w.heap.size ≤ D → Ix W → But O w W → W.heap[D]? = some (.deferred (some [])) → Q .ret { a with defers := { target := .collected D, args := #[] } :: a.defers } W) :
    (Code.rangeFunc g ps assign body).wpIn Fence.wide n P Q a w := by
  refine wpIn_rangeFunc ?_
  intro fn hfn
  obtain ⟨R, hR⟩ : ∃ R : LoopState → Option Code → Loop, R = fun st pe => { state := st, pending := pe, fn, tmps := a.tmps, params := ps, assign, body, defers := w.heap.size } := ⟨_, rfl⟩
  obtain ⟨l, hl⟩ : ∃ l, w.heap.size + 1 = l := ⟨_, rfl⟩
  obtain ⟨W1, hW1⟩ : ∃ W1, (w.alloc (.deferred (some []))).alloc (.loop (R .ready none)) = W1 := ⟨_, rfl⟩
  have hs1 : W1.heap.size = w.heap.size + 2 := by rw [← hW1]; simp
  have hOl : ¬ O l := fun e => by have := hO l e; omega
  have hOD : ¬ O w.heap.size := fun e => by have := hO _ e; omega
  have hL1 : W1.heap[l]? = some (.loop (R .ready none)) := by
    rw [← hW1, ← hl]; have := World.alloc_heap_new (w.alloc (.deferred (some []))) (.loop (R .ready none)); rwa [World.size_alloc] at this
  have hD1 : W1.heap[w.heap.size]? = some (.deferred (some [])) := by
    rw [← hW1]; exact (Below.heap_alloc _ _ _ (by simp)).trans (World.alloc_heap_new w _)
  have b1 : ∀ O', But O' w W1 := fun O' => by
    rw [← hW1]; exact But.of_grown (grown_alloc (grown_alloc (World.grownBy.refl w none) _) _) (fun g e => by cases e)
  have hI1 : I [] W1 := hI _ _ _ h0 (fun k hk => (b1 (fun _ => False)).block k (hO k hk) (fun e => e))
  refine ⟨l, [{ target := .collected w.heap.size, args := #[] }], W1, { target := .fn (.func gf) lb, args := #[.func (.yield l) #[] #[]] }, W1, gf, #[.func (.yield l) #[] #[]] ++ lb, W1, ?_, ?_, fun _ _ => trivial, ?_, (fun h => by simp [Fence.wide] at h), ?_⟩
  · rw [← hW1, ← hl, hR]; exact run_enterLoop_outer _ _ _ _ _
  · simp only [resolve, hg]
    simp [go_sem]
  · simp [invoke, go_sem, eg]
  · have loc : LocalJ (fun k => O k ∨ k = l) (fun pre W => I pre W ∧ W.heap[l]? = some (.loop (R .ready none))) := fun pre W W' h hk => ⟨hI _ _ _ h.1 (fun k ok => hk k (.inl ok)), (hk l (.inr rfl)).trans h.2⟩
    refine (hG (n - 1) l _ (fun W => Ix W ∧ W.heap[l]? = some (.loop (R .done (some .ret)))) W1 (b1 O) (fun k hk => by have := hO k hk; omega) (by omega) hOl (by omega) loc ?_ ⟨hI1, hL1⟩).mono ?_
    · rintro pre x W m ⟨hi, hlW⟩ bW hlen
      have hlt : l < W.heap.size := (Array.getElem?_eq_some_iff.1 hlW).1
      have hy := run_yield (P := P) (args := encs x) hlW (by rw [hR]; exact hps x)
      rw [hR] at hy
      refine ⟨fn, _, assign, body, hy, roundIn_of_wpIn hfn (hassign l m x W _ ⟨_, run_beginRound hlW (by rw [hR]), ?_⟩)⟩
      clear hy
      obtain ⟨W2, hW2⟩ : ∃ W2, W.putObj l (.loop { R .ready none with state := .busy }) = W2 := ⟨_, rfl⟩
      rw [hW2]
      have hl2 : W2.heap[l]? = some (.loop { R .ready none with state := .busy }) := by rw [← hW2]; exact World.putObj_heap_same hlt
      have b2 : But (fun k => O k ∨ k = l) W W2 := by rw [← hW2]; exact But.putObj W l _ (.inr rfl)
      have hi2 : I pre W2 := hI _ _ _ hi (fun k hk => by rw [← hW2]; exact World.putObj_heap_other (fun e => hOl (by rw [← e]; exact hk)))
      have bw2 : But O w W2 := by
        have h := bW.trans b2
        exact ⟨h.os.trans (b1 O).os, h.tape.trans (b1 O).tape, h.output.trans (b1 O).output, Nat.le_trans (b1 O).size h.size, fun k hk ho => (h.block k (by omega) (fun e => by rcases e with e | e; exact ho e; omega)).trans ((b1 O).block k hk ho)⟩
      refine wpIn_mono (hbody l m pre x W2 hi2 bw2 hlen) ?_
      rintro e a3 W3 hp
      cases e with
      | normal =>
        obtain ⟨hi3, b3⟩ := hp
        have hl3 : W3.heap[l]? = some (.loop { R .ready none with state := .busy }) := (b3.block l (Array.getElem?_eq_some_iff.1 hl2).1 hOl).trans hl2
        have hlt3 : l < W3.heap.size := (Array.getElem?_eq_some_iff.1 hl3).1
        have he := run_endRound (P := P) none hl3
        have hi4 : I (pre ++ [x]) (W3.putObj l (.loop (R .ready none))) := hI _ _ _ hi3 (fun k hk => World.putObj_heap_other (fun e => hOl (by rw [← e]; exact hk)))
        have hl4 : (W3.putObj l (.loop (R .ready none))).heap[l]? = some (.loop (R .ready none)) := World.putObj_heap_same hlt3
        refine ⟨_, _, ?_, .inl ⟨rfl, hi4, hl4⟩, (b2.trans (b3.mono (fun k hk => .inl hk))).trans (But.putObj W3 l _ (.inr rfl))⟩
        rw [hR] at he ⊢
        exact he
      | ret =>
        obtain ⟨hi3, b3⟩ := hp
        have hl3 : W3.heap[l]? = some (.loop { R .ready none with state := .busy }) := (b3.block l (Array.getElem?_eq_some_iff.1 hl2).1 hOl).trans hl2
        have hlt3 : l < W3.heap.size := (Array.getElem?_eq_some_iff.1 hl3).1
        have he := run_endRound (P := P) (some .ret) hl3
        have hi4 : Ix (W3.putObj l (.loop (R .done (some .ret)))) := hIx _ _ hi3 (fun k hk => World.putObj_heap_other (fun e => hOl (by rw [← e]; exact hk)))
        have hl4 : (W3.putObj l (.loop (R .done (some .ret)))).heap[l]? = some (.loop (R .done (some .ret))) := World.putObj_heap_same hlt3
        refine ⟨_, _, ?_, .inr ⟨rfl, hi4, hl4⟩, (b2.trans (b3.mono (fun k hk => .inl hk))).trans (But.putObj W3 l _ (.inr rfl))⟩
        rw [hR] at he ⊢
        exact he
      | exit id => exact hp.elim
      | goto t => exact hp.elim
      | panic ch => exact hp.elim
      | outgrown => exact hp.elim
    · rintro e W5 ⟨⟨v, rfl⟩, hor, b5⟩
      have hD5 : W5.heap[w.heap.size]? = some (.deferred (some [])) := (b5.block w.heap.size (by omega) (fun e => by rcases e with e | e; exact hOD e; omega)).trans hD1
      have b6 : ∀ o, But (fun k => O k ∨ k = l) W1 (W5.putObj l o) := fun o => b5.trans (But.putObj W5 l o (.inr rfl))
      have b7 : ∀ o, But O w (W5.putObj l o) := fun o => ⟨(b6 o).os.trans (b1 O).os, (b6 o).tape.trans (b1 O).tape, (b6 o).output.trans (b1 O).output, Nat.le_trans (b1 O).size (b6 o).size, fun k hk ho => ((b6 o).block k (by omega) (fun e => by rcases e with e | e; exact ho e; omega)).trans ((b1 O).block k hk ho)⟩
      rcases hor with ⟨hi5, hl5⟩ | ⟨hi5, hl5⟩
      · have he := run_endLoop (P := P) hl5 (by rw [hR]; simp)
        exact ⟨none, _, by rw [hR] at he; exact he, hdone w.heap.size _ (Nat.le_refl _) (hI _ _ _ hi5 (fun k hk => World.putObj_heap_other (fun e => hOl (by rw [← e]; exact hk)))) (b7 _) ((World.putObj_heap_other (by omega)).trans hD5)⟩
      · have he := run_endLoop (P := P) hl5 (by rw [hR]; simp)
        refine ⟨some .ret, _, by rw [hR] at he; exact he, ?_⟩
        refine wpIn_ret ?_
        exact hstop w.heap.size _ (Nat.le_refl _) (hIx _ _ hi5 (fun k hk => World.putObj_heap_other (fun e => hOl (by rw [← e]; exact hk)))) (b7 _) ((World.putObj_heap_other (by omega)).trans hD5)

end Go.Proofs.Ytkefpjbdkhifhaa

namespace Go.Proofs.Ytkefpjbdkhifhaa
open Go.RowKit Go.Shelf

attribute [local go_sem] Oper.semAt_some

theorem load_rowR {F : Fence} {n : Nat} {P : Program} {ops : Array Oper} {rest : List Oper} {op : Oper} {a : Act} {w : World} {Q : Exit → Act → World → Prop} (hw : Region.wanted op (yielded ops a.tmps) = true) (ty : TypeId) (x : Operand) (ho : op.op = .load ty x)
    (b : Nat) (hx : a.eval x = .pointer (some ⟨b, 0, none⟩)) (X : Array Value) (t : TypeId) (hb : w.heap[b]? = some (.cells X t (0, 0))) (d : TypeDesc)
    (hu : P.underlying ty = some d) (hd : (match d with | .struct _ | .array _ _ => true | _ => false) = true) (hi : (P.info? ty).map (·.size) = some X.size)
    (h : wpListIn F n P ops Q rest (a.put op.dst (.agg X)) w) : wpListIn F n P ops Q (op :: rest) a w :=
  BigFrame.wpListIn_want hw fun K hK => by
    refine ⟨fun f hf => ?_, ?_⟩
    · simp [Oper.about, ho] at hf
    · rw [Oper.semAt_eq _ _ _ (by simp [ho]), exec_row ty x ho b hx X t hb d hu hd hi]
      exact hK _ _ h

/-- An operation whose guard is not met, inside of a round. -/
theorem skip_in {l n : Nat} {P : Program} {ops : Array Oper} {rest : List Oper} {op : Oper} {a : Act} {w : World} {Q : Exit → Act → World → Prop} (hw : Region.wanted op (yielded ops a.tmps) = false) (h : wpListIn (Fence.wide.inRound l) n P ops Q rest (a.put op.dst undef) w) : wpListIn (Fence.wide.inRound l) n P ops Q (op :: rest) a w :=
  wpListIn_step (fun K hK => by rw [hw]; exact ⟨fun _ _ => trivial, hK _ _ h⟩)

end Go.Proofs.Ytkefpjbdkhifhaa

namespace Go.Proofs.Ytkefpjbdkhifhaa
open Go.RowKit Go.Shelf

theorem wpIn_rawT {P : Program} {id l0 n : Nat} {Q : Exit → Act → World → Prop} {a : Act} {w : World} {l : List Oper} (f : Nat) (S : World → Prop) (ms : List Bool) (hm : P.follows .mixedOrders = true) (hQo : ∀ a w, ¬ Q .outgrown a w) (hQ : ∀ c a d v w, Q (.panic c) (Act.put a d v) w → Q (.panic c) a w)
    (hl : l.length = ms.length) (hnd : noDefer l = true) (hB : (Region.noSelect l.toArray && lexRawT .any l.toArray (l.length - 1) f ms 0 (Array.replicate l.length false)) = true)
    (hS : S w.drew) (h : heldF P l.toArray S (fun a' => wpAnyT P .any l.toArray Q S (l.length - 1) (leftF ms) (listedOf ms 0 (Array.replicate l.length false)) a' w.drew) l ms a) : (Code.region id l.toArray true).wpIn (Fence.wide.inRound l0) n P Q a w := by
  rw [Bool.and_eq_true] at hB
  have := anyT_raw (P := P) (ops := l.toArray) (md := .any) (S := S) (Q := Q) (m := l.length - 1) (f := f) (fl := leftF ms) hB.1 hQ l ms 0 (Array.replicate l.length false) a w.drew hl (fun j hj => by simp) (Cl.none _) hB.2 hS h
  rw [count_all ms, ← hl] at this
  refine wpIn_region_any hm (wpAny_round (fun i o ho c => noDefer_at hnd i o (by simpa using ho) c) hQo _ _ _ _ ?_)
  have h2 := wpAny_of_T _ _ _ _ this
  rw [List.size_toArray]
  exact h2

theorem store_rowR {F : Fence} {n : Nat} {P : Program} {ops : Array Oper} {rest : List Oper} {op : Oper} {a : Act} {w : World} {Q : Exit → Act → World → Prop} (hw : Region.wanted op (yielded ops a.tmps) = true) (ty : TypeId) (x y : Operand) (ho : op.op = .store ty x y)
    (b : Nat) (hx : a.eval x = .pointer (some ⟨b, 0, none⟩)) (X : Array Value) (hy : a.eval y = .agg X) (Y : Array Value) (t : TypeId) (hb : w.heap[b]? = some (.cells Y t (0, 0))) (hYX : Y.size = X.size)
    (hi : (P.info? ty).map (·.size) = some X.size) (h1 : X.all (·.oneCell') = true)
    (h : ∀ w', w'.heap[b]? = some (.cells X t (0, 0)) → w.grownBy w' (some b) → wpListIn F n P ops Q rest (a.put op.dst undef) w') : wpListIn F n P ops Q (op :: rest) a w := by
  have hrun : (execOp a.eval op).run P w = .ok .skip (w.setRow b X) := by
    unfold execOp
    simp only [ho, hx, hy, Instr.storeAt, Instr.sureAddr, Sem.run_bind, Sem.run_pure, Result.andThen_ok, run_storeVar_row w b t ty Y X hb hi hYX h1]
  refine BigFrame.wpListIn_want hw fun K hK => ?_
  refine ⟨fun f hf => ?_, ?_⟩
  · simp [Oper.about, ho] at hf
  · rw [Oper.semAt_eq _ _ _ (by simp [ho]), hrun]
    exact hK _ _ (h _ (setRow_heap w b Y X t _ hb) (grown_row w b X))

end Go.Proofs.Ytkefpjbdkhifhaa
