/-
  ToneMake, ToneCopy, ToneCrop, TonePad, ToneSpan, ToneMean, ToneCols.
-/
import Derived.Shelf.Abstract
import Derived.Test.YtkefpjbdkhifhaaMAc

namespace Go.Proofs.Ytkefpjbdkhifhaa
open Go.RowKit Go.Shelf

set_option maxRecDepth 20000 in
set_option maxHeartbeats 1600000 in
theorem implPlaneOk (ao : Option Addr) (m cap : Nat) (zs : List Int) (w h : Int) (W : World) (hr : Rd .i64 W ao m zs) (hm : m ≤ 9223372036854775807) (b : Bool) (HB : Hid (planeB zs w h = b)) :
    Calls Try.prog 31 #[.slice ao m cap, .int .i64 w, .int .i64 h] W fun e W' => e = .returned (.bool b) ∧ W.grownBy W' none := by
  have HR := hide hr
  clear hr
  go_enter Try.func31, Try.ntmps31
  go_wp2_with fail
  refine (fixTones ao m cap zs w h W (unhide HR) hm b HB).mono ?_
  rintro e w1 ⟨⟨v, rfl, hf⟩, g1⟩
  have HG1 := hide g1
  clear g1
  rcases hf with ⟨rfl, wd, ht, g, n, rfl, rfl, _, rfl, _⟩ | ⟨rfl, a, c, so, sn, sc, rfl, _⟩
  · go_wp2
    go_ret
    exact ⟨rfl, grown_alloc (unhide HG1) _⟩
  · go_wp2
    go_ret
    exact ⟨rfl, grown_alloc (unhide HG1) _⟩

theorem field_grid (a b c : Value) (w : World) : (Instr.field 57 (.agg #[a, b, c]) 0).run Try.prog w = .ok (.agg #[a, b, c]) w := by kernel_rfl
theorem field_things (a b c : Value) (w : World) : (Instr.field 55 (.agg #[a, b, c]) 1).run Try.prog w = .ok c w := by kernel_rfl

/-- A function that makes a plane anew with other sides. -/
def TurnC (F : Nat) (ok : Nat → Nat → Nat → Nat → Prop) (X : List Int → Nat → Nat → Nat → Nat → List Int) : Prop :=
  ∀ (wd ht g n nw nh m : Nat) (L : List Int) (W : World), (1 ≤ wd ∧ wd ≤ 1024) → (1 ≤ ht ∧ ht ≤ 1024) → Hid (wd * ht = n) → n ≤ 131072 → (1 ≤ nw ∧ nw ≤ 1024) → (1 ≤ nh ∧ nh ≤ 1024) → Hid (nw * nh = m) → m ≤ 131072 → ok wd ht nw nh →
    Blk .u16 73 W g L → L.length = n → (∀ x ∈ L, 0 ≤ x ∧ x ≤ 4095) →
    Calls Try.prog F #[.agg #[.int .i64 (wd : Int), .int .i64 (ht : Int), .slice (some ⟨g, 0, none⟩) n n], .agg #[.int .i64 (nw : Int), .int .i64 (nh : Int)]] W fun e W' =>
      ∃ g', e = .returned (.agg #[.int .i64 (nw : Int), .int .i64 (nh : Int), .slice (some ⟨g', 0, none⟩) m m]) ∧ Blk .u16 73 W' g' (X L wd ht nw nh) ∧ W.grownBy W' none

set_option maxRecDepth 20000 in
set_option maxHeartbeats 3200000 in
theorem remade (F : Nat) (ok : Nat → Nat → Nat → Nat → Prop) (X : List Int → Nat → Nat → Nat → Nat → List Int) (hF : TurnC F ok X) (eF : ∀ args w, (callFunc F args).run Try.prog w = .ok (.enter F args) w)
    (ao : Option Addr) (m cap : Nat) (zs : List Int) (w h nw nh : Int) (W : World) (hr : Rd .i64 W ao m zs) (hm : m ≤ 9223372036854775807) (hok : ok w.toNat h.toNat nw.toNat nh.toNat)
    (hX : ∀ (wd ht nw nh : Nat), ok wd ht nw nh → zs.length = wd * ht → 1 ≤ wd → 1 ≤ ht → (∀ x ∈ zs, 0 ≤ x ∧ x ≤ 4095) → (X zs wd ht nw nh).length = nw * nh ∧ ∀ x ∈ X zs wd ht nw nh, 0 ≤ x ∧ x ≤ 4095)
    (L : List Int) (HL : Hid ((if planeB zs w h && sidesB nw nh then X zs w.toNat h.toNat nw.toNat nh.toNat else []) = L)) :
    Calls Try.prog 45 #[.slice ao m cap, .agg #[.int .i64 w, .int .i64 h], .agg #[.int .i64 nw, .int .i64 nh], .func (.func F) #[] #[]] W fun e W' => ∃ so sc, e = .returned (.slice so L.length sc) ∧ W'.ownsRow W.heap.size 3 1 (.slice so L.length sc) L.length (L.map (Value.int .i64)) ∧ W.grownBy W' none := by
  have HX := hide hX
  have HF := hide hF
  have HEF := hide eF
  have HOK := hide hok
  clear hX hF hok eF
  obtain ⟨pb, HP⟩ : ∃ y, Hid (planeB zs w h = y) := ⟨_, rfl⟩
  obtain ⟨sb, HS⟩ : ∃ y, Hid (sidesB nw nh = y) := ⟨_, rfl⟩
  obtain ⟨W0, hW0⟩ : ∃ W0, (W.alloc (.cells #[.int .i64 w, .int .i64 h] 48)).alloc (.cells #[.int .i64 nw, .int .i64 nh] 48) = W0 := ⟨_, rfl⟩
  have HG0 : Hid (W.grownBy W0 none) := by rw [← hW0]; exact grown_alloc (World.grownBy_alloc _ _ _) _
  have b1 : Hid (W0.heap[W.heap.size + 1]? = some (.cells #[.int .i64 nw, .int .i64 nh] 48 (0, 0))) := by
    rw [← hW0]
    have := heap_alloc_new (W.alloc (.cells #[.int .i64 w, .int .i64 h] 48)) (.cells #[.int .i64 nw, .int .i64 nh] 48)
    unfold Hid
    simpa using this
  have HR := hide (hr.grown (unhide HG0))
  have HZ := hide hr.1
  have HW := hide hW0
  clear hW0 hr
  go_enter Try.func45, Try.ntmps45
  go_wp2_with fail
  rw [unhide HW]
  refine (fixTones ao m cap zs w h W0 (unhide HR) hm pb HP).mono ?_
  rintro e w1 ⟨⟨v, rfl, hf⟩, g1⟩
  have b1' := grown_atG g1 (unhide b1) (by simp)
  have k0 : w1.cell? ⟨W.heap.size + 1, 0, none⟩ = some (.int .i64 nw) := by rw [cell_of_row w1 _ 0 _ _ (0, 0) b1']; rfl
  have k1 : w1.cell? ⟨W.heap.size + 1, 1, none⟩ = some (.int .i64 nh) := by rw [cell_of_row w1 _ 1 _ _ (0, 0) b1']; rfl
  have HG1 := hide (grown_trans (unhide HG0) g1)
  have HG1' := hide g1
  clear g1 b1' HW
  rcases hf with ⟨rfl, wd, ht, g, n, rfl, rfl, hn, rfl, hB, hge⟩ | ⟨rfl, a, c, so, sn, sc, rfl, _⟩
  · have hpl := plane_of (unhide HP)
    have hnm : n = m := by
      have h1 := hpl.2.2.1
      rw [unhide HZ, ← Int.natCast_mul, hn] at h1
      omega
    subst hnm
    have HPL := hide hpl
    have HN := hide hn
    have HB := hide hB
    have hbd : (1 ≤ wd ∧ wd ≤ 1024) ∧ (1 ≤ ht ∧ ht ≤ 1024) ∧ n ≤ 131072 := by
      obtain ⟨h1, h2, _, h4, _⟩ := hpl
      rw [← Int.natCast_mul, hn] at h4
      omega
    have hlt : W.heap.size + 1 < w1.heap.size := World.block_lt_of_cell? w1 _ k0
    have GT1 := World.grownBy_alloc w1 (.cells #[.int .i64 (wd : Int), .int .i64 (ht : Int), .slice (some ⟨g, 0, none⟩) n n] 57) none
    have j0 := GT1.cell k0 (by simp)
    have j1 := GT1.cell k1 (by simp)
    clear hpl hn hB hge GT1
    cases sb with
    | false =>
      obtain rfl : L = [] := by rw [← unhide HL, unhide HS]; simp
      go_wp2_with fail
      refine (isPlane nw nh false HS _).mono ?_
      rintro e w2 ⟨rfl, g2⟩
      have HG2 := hide (grown_trans (grown_alloc (unhide HG1) _) g2)
      clear g2
      go_wp2
      go_ret
      exact ⟨none, 0, rfl, ⟨rfl, .inl ⟨rfl, rfl⟩⟩, unhide HG2⟩
    | true =>
      obtain ⟨s1, s2, s3⟩ := sides_of (unhide HS)
      obtain ⟨nwN, rfl⟩ : ∃ k : Nat, nw = (k : Int) := ⟨nw.toNat, by omega⟩
      obtain ⟨nhN, rfl⟩ : ∃ k : Nat, nh = (k : Int) := ⟨nh.toNat, by omega⟩
      obtain ⟨mm, HMM⟩ : ∃ k : Nat, Hid (nwN * nhN = k) := ⟨_, rfl⟩
      have hmm : mm ≤ 131072 := by rw [← Int.natCast_mul, unhide HMM] at s3; omega
      have HLG : Hid (X zs wd ht nwN nhN = L) := by
        unfold Hid
        rw [← unhide HL, unhide HP, unhide HS]
        rfl
      have hok : ok wd ht nwN nhN := by have := unhide HOK; simpa using this
      have hx := unhide HX wd ht nwN nhN hok (by rw [unhide HZ, unhide HN]) hbd.1.1 hbd.2.1.1 (unhide HPL).2.2.2.2
      rw [unhide HLG, unhide HMM] at hx
      have HXX := hide hx
      have HOK' := hide hok
      clear hx hok s3
      go_wp2_with fail
      refine (isPlane (nwN : Int) (nhN : Int) true HS _).mono ?_
      rintro e w2 ⟨rfl, g2⟩
      have GA := grown_trans (World.grownBy_alloc w1 (.cells #[.int .i64 (wd : Int), .int .i64 (ht : Int), .slice (some ⟨g, 0, none⟩) n n] 57) none) g2
      have HB2 := hide ((unhide HB).grown GA)
      have k0' := GA.cell k0 (by simp)
      have k1' := GA.cell k1 (by simp)
      have bt := grown_atG g2 (heap_alloc_new w1 (.cells #[.int .i64 (wd : Int), .int .i64 (ht : Int), .slice (some ⟨g, 0, none⟩) n n] 57)) (by simp)
      have t0 : w2.cell? ⟨w1.heap.size, 0, none⟩ = some (.int .i64 (wd : Int)) := by rw [cell_of_row w2 _ 0 _ _ (0, 0) bt]; rfl
      have t1 : w2.cell? ⟨w1.heap.size, 1, none⟩ = some (.int .i64 (ht : Int)) := by rw [cell_of_row w2 _ 1 _ _ (0, 0) bt]; rfl
      have t2 : w2.cell? ⟨w1.heap.size, 2, none⟩ = some (.slice (some ⟨g, 0, none⟩) n n) := by rw [cell_of_row w2 _ 2 _ _ (0, 0) bt]; rfl
      have HG2 := hide (grown_trans (unhide HG1) GA)
      have eF := unhide HEF
      clear k0 k1 GA bt g2 HB
      go_wp2_with fail
      refine (unhide HF wd ht g n nwN nhN mm zs w2 hbd.1 hbd.2.1 HN hbd.2.2 (by omega) (by omega) HMM hmm (unhide HOK') (unhide HB2) (unhide HZ) (unhide HPL).2.2.2.2).mono ?_
      rintro e w3 ⟨g', rfl, hB3, g3⟩
      rw [unhide HLG] at hB3
      have HB3 := hide hB3
      have HG3 := hide (grown_trans (unhide HG2) g3)
      have fl0 := field_grid (.int .i64 (nwN : Int)) (.int .i64 (nhN : Int)) (.slice (some ⟨g', 0, none⟩) mm mm) w3
      have fl1 := field_things (.int .i64 (nwN : Int)) (.int .i64 (nhN : Int)) (.slice (some ⟨g', 0, none⟩) mm mm) w3
      clear hB3 g3 eF
      go_wp2_with fail
      refine (toneList 73 g' mm L w3 (unhide HB3) (unhide HXX).1 hmm (unhide HXX).2).mono ?_
      rintro e w4 ⟨so, sc, rfl, o4, g4⟩
      have hL := (unhide HXX).1
      rw [← hL] at o4 ⊢
      have HO4 := hide (own_base o4 (unhide HG3).size)
      have HG4 := hide (grown_trans (unhide HG3) g4)
      clear hL o4 g4
      go_wp2
      go_ret
      exact ⟨_, _, rfl, unhide HO4, unhide HG4⟩
  · obtain rfl : L = [] := by rw [← unhide HL, unhide HP]; simp
    go_wp2
    go_ret
    exact ⟨none, 0, rfl, ⟨rfl, .inl ⟨rfl, rfl⟩⟩, grown_alloc (unhide HG1) _⟩

end Go.Proofs.Ytkefpjbdkhifhaa

namespace Go.Proofs.Ytkefpjbdkhifhaa
open Go.RowKit

theorem wp_copyB {P : Program} {o : Oper} {a : Act} {w : World} {K' : Act → World → Prop} {Q : Exit → Act → World → Prop} (d s : Operand) (dT sT : TypeId)
    (ho : o.op = .call { callee := .builtin .copy, args := #[d, s], argTypes := #[dT, sT] }) (elem : TypeId) (hu : P.underlying dT = some (.slice elem)) (hsz : (P.info? elem).map (·.size) = some 1)
    (g off dLen dCap gs so sLen sCap : Nat) (hd : a.eval d = .slice (some ⟨g, off, none⟩) dLen dCap) (hs : a.eval s = .slice (some ⟨gs, so, none⟩) sLen sCap)
    (K : IntKind) (t : TypeId) (L : List Int) (hB : Blk K t w g L) (S : List Int) (m : Nat) (hm : Nat.min sLen dLen = m) (hS : Rd K w (some ⟨gs, so, none⟩) m S) (hfit : off + m ≤ L.length) (R : List Int) (hR : spliceL L S off = R)
    (h : ∀ w', Blk K t w' g R → w.grownBy w' (some g) → K' (a.put o.dst (.int .i64 m)) w') : Oper.wp P o a w K' Q := by
  refine wp_copyI d s dT sT ho elem hu 1 hsz g off dLen dCap ⟨gs, so, none⟩ sLen sCap hd hs (L.map (Value.int K)).toArray t hB m hm (S.map (Value.int K)) (by rw [List.length_map, hS.1, Nat.mul_one]) ?_ (by simp [hS.1]; exact hfit) (by intro v hv; obtain ⟨z, _, rfl⟩ := List.mem_map.1 hv; rfl) (R.map (Value.int K)) ?_ ?_
  · intro j v hv
    have hj : j < m := by
      have := (List.getElem?_eq_some_iff.1 hv).1
      rw [List.length_map, hS.1] at this
      exact this
    obtain ⟨b, of, e, hc⟩ := hS.2 j hj
    simp only [Option.some.injEq, Addr.mk.injEq, and_true] at e
    obtain ⟨rfl, rfl⟩ := e
    have hz : (S.map (Value.int K))[j]? = some (.int K (S.getD j 0)) := by
      have : j < S.length := by rw [hS.1]; exact hj
      simp [this]
    rw [hz] at hv
    cases hv
    rw [Addr.add_lit]
    exact hc
  · rw [← hR]
    simp [spliceL]
  · intro w' h1 h2
    exact h w' (unhide h1) h2

theorem step_copyB {P : Program} {ops : Array Oper} {o : Oper} {a : Act} {w : World} {K' : Act → World → Prop} {Q : Exit → Act → World → Prop} {E : Prop} (hgd : o.guard = none) (d s : Operand) (dT sT : TypeId)
    (ho : o.op = .call { callee := .builtin .copy, args := #[d, s], argTypes := #[dT, sT] }) (elem : TypeId) (hu : P.underlying dT = some (.slice elem)) (hsz : (P.info? elem).map (·.size) = some 1)
    (g off dLen dCap gs so sLen sCap : Nat) (hd : a.eval d = .slice (some ⟨g, off, none⟩) dLen dCap) (hs : a.eval s = .slice (some ⟨gs, so, none⟩) sLen sCap)
    (K : IntKind) (t : TypeId) (L : List Int) (hB : Blk K t w g L) (S : List Int) (m : Nat) (hm : Nat.min sLen dLen = m) (hS : Rd K w (some ⟨gs, so, none⟩) m S) (hfit : off + m ≤ L.length) (R : List Int) (hR : spliceL L S off = R)
    (h : ∀ w', Blk K t w' g R → w.grownBy w' (some g) → K' (a.put o.dst (.int .i64 m)) w') :
    if Region.wanted o (yielded ops a.tmps) = true then Oper.wp P o a w K' Q else E := by
  have hw : Region.wanted o (yielded ops a.tmps) = true := by simp [Region.wanted, hgd]
  rw [if_pos hw]
  exact wp_copyB d s dT sT ho elem hu hsz g off dLen dCap gs so sLen sCap hd hs K t L hB S m hm hS hfit R hR h

theorem wpList_copyB {P : Program} {ops : Array Oper} {rest : List Oper} {o : Oper} {a : Act} {w : World} {Q : Exit → Act → World → Prop} (hgd : o.guard = none) (d s : Operand) (dT sT : TypeId)
    (ho : o.op = .call { callee := .builtin .copy, args := #[d, s], argTypes := #[dT, sT] }) (elem : TypeId) (hu : P.underlying dT = some (.slice elem)) (hsz : (P.info? elem).map (·.size) = some 1)
    (g off dLen dCap gs so sLen sCap : Nat) (hd : a.eval d = .slice (some ⟨g, off, none⟩) dLen dCap) (hs : a.eval s = .slice (some ⟨gs, so, none⟩) sLen sCap)
    (K : IntKind) (t : TypeId) (L : List Int) (hB : Blk K t w g L) (S : List Int) (m : Nat) (hm : Nat.min sLen dLen = m) (hS : Rd K w (some ⟨gs, so, none⟩) m S) (hfit : off + m ≤ L.length) (R : List Int) (hR : spliceL L S off = R)
    (h : ∀ w', Blk K t w' g R → w.grownBy w' (some g) → wpList P ops Q rest (a.put o.dst (.int .i64 m)) w') : wpList P ops Q (o :: rest) a w :=
  wpList_plain hgd fun _ hK => wp_copyB d s dT sT ho elem hu hsz g off dLen dCap gs so sLen sCap hd hs K t L hB S m hm hS hfit R hR (fun w' h1 h2 => hK _ _ (h w' h1 h2))

end Go.Proofs.Ytkefpjbdkhifhaa

namespace Go.Proofs.Ytkefpjbdkhifhaa
open Go.RowKit

set_option maxRecDepth 20000 in
set_option maxHeartbeats 3200000 in
theorem cropped : TurnC 67 (fun wd ht nw nh => nw ≤ wd ∧ nh ≤ ht) (fun L wd _ nw nh => cropL L wd nw nh) := by
  intro wd ht g n nw nh m L W hw hh HN hn hnw hnh HM hm hok hB hL h0
  have HL := hide hL
  have H0 := hide h0
  have HOK := hide hok
  have HGL : Hid (g < W.heap.size) := hB.lt
  obtain ⟨W0, hW0⟩ : ∃ W0, ((W.alloc (.cells #[.int .i64 (wd : Int), .int .i64 (ht : Int), .slice (some ⟨g, 0, none⟩) n n] 57)).alloc (.cells #[.int .i64 (nw : Int), .int .i64 (nh : Int)] 48)).alloc (.cells #[.int .i64 0, .int .i64 0, .slice none 0 0] 57) = W0 := ⟨_, rfl⟩
  have HG0 : Hid (W.grownBy W0 none) := by rw [← hW0]; exact grown_alloc (grown_alloc (World.grownBy_alloc _ _ _) _) _
  have b0 : Hid (W0.heap[W.heap.size]? = some (.cells #[.int .i64 (wd : Int), .int .i64 (ht : Int), .slice (some ⟨g, 0, none⟩) n n] 57 (0, 0))) := by rw [← hW0, Below.heap_alloc _ _ _ (by simp <;> omega), Below.heap_alloc _ _ _ (by simp)]; exact heap_alloc_new W _
  have b1 : Hid (W0.heap[W.heap.size + 1]? = some (.cells #[.int .i64 (nw : Int), .int .i64 (nh : Int)] 48 (0, 0))) := by
    rw [← hW0, Below.heap_alloc _ _ _ (by simp)]
    have := heap_alloc_new (W.alloc (.cells #[.int .i64 (wd : Int), .int .i64 (ht : Int), .slice (some ⟨g, 0, none⟩) n n] 57)) (.cells #[.int .i64 (nw : Int), .int .i64 (nh : Int)] 48)
    unfold Hid
    simpa using this
  have b2 : Hid (W0.heap[W.heap.size + 1 + 1]? = some (.cells #[.int .i64 0, .int .i64 0, .slice none 0 0] 57 (0, 0))) := by
    rw [← hW0]
    have := heap_alloc_new ((W.alloc (.cells #[.int .i64 (wd : Int), .int .i64 (ht : Int), .slice (some ⟨g, 0, none⟩) n n] 57)).alloc (.cells #[.int .i64 (nw : Int), .int .i64 (nh : Int)] 48)) (.cells #[.int .i64 0, .int .i64 0, .slice none 0 0] 57)
    unfold Hid
    simpa using this
  have HS0 : Hid (W0.heap.size = W.heap.size + 3) := by rw [← hW0]; simp [Hid]
  have HB0 := hide (hB.grown (unhide HG0))
  have HW := hide hW0
  obtain ⟨X, HX⟩ : ∃ X, Hid (cropL L wd nw nh = X) := ⟨_, rfl⟩
  have HXL : Hid (X.length = m) := by unfold Hid; rw [← unhide HX, ← unhide HM]; exact gridL_len _ _ _
  dsimp only
  rw [unhide HX]
  clear hW0 hB hL h0 hok
  go_enter Try.func67, Try.ntmps67
  go_wp2_with fail
  rw [unhide HW]
  refine (newTones nw nh m hnw.2 hnh.2 HM W0).mono ?_
  rintro e w1 ⟨q, rfl, hQ, hge, g1⟩
  have HQL : Hid (q < w1.heap.size) := hQ.lt
  have HGE := hide hge
  obtain ⟨W1, hW1⟩ : ∃ W1, w1.alloc (.cells #[.int .i64 (nw : Int), .int .i64 (nh : Int), .slice (some ⟨q, 0, none⟩) m m] 57) = W1 := ⟨_, rfl⟩
  have G1 : Hid (W0.grownBy W1 none) := by rw [← hW1]; exact grown_alloc g1 _
  have HQ1 : Hid (Blk .u16 73 W1 q (laidTo X 0)) := by rw [← hW1, laidTo_zero, unhide HXL]; exact hQ.grown (World.grownBy_alloc _ _ _)
  have HB1 := hide ((unhide HB0).grown (unhide G1))
  have p0 := hide (grown_atG (unhide G1) (unhide b0) (by simp))
  have p1 := hide (grown_atG (unhide G1) (unhide b1) (by simp))
  have p2 := hide (grown_atG (unhide G1) (unhide b2) (by simp))
  have p3 : Hid (W1.heap[w1.heap.size]? = some (.cells #[.int .i64 (nw : Int), .int .i64 (nh : Int), .slice (some ⟨q, 0, none⟩) m m] 57 (0, 0))) := by rw [← hW1]; exact heap_alloc_new w1 _
  have HS1 : Hid (W.heap.size + 3 ≤ w1.heap.size) := by have := g1.size; have := unhide HS0; unfold Hid; omega
  have HW1 := hide hW1
  generalize hs : W.heap.size = s at *
  have HS := hide hs
  clear hs
  have c0 : W1.cell? ⟨s, 0, none⟩ = some (.int .i64 (wd : Int)) := by rw [cell_of_row W1 _ 0 _ _ (0, 0) (unhide p0)]; rfl
  have c1 : W1.cell? ⟨s, 1, none⟩ = some (.int .i64 (ht : Int)) := by rw [cell_of_row W1 _ 1 _ _ (0, 0) (unhide p0)]; rfl
  have c2 : W1.cell? ⟨s + 1, 0, none⟩ = some (.int .i64 (nw : Int)) := by rw [cell_of_row W1 _ 0 _ _ (0, 0) (unhide p1)]; rfl
  have c3 : W1.cell? ⟨s + 1, 1, none⟩ = some (.int .i64 (nh : Int)) := by rw [cell_of_row W1 _ 1 _ _ (0, 0) (unhide p1)]; rfl
  have d2 : (w1.alloc (.cells #[.int .i64 (nw : Int), .int .i64 (nh : Int), .slice (some ⟨q, 0, none⟩) m m] 57)).cell? ⟨s + 1, 0, none⟩ = some (.int .i64 (nw : Int)) := by rw [unhide HW1]; exact c2
  have d3 : (w1.alloc (.cells #[.int .i64 (nw : Int), .int .i64 (nh : Int), .slice (some ⟨q, 0, none⟩) m m] 57)).cell? ⟨s + 1, 1, none⟩ = some (.int .i64 (nh : Int)) := by rw [unhide HW1]; exact c3
  clear hQ hge g1 hW1 HB0 HW b0 b1 b2
  go_wp2
  rw [unhide HW1]
  generalize hs1 : w1.heap.size = s1 at *
  clear hs1 HW1 d2 d3
  have HQS : Hid (s + 3 ≤ q) := by have := unhide HGE; have := unhide HS0; unfold Hid; omega
  go_loopw [11] (fun rv wr => ∃ (r k : Nat), r ≤ nh ∧ rv = .int .i64 r ∧ Hid (r * nw = k) ∧ Hid (Blk .u16 73 wr q (laidTo X k)) ∧ Hid (W1.grownBy wr (some q))) (fun rv _ => nh - (intOf rv).toNat)
  case atStart => exact ⟨0, 0, by omega, by go_num, by simp [Hid], HQ1, World.grownBy.refl _ _⟩
  case round =>
    obtain ⟨r, k, hr, rfl, HK, HQR, HGR⟩ := hrel
    by_cases hlt : r < nh
    · have hrI : (r : Int) < (nh : Int) := by omega
      have e1 := i64_in ((r : Int) + 1) (by omega)
      have hok := unhide HOK
      obtain ⟨lo, HLO⟩ : ∃ lo : Nat, Hid (r * wd = lo) := ⟨_, rfl⟩
      have hkx := row_end (w := nw) hlt
      have hlx := row_end (w := wd) (show r < ht by omega)
      rw [Nat.mul_comm nh nw, unhide HK, unhide HM] at hkx
      rw [Nat.mul_comm ht wd, unhide HLO, unhide HN] at hlx
      have HBR := hide ((unhide HB1).beside (unhide HGR) (by have := unhide HGL; have := unhide HQS; simp; omega))
      have x0 := hide (grown_atG (unhide HGR) (unhide p0) (by have := unhide HQS; simp; omega))
      have x3 := hide (grown_atG (unhide HGR) (unhide p3) (by have := unhide HQL; simp; omega))
      have HSP : Hid (spliceL (laidTo X k) ((L.drop lo).take nw) k = laidTo X (k + nw)) := by
        have hsl : ((L.drop lo).take nw).length = nw := by have := unhide HL; simp; omega
        have h1 := laidTo_splice X ((L.drop lo).take nw) k (by rw [hsl, unhide HXL]; exact hkx) (by
          rw [hsl, ← unhide HX, cropL, ← unhide HK, grid_row _ hlt]
          refine List.ext_getElem (by rw [hsl]; simp) (fun i h1 h2 => ?_)
          have hi : i < nw := by simpa using h2
          have : lo + i < L.length := by have := unhide HL; omega
          simp [unhide HLO, this])
        rw [hsl] at h1
        exact h1
      go_wp2
      refine wp_region_noPanic ?_
      refine wp_region_tailL 20 (fun W => W.heap[s]? = some (.cells #[.int .i64 (wd : Int), .int .i64 (ht : Int), .slice (some ⟨g, 0, none⟩) n n] 57 (0, 0)) ∧ W.heap[s1]? = some (.cells #[.int .i64 (nw : Int), .int .i64 (nh : Int), .slice (some ⟨q, 0, none⟩) m m] 57 (0, 0))) [true, true, true, false, true, true, true, false, false] (by kernel_rfl) (fun _ _ _ _ _ h => h) rfl (by decide) (by kernel_rfl) ⟨unhide x0, unhide x3⟩ ?_
      have x0 : Hid (wr.drew.heap[s]? = _) := unhide x0
      have x3 : Hid (wr.drew.heap[s1]? = _) := unhide x3
      have HQR : Hid (Blk .u16 73 wr.drew q (laidTo X k)) := unhide HQR
      have HBR : Hid (Blk .u16 73 wr.drew g L) := unhide HBR
      have HD : Hid (wr.grownBy wr.drew none) := grown_drew (World.grownBy.refl _ _)
      generalize wr.drew = w4 at *
      refine heldF_take (v := ?_) (Or.inl ⟨by rfl, ?_⟩) ?_
      rotate_left 1
      · intro w' hSw
        go_simp
        try with_reducible rfl
      try simp only [Act.put, List.setIfInBounds_toArray, List.set_cons_zero, List.set_cons_succ]
      refine heldF_take (v := .agg #[.int .i64 (nw : Int), .int .i64 (nh : Int), .slice (some ⟨q, 0, none⟩) m m]) (Or.inl ⟨by rfl, ?_⟩) ?_
      · intro w' hSw
        exact exec_row 55 _ rfl s1 rfl _ _ hSw.2 _ Try.underlying55 rfl (by kernel_rfl)
      try simp only [Act.put, List.setIfInBounds_toArray, List.set_cons_zero, List.set_cons_succ]
      refine heldF_take (v := ?_) (Or.inl ⟨by rfl, ?_⟩) ?_
      rotate_left 1
      · intro w' hSw
        go_simp
        try with_reducible rfl
      try simp only [Act.put, List.setIfInBounds_toArray, List.set_cons_zero, List.set_cons_succ]
      refine heldF_skip ?_
      refine heldF_take (v := ?_) (Or.inl ⟨by rfl, ?_⟩) ?_
      rotate_left 1
      · intro w' hSw
        go_simp
        try with_reducible rfl
      try simp only [Act.put, List.setIfInBounds_toArray, List.set_cons_zero, List.set_cons_succ]
      refine heldF_take (v := .agg #[.int .i64 (wd : Int), .int .i64 (ht : Int), .slice (some ⟨g, 0, none⟩) n n]) (Or.inl ⟨by rfl, ?_⟩) ?_
      · intro w' hSw
        exact exec_row 55 _ rfl s rfl _ _ hSw.1 _ Try.underlying55 rfl (by kernel_rfl)
      try simp only [Act.put, List.setIfInBounds_toArray, List.set_cons_zero, List.set_cons_succ]
      refine heldF_take (v := ?_) (Or.inl ⟨by rfl, ?_⟩) ?_
      rotate_left 1
      · intro w' hSw
        go_simp
        try with_reducible rfl
      try simp only [Act.put, List.setIfInBounds_toArray, List.set_cons_zero, List.set_cons_succ]
      refine heldF_skip ?_
      refine heldF_skip ?_
      refine heldF_nil ?_
      refine tailL_skip ?_
      refine tailL_skip ?_
      refine tailL_skip ?_
      refine tailL_step (fun K hK => ?_)
      go_simp
      refine (toneRow nw nh q m r k hnw hnh.2 hlt HM HK w4).mono ?_
      rintro e w5 ⟨rfl, g5⟩
      refine hK.out _ _ (.inr ⟨grown_atG g5 (unhide x0) (by simp), grown_atG g5 (unhide x3) (by simp)⟩) ?_
      clear hK K
      try simp only [Act.put, List.setIfInBounds_toArray, List.set_cons_zero, List.set_cons_succ]
      refine tailL_skip ?_
      refine tailL_skip ?_
      refine tailL_skip ?_
      refine tailL_step (fun K hK => ?_)
      go_simp
      refine (toneRow wd ht g n r lo hw hh.2 (by omega) HN HLO w5).mono ?_
      rintro e w6 ⟨rfl, g6⟩
      refine hK.out _ _ (.inr ⟨grown_atG (grown_trans g5 g6) (unhide x0) (by simp), grown_atG (grown_trans g5 g6) (unhide x3) (by simp)⟩) ?_
      clear hK K
      try simp only [Act.put, List.setIfInBounds_toArray, List.set_cons_zero, List.set_cons_succ]
      refine tailL_step (fun K hK => ?_)
      refine step_copyB rfl _ _ _ _ rfl 73 Try.underlying53 (by kernel_rfl) q k nw _ g lo wd _ rfl rfl .u16 73 (laidTo X k) ((unhide HQR).grown (grown_trans g5 g6)) ((L.drop lo).take nw) nw (by simp [Nat.min_def]; omega) (((unhide HBR).grown (grown_trans g5 g6)).rd lo nw (by have := unhide HL; omega)) (by rw [laidTo_len X k (by have := unhide HXL; omega), unhide HXL]; exact hkx) _ (unhide HSP) ?_
      intro w7 hQ7 g7
      refine hK.out _ _ (.inl rfl) ?_
      clear hK K
      refine tailL_nil (NoPanic.normal ?_)
      try simp only [Act.put]
      have HK' : Hid ((r + 1) * nw = k + nw) := by unfold Hid; rw [Nat.add_mul, Nat.one_mul, unhide HK]
      have HGR' : Hid (W1.grownBy w7 (some q)) := grown_trans (unhide HGR) (grown_trans (grown_any (grown_trans (unhide HD) (grown_trans g5 g6))) g7)
      have HQ7 := hide hQ7
      clear hQ7 g5 g6 g7 HQR HGR HBR HSP
      go_wp2
      go_roundw
      case rel => exact ⟨r + 1, k + nw, by omega, by go_num, HK', HQ7, HGR'⟩
      case measure => simp [intOf]; omega
    · obtain rfl : nh = r := by omega
      have HALL : Hid (laidTo X k = X) := by unfold Hid; rw [← unhide HK, Nat.mul_comm nh nw, unhide HM, ← unhide HXL]; exact laidTo_all X
      have HO2 := hide (grown_atG (unhide HGR) (unhide p2) (by have := unhide HQS; simp; omega))
      have HO3 := hide (grown_atG (unhide HGR) (unhide p3) (by have := unhide HQL; simp; omega))
      rw [unhide HALL] at HQR
      go_wp2_with (first | (refine load_row rfl 57 _ rfl s1 rfl #[.int .i64 (nw : Int), .int .i64 (nh : Int), .slice (some ⟨q, 0, none⟩) m m] 57 (unhide HO3) _ Try.underlying57 rfl (by kernel_rfl) ?_) | (refine store_row rfl 57 _ _ rfl (s + 1 + 1) rfl #[.int .i64 (nw : Int), .int .i64 (nh : Int), .slice (some ⟨q, 0, none⟩) m m] rfl _ 57 (unhide HO2) rfl (by kernel_rfl) (by simp [Value.oneCell']) ?_; intro w9 hB9 g9))
      refine bodyPost_ret (v := .agg #[.int .i64 (nw : Int), .int .i64 (nh : Int), .slice (some ⟨q, 0, none⟩) m m]) ?_ rfl ⟨q, rfl, (unhide HQR).beside g9 (by have := unhide HQS; simp; omega), ?_⟩
      · rw [results_c1 rfl]
        exact run_loadVar_row w9 _ 57 57 _ (0, 0) _ hB9 Try.underlying57 rfl (by kernel_rfl)
      · exact grown_new (grown_new (grown_trans (unhide HG0) (unhide G1)) (unhide HGR) (fun k e => by simp at e; have := unhide HS; have := unhide HQS; omega)) g9 (fun k e => by simp at e; have := unhide HS; omega)

end Go.Proofs.Ytkefpjbdkhifhaa

namespace Go.Proofs.Ytkefpjbdkhifhaa
open Go.RowKit

set_option maxRecDepth 20000 in
set_option maxHeartbeats 3200000 in
theorem padded : TurnC 65 (fun wd ht nw nh => wd ≤ nw ∧ ht ≤ nh) (fun L wd ht nw nh => padL L wd ht nw nh) := by
  intro wd ht g n nw nh m L W hw hh HN hn hnw hnh HM hm hok hB hL h0
  have HL := hide hL
  have H0 := hide h0
  have HOK := hide hok
  have HGL : Hid (g < W.heap.size) := hB.lt
  obtain ⟨W0, hW0⟩ : ∃ W0, ((W.alloc (.cells #[.int .i64 (wd : Int), .int .i64 (ht : Int), .slice (some ⟨g, 0, none⟩) n n] 57)).alloc (.cells #[.int .i64 (nw : Int), .int .i64 (nh : Int)] 48)).alloc (.cells #[.int .i64 0, .int .i64 0, .slice none 0 0] 57) = W0 := ⟨_, rfl⟩
  have HG0 : Hid (W.grownBy W0 none) := by rw [← hW0]; exact grown_alloc (grown_alloc (World.grownBy_alloc _ _ _) _) _
  have b0 : Hid (W0.heap[W.heap.size]? = some (.cells #[.int .i64 (wd : Int), .int .i64 (ht : Int), .slice (some ⟨g, 0, none⟩) n n] 57 (0, 0))) := by rw [← hW0, Below.heap_alloc _ _ _ (by simp <;> omega), Below.heap_alloc _ _ _ (by simp)]; exact heap_alloc_new W _
  have b1 : Hid (W0.heap[W.heap.size + 1]? = some (.cells #[.int .i64 (nw : Int), .int .i64 (nh : Int)] 48 (0, 0))) := by
    rw [← hW0, Below.heap_alloc _ _ _ (by simp)]
    have := heap_alloc_new (W.alloc (.cells #[.int .i64 (wd : Int), .int .i64 (ht : Int), .slice (some ⟨g, 0, none⟩) n n] 57)) (.cells #[.int .i64 (nw : Int), .int .i64 (nh : Int)] 48)
    unfold Hid
    simpa using this
  have b2 : Hid (W0.heap[W.heap.size + 1 + 1]? = some (.cells #[.int .i64 0, .int .i64 0, .slice none 0 0] 57 (0, 0))) := by
    rw [← hW0]
    have := heap_alloc_new ((W.alloc (.cells #[.int .i64 (wd : Int), .int .i64 (ht : Int), .slice (some ⟨g, 0, none⟩) n n] 57)).alloc (.cells #[.int .i64 (nw : Int), .int .i64 (nh : Int)] 48)) (.cells #[.int .i64 0, .int .i64 0, .slice none 0 0] 57)
    unfold Hid
    simpa using this
  have HS0 : Hid (W0.heap.size = W.heap.size + 3) := by rw [← hW0]; simp [Hid]
  have HB0 := hide (hB.grown (unhide HG0))
  have HW := hide hW0
  obtain ⟨X, HX⟩ : ∃ X, Hid (padL L wd ht nw nh = X) := ⟨_, rfl⟩
  have HXL : Hid (X.length = m) := by unfold Hid; rw [← unhide HX, ← unhide HM]; exact gridL_len _ _ _
  dsimp only
  rw [unhide HX]
  clear hW0 hB hL h0 hok
  go_enter Try.func65, Try.ntmps65
  go_wp2_with fail
  rw [unhide HW]
  refine (newTones nw nh m hnw.2 hnh.2 HM W0).mono ?_
  rintro e w1 ⟨q, rfl, hQ, hge, g1⟩
  have HQL : Hid (q < w1.heap.size) := hQ.lt
  have HGE := hide hge
  obtain ⟨W1, hW1⟩ : ∃ W1, w1.alloc (.cells #[.int .i64 (nw : Int), .int .i64 (nh : Int), .slice (some ⟨q, 0, none⟩) m m] 57) = W1 := ⟨_, rfl⟩
  have G1 : Hid (W0.grownBy W1 none) := by rw [← hW1]; exact grown_alloc g1 _
  have HQ1 : Hid (Blk .u16 73 W1 q (laidTo X 0)) := by rw [← hW1, laidTo_zero, unhide HXL]; exact hQ.grown (World.grownBy_alloc _ _ _)
  have HB1 := hide ((unhide HB0).grown (unhide G1))
  have p0 := hide (grown_atG (unhide G1) (unhide b0) (by simp))
  have p1 := hide (grown_atG (unhide G1) (unhide b1) (by simp))
  have p2 := hide (grown_atG (unhide G1) (unhide b2) (by simp))
  have p3 : Hid (W1.heap[w1.heap.size]? = some (.cells #[.int .i64 (nw : Int), .int .i64 (nh : Int), .slice (some ⟨q, 0, none⟩) m m] 57 (0, 0))) := by rw [← hW1]; exact heap_alloc_new w1 _
  have HS1 : Hid (W.heap.size + 3 ≤ w1.heap.size) := by have := g1.size; have := unhide HS0; unfold Hid; omega
  have HW1 := hide hW1
  generalize hs : W.heap.size = s at *
  have HS := hide hs
  clear hs
  have c0 : W1.cell? ⟨s, 0, none⟩ = some (.int .i64 (wd : Int)) := by rw [cell_of_row W1 _ 0 _ _ (0, 0) (unhide p0)]; rfl
  have c1 : W1.cell? ⟨s, 1, none⟩ = some (.int .i64 (ht : Int)) := by rw [cell_of_row W1 _ 1 _ _ (0, 0) (unhide p0)]; rfl
  have c2 : W1.cell? ⟨s + 1, 0, none⟩ = some (.int .i64 (nw : Int)) := by rw [cell_of_row W1 _ 0 _ _ (0, 0) (unhide p1)]; rfl
  have c3 : W1.cell? ⟨s + 1, 1, none⟩ = some (.int .i64 (nh : Int)) := by rw [cell_of_row W1 _ 1 _ _ (0, 0) (unhide p1)]; rfl
  have d2 : (w1.alloc (.cells #[.int .i64 (nw : Int), .int .i64 (nh : Int), .slice (some ⟨q, 0, none⟩) m m] 57)).cell? ⟨s + 1, 0, none⟩ = some (.int .i64 (nw : Int)) := by rw [unhide HW1]; exact c2
  have d3 : (w1.alloc (.cells #[.int .i64 (nw : Int), .int .i64 (nh : Int), .slice (some ⟨q, 0, none⟩) m m] 57)).cell? ⟨s + 1, 1, none⟩ = some (.int .i64 (nh : Int)) := by rw [unhide HW1]; exact c3
  clear hQ hge g1 hW1 HB0 HW b0 b1 b2
  go_wp2
  rw [unhide HW1]
  generalize hs1 : w1.heap.size = s1 at *
  clear hs1 HW1 d2 d3
  have HQS : Hid (s + 3 ≤ q) := by have := unhide HGE; have := unhide HS0; unfold Hid; omega
  go_loopw [14] (fun rv wr => ∃ (r k : Nat), r ≤ nh ∧ rv = .int .i64 r ∧ Hid (r * nw = k) ∧ Hid (Blk .u16 73 wr q (laidTo X k)) ∧ Hid (W1.grownBy wr (some q))) (fun rv _ => nh - (intOf rv).toNat)
  case atStart => exact ⟨0, 0, by omega, by go_num, by simp [Hid], HQ1, World.grownBy.refl _ _⟩
  case round =>
    obtain ⟨r, k, hr, rfl, HK, HQR, HGR⟩ := hrel
    by_cases hlt : r < nh
    · have hrI : (r : Int) < (nh : Int) := by omega
      have e1 := i64_in ((r : Int) + 1) (by omega)
      have hok := unhide HOK
      obtain ⟨ry, HRY⟩ : ∃ y : Nat, Hid (min r (ht - 1) = y) := ⟨_, rfl⟩
      have hry : ry < ht := by have := unhide HRY; omega
      have e2 := i64_in ((ht : Int) - 1) (by omega)
      have e3 : (if (ht : Int) - 1 < (r : Int) then (ht : Int) - 1 else (r : Int)) = (ry : Int) := by have := unhide HRY; split <;> omega
      obtain ⟨lo, HLO⟩ : ∃ lo : Nat, Hid (ry * wd = lo) := ⟨_, rfl⟩
      have hkx := row_end (w := nw) hlt
      have hlx := row_end (w := wd) hry
      rw [Nat.mul_comm nh nw, unhide HK, unhide HM] at hkx
      rw [Nat.mul_comm ht wd, unhide HLO, unhide HN] at hlx
      have HBR := hide ((unhide HB1).beside (unhide HGR) (by have := unhide HGL; have := unhide HQS; simp; omega))
      have x0 := hide (grown_atG (unhide HGR) (unhide p0) (by have := unhide HQS; simp; omega))
      have x1 := hide (grown_atG (unhide HGR) (unhide p1) (by have := unhide HQS; simp; omega))
      have x3 := hide (grown_atG (unhide HGR) (unhide p3) (by have := unhide HQL; simp; omega))
      have HAT : Hid (∀ x, x < nw → X.getD (k + x) 0 = L.getD (lo + min x (wd - 1)) 0) := fun x hx => by
        rw [← unhide HX, padL, ← unhide HK, gridL_at _ hlt hx, unhide HRY, unhide HLO]
      have HSP : Hid (spliceL (laidTo X k) ((L.drop lo).take wd) k = laidTo X (k + wd)) := by
        have hsl : ((L.drop lo).take wd).length = wd := by have := unhide HL; simp; omega
        have h1 := laidTo_splice X ((L.drop lo).take wd) k (by rw [hsl, unhide HXL]; omega) (by
          rw [hsl]
          refine List.ext_getElem (by rw [hsl]; simp; have := unhide HXL; omega) (fun i h1 h2 => ?_)
          have hi : i < wd := by rw [hsl] at h1; exact h1
          have h3 : lo + i < L.length := by have := unhide HL; omega
          have h4 : k + i < X.length := by have := unhide HXL; omega
          have h5 := unhide HAT i (by omega)
          rw [show min i (wd - 1) = i by omega] at h5
          simp [h3, h4] at h5 ⊢
          exact h5.symm)
        rw [hsl] at h1
        exact h1
      go_wp2
      refine wp_region_noPanic ?_
      refine wp_region_tail (fun W => W.heap[s]? = some (.cells #[.int .i64 (wd : Int), .int .i64 (ht : Int), .slice (some ⟨g, 0, none⟩) n n] 57 (0, 0)) ∧ W.heap[s1]? = some (.cells #[.int .i64 (nw : Int), .int .i64 (nh : Int), .slice (some ⟨q, 0, none⟩) m m] 57 (0, 0))) [true, true, true, false, true, true, true, true, true, true, true, true, true, false, false, false] (by kernel_rfl) (fun _ _ _ _ _ h => h) rfl (by kernel_rfl) ⟨unhide x0, unhide x3⟩ ?_
      have x0 : Hid (wr.drew.heap[s]? = _) := unhide x0
      have y1 := x1
      have x1 : Hid (wr.drew.heap[s + 1]? = _) := unhide x1
      have x3 : Hid (wr.drew.heap[s1]? = _) := unhide x3
      have HQR : Hid (Blk .u16 73 wr.drew q (laidTo X k)) := unhide HQR
      have HBR : Hid (Blk .u16 73 wr.drew g L) := unhide HBR
      have HD : Hid (wr.grownBy wr.drew none) := grown_drew (World.grownBy.refl _ _)
      generalize wr.drew = w4 at *
      refine heldF_take (v := ?_) (Or.inl ⟨by rfl, ?_⟩) ?_
      rotate_left 1
      · intro w' hSw
        go_simp
        try with_reducible rfl
      try simp only [Act.put, List.setIfInBounds_toArray, List.set_cons_zero, List.set_cons_succ]
      refine heldF_take (v := .agg #[.int .i64 (nw : Int), .int .i64 (nh : Int), .slice (some ⟨q, 0, none⟩) m m]) (Or.inl ⟨by rfl, ?_⟩) ?_
      · intro w' hSw
        exact exec_row 55 _ rfl s1 rfl _ _ hSw.2 _ Try.underlying55 rfl (by kernel_rfl)
      try simp only [Act.put, List.setIfInBounds_toArray, List.set_cons_zero, List.set_cons_succ]
      refine heldF_take (v := ?_) (Or.inl ⟨by rfl, ?_⟩) ?_
      rotate_left 1
      · intro w' hSw
        go_simp
        try with_reducible rfl
      try simp only [Act.put, List.setIfInBounds_toArray, List.set_cons_zero, List.set_cons_succ]
      refine heldF_skip ?_
      refine heldF_take (v := ?_) (Or.inl ⟨by rfl, ?_⟩) ?_
      rotate_left 1
      · intro w' hSw
        go_simp
        try with_reducible rfl
      try simp only [Act.put, List.setIfInBounds_toArray, List.set_cons_zero, List.set_cons_succ]
      refine heldF_take (v := .agg #[.int .i64 (wd : Int), .int .i64 (ht : Int), .slice (some ⟨g, 0, none⟩) n n]) (Or.inl ⟨by rfl, ?_⟩) ?_
      · intro w' hSw
        exact exec_row 55 _ rfl s rfl _ _ hSw.1 _ Try.underlying55 rfl (by kernel_rfl)
      try simp only [Act.put, List.setIfInBounds_toArray, List.set_cons_zero, List.set_cons_succ]
      refine heldF_take (v := ?_) (Or.inl ⟨by rfl, ?_⟩) ?_
      rotate_left 1
      · intro w' hSw
        go_simp
        try with_reducible rfl
      try simp only [Act.put, List.setIfInBounds_toArray, List.set_cons_zero, List.set_cons_succ]
      refine heldF_take (v := ?_) (Or.inl ⟨by rfl, ?_⟩) ?_
      rotate_left 1
      · intro w' hSw
        go_simp
        try with_reducible rfl
      try simp only [Act.put, List.setIfInBounds_toArray, List.set_cons_zero, List.set_cons_succ]
      refine heldF_take (v := ?_) (Or.inl ⟨by rfl, ?_⟩) ?_
      rotate_left 1
      · intro w' hSw
        go_simp
        try with_reducible rfl
      try simp only [Act.put, List.setIfInBounds_toArray, List.set_cons_zero, List.set_cons_succ]
      refine heldF_take (v := ?_) (Or.inl ⟨by rfl, ?_⟩) ?_
      rotate_left 1
      · intro w' hSw
        go_simp
        try with_reducible rfl
      try simp only [Act.put, List.setIfInBounds_toArray, List.set_cons_zero, List.set_cons_succ]
      refine heldF_take (v := ?_) (Or.inl ⟨by rfl, ?_⟩) ?_
      rotate_left 1
      · intro w' hSw
        have cc : w'.cell? ⟨s, 1, none⟩ = some (.int .i64 (ht : Int)) := by rw [cell_of_row w' _ 1 _ _ (0, 0) hSw.1]; rfl
        go_simp
        try with_reducible rfl
      try simp only [Act.put, List.setIfInBounds_toArray, List.set_cons_zero, List.set_cons_succ]
      refine heldF_take (v := ?_) (Or.inl ⟨by rfl, ?_⟩) ?_
      rotate_left 1
      · intro w' hSw
        go_simp
        try with_reducible rfl
      try simp only [Act.put, List.setIfInBounds_toArray, List.set_cons_zero, List.set_cons_succ]
      refine heldF_take (v := ?_) (Or.inl ⟨by rfl, ?_⟩) ?_
      rotate_left 1
      · intro w' hSw
        go_simp
        try with_reducible rfl
      try simp only [Act.put, List.setIfInBounds_toArray, List.set_cons_zero, List.set_cons_succ]
      refine heldF_skip ?_
      refine heldF_skip ?_
      refine heldF_skip ?_
      refine heldF_nil ?_
      refine tailF_skip ?_
      refine tailF_skip ?_
      refine tailF_skip ?_
      refine tailF_step (fun K hK => ?_)
      go_simp
      refine (toneRow nw nh q m r k hnw hnh.2 hlt HM HK w4).mono ?_
      rintro e w5 ⟨rfl, g5⟩
      refine hK.out _ _ ⟨grown_atG g5 (unhide x0) (by simp), grown_atG g5 (unhide x3) (by simp)⟩ ?_
      clear hK K
      try simp only [Act.put, List.setIfInBounds_toArray, List.set_cons_zero, List.set_cons_succ]
      refine tailF_skip ?_
      refine tailF_skip ?_
      refine tailF_skip ?_
      refine tailF_skip ?_
      refine tailF_skip ?_
      refine tailF_skip ?_
      refine tailF_skip ?_
      refine tailF_skip ?_
      refine tailF_skip ?_
      refine tailF_step (fun K hK => ?_)
      go_simp
      refine (toneRow wd ht g n ry lo hw hh.2 hry HN HLO w5).mono ?_
      rintro e w6 ⟨rfl, g6⟩
      refine hK.out _ _ ⟨grown_atG (grown_trans g5 g6) (unhide x0) (by simp), grown_atG (grown_trans g5 g6) (unhide x3) (by simp)⟩ ?_
      clear hK K
      try simp only [Act.put, List.setIfInBounds_toArray, List.set_cons_zero, List.set_cons_succ]
      refine tailF_step (fun K hK => ?_)
      go_simp
      refine hK.out _ _ ⟨grown_atG (grown_trans g5 g6) (unhide x0) (by simp), grown_atG (grown_trans g5 g6) (unhide x3) (by simp)⟩ ?_
      clear hK K
      try simp only [Act.put, List.setIfInBounds_toArray, List.set_cons_zero, List.set_cons_succ]
      refine tailF_step (fun K hK => ?_)
      go_simp
      refine hK.out _ _ ⟨grown_atG (grown_trans g5 g6) (unhide x0) (by simp), grown_atG (grown_trans g5 g6) (unhide x3) (by simp)⟩ ?_
      clear hK K
      try simp only [Act.put, List.setIfInBounds_toArray, List.set_cons_zero, List.set_cons_succ]
      refine tailF_nil (NoPanic.normal ?_)
      try simp only [Act.put]
      have HD5 : Hid (wr.grownBy w6 none) := grown_trans (unhide HD) (grown_trans g5 g6)
      have HQ6 := hide ((unhide HQR).grown (grown_trans g5 g6))
      have HR6 := hide (((unhide HBR).grown (grown_trans g5 g6)).rd lo wd (by have := unhide HL; omega))
      have hdc : Nat.min wd nw = wd := by simp [Nat.min_def]; omega
      have HFIT : Hid (k + wd ≤ (laidTo X k).length) := by unfold Hid; rw [laidTo_len X k (by have := unhide HXL; omega), unhide HXL]; omega
      have Y1 := hide (grown_atG (unhide HD5) (unhide y1) (by simp))
      go_wp2_with ((refine wpList_copyB rfl _ _ _ _ rfl 73 Try.underlying53 (by kernel_rfl) q k nw _ g lo wd _ rfl rfl .u16 73 (laidTo X k) (unhide HQ6) ((L.drop lo).take wd) wd hdc (unhide HR6) (unhide HFIT) _ (unhide HSP) ?_; intro w7 hQ7 g7))
      have HQ7 := hide hQ7
      have HG7 : Hid (W1.grownBy w7 (some q)) := grown_trans (unhide HGR) (grown_trans (grown_any (unhide HD5)) g7)
      clear hQ7 g7 HQ6 HR6 HFIT Y1 HQR HBR HSP x0 x1 x3 y1 HD HD5 g5 g6 hdc
      go_loopw [9] (fun cv wx => ∃ (c : Nat), (wd ≤ c ∧ c ≤ nw) ∧ cv = .int .i64 c ∧ Hid (Blk .u16 73 wx q (laidTo X (k + c))) ∧ Hid (W1.grownBy wx (some q))) (fun cv _ => nw - (intOf cv).toNat)
      case atStart => exact ⟨wd, by omega, by go_num, HQ7, HG7⟩
      case round =>
        clear HQ7 HG7 HGR
        obtain ⟨c, hc, rfl, HQR, HGR⟩ := hrel
        obtain ⟨wx, HWX⟩ : ∃ wx, Hid (wx = wr) := ⟨_, rfl⟩
        have y1 := grown_atG (unhide HGR) (unhide p1) (by have := unhide HQS; simp; omega)
        have cy : wr.cell? ⟨s + 1, 0, none⟩ = some (.int .i64 (nw : Int)) := by rw [cell_of_row wr _ 0 _ _ (0, 0) y1]; rfl
        clear y1
        by_cases hcl : c < nw
        · have hcI : (c : Int) < (nw : Int) := by omega
          have f1 := i64_in ((c : Int) + 1) (by omega)
          have f2 := i64_in ((wd : Int) - 1) (by omega)
          have y0 := grown_atG (unhide HGR) (unhide p0) (by have := unhide HQS; simp; omega)
          have cx : wr.cell? ⟨s, 0, none⟩ = some (.int .i64 (wd : Int)) := by rw [cell_of_row wr _ 0 _ _ (0, 0) y0]; rfl
          obtain ⟨z, HZ⟩ : ∃ z, Hid (L.getD (lo + (wd - 1)) 0 = z) := ⟨_, rfl⟩
          have HBR := (unhide HB1).beside (unhide HGR) (by have := unhide HGL; have := unhide HQS; simp; omega)
          have ck := HBR.cell (lo + (wd - 1)) (by have := unhide HL; omega)
          rw [unhide HZ] at ck
          obtain ⟨wl, rfl⟩ : ∃ j : Nat, wd = j + 1 := ⟨wd - 1, by omega⟩
          have f3 : (((wl + 1 : Nat) : Int) - 1) = (wl : Int) := by omega
          have f4 : lo + (wl + 1 - 1) = lo + wl := by omega
          rw [f4] at ck
          rw [f3] at f2
          have f5 : (0 : Int) ≤ (wl : Int) := by omega
          have f6 : (wl : Int) < ((wl + 1 : Nat) : Int) := by omega
          have HLK : Hid ((laidTo X (k + c)).length = m) := by unfold Hid; rw [laidTo_len X (k + c) (by have := unhide HXL; omega), unhide HXL]
          have cq := (unhide HQR).cell (k + c) (by rw [unhide HLK]; omega)
          have fq := (unhide HQR).frozen (k + c)
          have HQ' : Hid (Blk .u16 73 (wr.setCell ⟨q, k + c, none⟩ (.int .u16 z)) q (laidTo X (k + (c + 1)))) := by
            unfold Hid
            rw [← Nat.add_assoc, ← laidTo_set X (k + c) (by have := unhide HXL; omega) z (by rw [unhide HAT c hcl, ← unhide HZ, show min c (wl + 1 - 1) = wl + 1 - 1 by omega])]
            exact (unhide HQR).set (k + c) z
          have HG' := hide (grown_trans (unhide HGR) (grown_set wr q (k + c) (.int .u16 z)))
          clear y0 HBR f4
          go_wp2
          go_roundw
          case rel => exact ⟨c + 1, by omega, by go_num, HQ', HG'⟩
          case measure => simp [intOf]; omega
        · obtain rfl : nw = c := by omega
          have hcd : decide ((nw : Int) < (nw : Int)) = false := decide_eq_false (by omega)
          have HK' : Hid ((r + 1) * nw = k + nw) := by unfold Hid; rw [Nat.add_mul, Nat.one_mul, unhide HK]
          go_wp2
          go_roundw
          case rel => exact ⟨r + 1, k + nw, by omega, by go_num, HK', HQR, HGR⟩
          case measure => simp [intOf]; omega
    · obtain rfl : nh = r := by omega
      have HALL : Hid (laidTo X k = X) := by unfold Hid; rw [← unhide HK, Nat.mul_comm nh nw, unhide HM, ← unhide HXL]; exact laidTo_all X
      have HO2 := hide (grown_atG (unhide HGR) (unhide p2) (by have := unhide HQS; simp; omega))
      have HO3 := hide (grown_atG (unhide HGR) (unhide p3) (by have := unhide HQL; simp; omega))
      rw [unhide HALL] at HQR
      go_wp2_with (first | (refine load_row rfl 57 _ rfl s1 rfl #[.int .i64 (nw : Int), .int .i64 (nh : Int), .slice (some ⟨q, 0, none⟩) m m] 57 (unhide HO3) _ Try.underlying57 rfl (by kernel_rfl) ?_) | (refine store_row rfl 57 _ _ rfl (s + 1 + 1) rfl #[.int .i64 (nw : Int), .int .i64 (nh : Int), .slice (some ⟨q, 0, none⟩) m m] rfl _ 57 (unhide HO2) rfl (by kernel_rfl) (by simp [Value.oneCell']) ?_; intro w9 hB9 g9))
      refine bodyPost_ret (v := .agg #[.int .i64 (nw : Int), .int .i64 (nh : Int), .slice (some ⟨q, 0, none⟩) m m]) ?_ rfl ⟨q, rfl, (unhide HQR).beside g9 (by have := unhide HQS; simp; omega), ?_⟩
      · rw [results_c1 rfl]
        exact run_loadVar_row w9 _ 57 57 _ (0, 0) _ hB9 Try.underlying57 rfl (by kernel_rfl)
      · exact grown_new (grown_new (grown_trans (unhide HG0) (unhide G1)) (unhide HGR) (fun k e => by simp at e; have := unhide HS; have := unhide HQS; omega)) g9 (fun k e => by simp at e; have := unhide HS; omega)

end Go.Proofs.Ytkefpjbdkhifhaa

namespace Go.Proofs.Ytkefpjbdkhifhaa
open Go.RowKit

theorem divUp16 (n d u : Nat) (hn : 1 ≤ n ∧ n ≤ 4000000) (hd : 1 ≤ d ∧ d ≤ 4000000) (hu : Hid ((n + d - 1) / d = u)) (w : World) :
    Calls Try.prog 86 #[.int .i64 (n : Int), .int .i64 (d : Int)] w fun e w' => e = .returned (.int .i64 (u : Int)) ∧ w = w' := by
  have hd0 : ((d : Int) == 0) = false := beq_eq_false_iff_ne.2 (by omega)
  have hm1 : ((d : Int) == -1) = false := beq_eq_false_iff_ne.2 (by omega)
  have z0 : ¬ d = 0 := by omega
  have k1 := i64_in ((n : Int) + (d : Int)) (by omega)
  have k2 := i64_in ((n : Int) + (d : Int) - 1) (by omega)
  have ht : ((n : Int) + (d : Int) - 1).tdiv (d : Int) = (u : Int) := by
    rw [Int.tdiv_eq_ediv_of_nonneg (by omega), ← unhide hu]
    push_cast
    congr 1
    omega
  have hb : u ≤ n + d := by rw [← unhide hu]; exact Nat.le_trans (Nat.div_le_self _ _) (by omega)
  have k3 := i64_in (u : Int) (by omega)
  go_enter Try.func86, Try.ntmps86
  go_wp2
  go_ret
  exact ⟨rfl, rfl⟩

theorem spanCount (a b c : Nat) (hab : a ≤ b) (hb : b ≤ 4000000) (HC : Hid (b - a = c)) (w : World) :
    Calls Try.prog 72 #[.agg #[.int .i64 (a : Int), .int .i64 (b : Int)]] w fun e w' => e = .returned (.int .i64 (c : Int)) ∧ w.grownBy w' none := by
  have k1 : IntKind.i64.wrap ((b : Int) - (a : Int)) = (c : Int) := by have := unhide HC; rw [i64_in _ (by omega)]; omega
  go_enter Try.func72, Try.ntmps72
  go_wp2
  go_ret
  exact ⟨rfl, grown_alloc (World.grownBy.refl _ _) _⟩

set_option maxRecDepth 20000 in
set_option maxHeartbeats 3200000 in
theorem spanOf (p ps wh a b : Nat) (hp : p < ps) (hps : ps ≤ 1024) (hwh : 1 ≤ wh ∧ wh ≤ 1024) (HA : Hid (fromN wh ps p = a)) (HB : Hid (toN wh ps p = b)) (W : World) :
    Calls Try.prog 71 #[.int .i64 (p : Int), .int .i64 (ps : Int), .int .i64 (wh : Int)] W fun e W' => e = .returned (.agg #[.int .i64 (a : Int), .int .i64 (b : Int)]) ∧ W.grownBy W' none := by
  obtain ⟨x, HX⟩ : ∃ x : Nat, Hid (p * wh = x) := ⟨_, rfl⟩
  obtain ⟨y, HY⟩ : ∃ y : Nat, Hid ((p + 1) * wh = y) := ⟨_, rfl⟩
  have hx : x ≤ 1048576 := by rw [← unhide HX]; exact Nat.mul_le_mul (by omega : p ≤ 1024) hwh.2
  have hy : y ≤ 1048576 := by rw [← unhide HY]; exact Nat.mul_le_mul (by omega : p + 1 ≤ 1024) hwh.2
  have hy1 : 1 ≤ y := by rw [← unhide HY]; exact Nat.mul_le_mul (by omega : 1 ≤ p + 1) hwh.1
  have HA' : Hid (x / ps = a) := by unfold Hid; rw [← unhide HX]; exact unhide HA
  have HB' : Hid ((y + ps - 1) / ps = b) := by unfold Hid; rw [← unhide HY]; exact unhide HB
  have k1 : IntKind.i64.wrap ((p : Int) * (wh : Int)) = (x : Int) := by
    have e : (p : Int) * (wh : Int) = (x : Int) := by have := unhide HX; exact_mod_cast this
    rw [e, i64_in _ (by omega)]
  have k2 : (x : Int).tdiv (ps : Int) = (a : Int) := by
    rw [Int.tdiv_eq_ediv_of_nonneg (by omega)]
    have := unhide HA'
    exact_mod_cast this
  have ha : a ≤ x := by rw [← unhide HA']; exact Nat.div_le_self _ _
  have k3 := i64_in (a : Int) (by omega)
  have k4 := i64_in ((p : Int) + 1) (by omega)
  have k5 : IntKind.i64.wrap (((p : Int) + 1) * (wh : Int)) = (y : Int) := by
    have e : ((p : Int) + 1) * (wh : Int) = (y : Int) := by have := unhide HY; exact_mod_cast this
    rw [e, i64_in _ (by omega)]
  have z1 : ((ps : Int) == 0) = false := beq_eq_false_iff_ne.2 (by omega)
  have z2 : ((ps : Int) == -1) = false := beq_eq_false_iff_ne.2 (by omega)
  have z3 : ¬ ps = 0 := by omega
  have b0 := hide (heap_alloc_new W (.cells #[.int .i64 0, .int .i64 0] 86))
  have HG0 := hide (World.grownBy_alloc W (.cells #[.int .i64 0, .int .i64 0] 86) none)
  go_enter Try.func71, Try.ntmps71
  go_wp2
  generalize W.alloc (.cells #[.int .i64 0, .int .i64 0] 86) = W0 at *
  refine wp_region_noPanic ?_
  refine wp_region_tailL 20 (fun W => True) [true, true, true, true, true, true, true, true, true, true, false, false, false] (by kernel_rfl) (fun _ _ _ _ _ h => h) rfl (by decide) (by kernel_rfl) trivial ?_
  have bD : Hid (W0.drew.heap[W.heap.size]? = some (.cells #[.int .i64 0, .int .i64 0] 86 (0, 0))) := unhide b0
  have gD : W.grownBy W0.drew none := grown_drew (unhide HG0)
  generalize W0.drew = W1 at *
  clear b0 HG0 W0
  refine heldF_take (v := ?_) (Or.inl ⟨by rfl, ?_⟩) ?_
  rotate_left 1
  · intro w' hSw
    go_simp
    try with_reducible rfl
  try simp only [Act.put, List.setIfInBounds_toArray, List.set_cons_zero, List.set_cons_succ]
  refine heldF_take (v := ?_) (Or.inl ⟨by rfl, ?_⟩) ?_
  rotate_left 1
  · intro w' hSw
    go_simp
    try with_reducible rfl
  try simp only [Act.put, List.setIfInBounds_toArray, List.set_cons_zero, List.set_cons_succ]
  refine heldF_take (v := ?_) (Or.inl ⟨by rfl, ?_⟩) ?_
  rotate_left 1
  · intro w' hSw
    go_simp
    try with_reducible rfl
  try simp only [Act.put, List.setIfInBounds_toArray, List.set_cons_zero, List.set_cons_succ]
  refine heldF_take (v := ?_) (Or.inl ⟨by rfl, ?_⟩) ?_
  rotate_left 1
  · intro w' hSw
    go_simp
    try with_reducible rfl
  try simp only [Act.put, List.setIfInBounds_toArray, List.set_cons_zero, List.set_cons_succ]
  refine heldF_take (v := ?_) (Or.inl ⟨by rfl, ?_⟩) ?_
  rotate_left 1
  · intro w' hSw
    go_simp
    try with_reducible rfl
  try simp only [Act.put, List.setIfInBounds_toArray, List.set_cons_zero, List.set_cons_succ]
  refine heldF_take (v := ?_) (Or.inl ⟨by rfl, ?_⟩) ?_
  rotate_left 1
  · intro w' hSw
    go_simp
    try with_reducible rfl
  try simp only [Act.put, List.setIfInBounds_toArray, List.set_cons_zero, List.set_cons_succ]
  refine heldF_take (v := ?_) (Or.inl ⟨by rfl, ?_⟩) ?_
  rotate_left 1
  · intro w' hSw
    go_simp
    try with_reducible rfl
  try simp only [Act.put, List.setIfInBounds_toArray, List.set_cons_zero, List.set_cons_succ]
  refine heldF_take (v := ?_) (Or.inl ⟨by rfl, ?_⟩) ?_
  rotate_left 1
  · intro w' hSw
    go_simp
    try with_reducible rfl
  try simp only [Act.put, List.setIfInBounds_toArray, List.set_cons_zero, List.set_cons_succ]
  refine heldF_take (v := ?_) (Or.inl ⟨by rfl, ?_⟩) ?_
  rotate_left 1
  · intro w' hSw
    go_simp
    try with_reducible rfl
  try simp only [Act.put, List.setIfInBounds_toArray, List.set_cons_zero, List.set_cons_succ]
  refine heldF_take (v := ?_) (Or.inl ⟨by rfl, ?_⟩) ?_
  rotate_left 1
  · intro w' hSw
    go_simp
    try with_reducible rfl
  try simp only [Act.put, List.setIfInBounds_toArray, List.set_cons_zero, List.set_cons_succ]
  refine heldF_skip ?_
  refine heldF_skip ?_
  refine heldF_skip ?_
  refine heldF_nil ?_
  refine tailL_skip ?_
  refine tailL_skip ?_
  refine tailL_skip ?_
  refine tailL_skip ?_
  refine tailL_skip ?_
  refine tailL_skip ?_
  refine tailL_skip ?_
  refine tailL_skip ?_
  refine tailL_skip ?_
  refine tailL_skip ?_
  refine tailL_step (fun K hK => ?_)
  go_simp
  refine (divUp16 y ps b ⟨hy1, by omega⟩ (by omega) HB' W1).mono ?_
  rintro e w4 ⟨rfl, rfl⟩
  refine hK.out _ _ (.inr trivial) ?_
  clear hK K
  try simp only [Act.put, List.setIfInBounds_toArray, List.set_cons_zero, List.set_cons_succ]
  refine tailL_step (fun K hK => ?_)
  go_simp
  refine hK.out _ _ (.inr trivial) ?_
  clear hK K
  try simp only [Act.put, List.setIfInBounds_toArray, List.set_cons_zero, List.set_cons_succ]
  refine tailL_step (fun K hK => ?_)
  refine step_store_row (by rfl) 86 _ _ rfl W.heap.size rfl #[.int .i64 (a : Int), .int .i64 (b : Int)] rfl _ 86 (unhide bD) rfl (by kernel_rfl) (by simp [Value.oneCell']) ?_
  intro w5 hB5 g5
  refine hK.out _ _ (.inl rfl) ?_
  clear hK K
  refine tailL_nil (NoPanic.normal ?_)
  try simp only [Act.put]
  go_wp2
  refine bodyPost_ret (v := .agg #[.int .i64 (a : Int), .int .i64 (b : Int)]) ?_ rfl ⟨rfl, ?_⟩
  · rw [results_c1 rfl]
    exact run_loadVar_row w5 _ 86 86 _ (0, 0) _ hB5 Try.underlying86 rfl (by kernel_rfl)
  · exact grown_new gD g5 (fun g e => by simp at e; omega)

end Go.Proofs.Ytkefpjbdkhifhaa

namespace Go.Proofs.Ytkefpjbdkhifhaa
open Go.RowKit

theorem divRound16 (s : Int) (n : Nat) (u : Int) (hs : 0 ≤ s ∧ s ≤ 1000000000000) (hn : 1 ≤ n ∧ n ≤ 1000000000) (hu : Hid (meanI s n = u)) (w : World) :
    Calls Try.prog 90 #[.int .i64 s, .int .i64 (n : Int)] w fun e w' => e = .returned (.int .i64 u) ∧ w = w' := by
  have k1 : IntKind.i64.wrap (2 * s) = 2 * s := i64_in _ (by omega)
  have k2 : IntKind.i64.wrap (2 * s + (n : Int)) = 2 * s + (n : Int) := i64_in _ (by omega)
  have k3 : IntKind.i64.wrap (2 * (n : Int)) = 2 * (n : Int) := i64_in _ (by omega)
  have ht : (2 * s + (n : Int)).tdiv (2 * (n : Int)) = u := by rw [Int.tdiv_eq_ediv_of_nonneg (by omega)]; exact unhide hu
  have hb : 0 ≤ u ∧ u ≤ 2 * s + n := by
    rw [← unhide hu, meanI]
    exact ⟨Int.ediv_nonneg (by omega) (by omega), Int.ediv_le_self _ (by omega)⟩
  have k4 := i64_in u (by omega)
  have z1 : (2 * (n : Int) == 0) = false := beq_eq_false_iff_ne.2 (by omega)
  have z2 : (2 * (n : Int) == -1) = false := beq_eq_false_iff_ne.2 (by omega)
  have z3 : ¬ n = 0 := by omega
  go_enter Try.func90, Try.ntmps90
  go_wp2
  go_ret
  exact ⟨rfl, rfl⟩

set_option maxRecDepth 20000 in
set_option maxHeartbeats 3200000 in
theorem meanOfT (ao : Option Addr) (n cap : Nat) (zs : List Int) (c : Nat) (u : Int) (W : World) (hr : Rd .u16 W ao n zs) (hn : n ≤ 1024) (h0 : ∀ i, 0 ≤ zs.getD i 0 ∧ zs.getD i 0 ≤ 5000000) (hc : 1 ≤ c ∧ c ≤ 10000000) (HU : Hid (meanI zs.sum c = u)) :
    Calls Try.prog 87 #[.slice ao n cap, .int .i64 (c : Int)] W fun e W' => e = .returned (.int .i64 u) ∧ W.grownBy W' none := by
  have HR := hide hr
  have HZ := hide hr.1
  have H0 := hide h0
  clear hr h0
  go_enter Try.func87, Try.ntmps87
  go_wp2
  go_loopw [5, 10] (fun tv iv wr => ∃ (k : Nat) (t : Int), k ≤ n ∧ tv = .int .i64 t ∧ iv = .int .i64 k ∧ Hid ((zs.take k).sum = t) ∧ (0 ≤ t ∧ t ≤ 5000000 * k) ∧ Hid (W.grownBy wr none)) (fun _ iv _ => n - (intOf iv).toNat)
  case atStart => exact ⟨0, 0, by omega, rfl, by go_num, by simp [Hid], by omega, World.grownBy.refl _ _⟩
  case round =>
    obtain ⟨k, t, hk, rfl, rfl, HT, ht, HGW⟩ := hrel
    by_cases hlt : k < n
    · have hkI : (k : Int) < (n : Int) := by omega
      obtain ⟨bb, off, rfl, hc'⟩ := ((unhide HR).grown (unhide HGW)).2 k hlt
      obtain ⟨z, HX⟩ : ∃ z, Hid (zs.getD k 0 = z) := ⟨_, rfl⟩
      have hz := unhide H0 k
      rw [unhide HX] at hc' hz
      have e1 := i64_in z (by omega)
      have e2 := i64_in (t + z) (by omega)
      have e3 := i64_in ((k : Int) + 1) (by omega)
      have HT' : Hid ((zs.take (k + 1)).sum = t + z) := by
        unfold Hid
        have hl : k < zs.length := by rw [unhide HZ]; exact hlt
        rw [List.take_succ_eq_append_getElem hl, List.sum_append, unhide HT]
        have : zs.getD k 0 = zs[k] := by simp [hl]
        rw [← unhide HX, this]
        simp
      go_wp2
      go_roundw
      case rel => exact ⟨k + 1, t + z, by omega, rfl, by go_num, HT', by omega, HGW⟩
      case measure => simp [intOf]; omega
    · obtain rfl : n = k := by omega
      have hT : zs.sum = t := by rw [← unhide HT, ← unhide HZ, List.take_length]
      rw [hT] at HU
      obtain ⟨x, HXX⟩ : ∃ x : Int, Hid (2 * t + (c : Int) = x) := ⟨_, rfl⟩
      obtain ⟨d, HD⟩ : ∃ d : Int, Hid (2 * (c : Int) = d) := ⟨_, rfl⟩
      clear HT hT
      go_wp2_with fail
      refine (divRound16 t c u (by omega) (by omega) HU wr).mono ?_
      rintro e wr ⟨rfl, rfl⟩
      go_wp2
      go_ret
      exact ⟨rfl, unhide HGW⟩

set_option maxRecDepth 20000 in
set_option maxHeartbeats 3200000 in
theorem fillT (q off nw cap gs so ms cps deep : Nat) (X S : List Int) (W : World) (hnw : 1 ≤ nw ∧ nw ≤ 1024) (hms : 1 ≤ ms ∧ ms ≤ 1024) (hdp : 1 ≤ deep ∧ deep ≤ 1024) (hcp : ms ≤ cps)
    (hQ : Blk .u16 73 W q (laidTo X off)) (hfit : off + nw ≤ X.length) (hAt : ∀ x, x < nw → X.getD (off + x) 0 = (meansL S nw deep).getD x 0)
    (hS : Rd .u16 W (some ⟨gs, so, none⟩) ms S) (hne : gs ≠ q) (h0 : ∀ i, 0 ≤ S.getD i 0 ∧ S.getD i 0 ≤ 4095 * deep) :
    Calls Try.prog 73 #[.slice (some ⟨q, off, none⟩) nw cap, .slice (some ⟨gs, so, none⟩) ms cps, .int .i64 (deep : Int)] W fun e W' => (∃ v, e = .returned v) ∧ Blk .u16 73 W' q (laidTo X (off + nw)) ∧ W.grownBy W' (some q) := by
  have HQ := hide hQ
  have HFIT := hide hfit
  have HAT := hide hAt
  have HSR := hide hS
  have HSL := hide hS.1
  have H0 := hide h0
  have HQL : Hid (q < W.heap.size) := hQ.lt
  clear hQ hfit hAt hS h0
  go_enter Try.func73, Try.ntmps73
  go_wp2
  go_loopw [10] (fun cv wr => ∃ (c : Nat), c ≤ nw ∧ cv = .int .i64 c ∧ Hid (Blk .u16 73 wr q (laidTo X (off + c))) ∧ Hid (W.grownBy wr (some q))) (fun cv _ => nw - (intOf cv).toNat)
  case atStart => exact ⟨0, by omega, by go_num, HQ, World.grownBy.refl _ _⟩
  case round =>
    clear HQ
    obtain ⟨c, hc, rfl, HQR, HGR⟩ := hrel
    by_cases hlt : c < nw
    · have hcI : (c : Int) < (nw : Int) := by omega
      have e1 := i64_in ((c : Int) + 1) (by omega)
      obtain ⟨a, HA⟩ : ∃ a, Hid (fromN ms nw c = a) := ⟨_, rfl⟩
      obtain ⟨b, HB⟩ : ∃ b, Hid (toN ms nw c = b) := ⟨_, rfl⟩
      have hab : a < b := by rw [← unhide HA, ← unhide HB]; exact from_to hnw.1 hms.1
      have hbm : b ≤ ms := by rw [← unhide HB]; exact to_le hlt
      obtain ⟨ct, HCT⟩ : ∃ k, Hid (b - a = k) := ⟨_, rfl⟩
      obtain ⟨dc, HDC⟩ : ∃ k : Nat, Hid (deep * ct = k) := ⟨_, rfl⟩
      have hct : 1 ≤ ct ∧ ct ≤ 1024 := by have := unhide HCT; omega
      have hdc : 1 ≤ dc ∧ dc ≤ 1048576 := by
        rw [← unhide HDC]
        exact ⟨Nat.mul_le_mul hdp.1 hct.1, Nat.mul_le_mul hdp.2 hct.2⟩
      obtain ⟨P, HP⟩ : ∃ P, Hid ((S.drop a).take ct = P) := ⟨_, rfl⟩
      have HPL : Hid (P.length = ct) := by unfold Hid; rw [← unhide HP]; have := unhide HSL; have := unhide HCT; simp; omega
      have HPS : Hid (P.sum = sumK S 0 a ct) := by unfold Hid; rw [← unhide HP]; exact sum_take ct (by have := unhide HSL; have := unhide HCT; omega)
      obtain ⟨u, HU⟩ : ∃ u, Hid (meanI P.sum dc = u) := ⟨_, rfl⟩
      have HP0 : Hid (∀ i, 0 ≤ P.getD i 0 ∧ P.getD i 0 ≤ 5000000) := fun i => by
        by_cases hi : i < ct
        · have e : P.getD i 0 = S.getD (a + i) 0 := by rw [← unhide HP]; simp [List.getElem?_take_of_lt hi]
          have := unhide H0 (a + i)
          rw [e]
          have h4 : (4095 : Int) * deep ≤ 4095 * 1024 := Int.mul_le_mul_of_nonneg_left (by omega) (by omega)
          omega
        · have e : P.getD i 0 = 0 := by rw [List.getD_eq_getElem?_getD, List.getElem?_eq_none (by rw [unhide HPL]; omega)]; rfl
          rw [e]
          omega
      have hu : 0 ≤ u ∧ u ≤ 4095 := by
        have h1 := sumK_in (L := S) (at0 := 0) (a := a) (lo := 0) (hi := 4095 * deep) ct (fun j _ => by have := unhide H0 (0 + (a + j)); exact this)
        rw [← unhide HPS] at h1
        rw [← unhide HU]
        refine ⟨mean_ge (by omega) (by rw [Int.mul_zero]; have := h1.1; rw [Int.mul_zero] at this; exact this), mean_le (by omega) ?_⟩
        refine Int.le_trans h1.2 ?_
        rw [← unhide HDC]
        push_cast
        refine Int.le_of_eq ?_
        ac_rfl
      have HVAL : Hid (X.getD (off + c) 0 = u) := by
        unfold Hid
        rw [unhide HAT c hlt, meansL_at S nw deep c hlt, unhide HSL, unhide HA, unhide HB, unhide HCT, unhide HDC, ← unhide HPS, unhide HU]
      have eu := u16_in u (by omega)
      have k1 : IntKind.i64.wrap ((deep : Int) * (ct : Int)) = (dc : Int) := by
        have e : (deep : Int) * (ct : Int) = (dc : Int) := by have := unhide HDC; exact_mod_cast this
        rw [e, i64_in _ (by omega)]
      go_wp2_with fail
      refine (spanOf c nw ms a b hlt hnw.2 hms HA HB wr).mono ?_
      rintro e w1 ⟨rfl, g1⟩
      obtain ⟨W2, hW2⟩ : ∃ W2, w1.alloc (.cells #[.int .i64 (a : Int), .int .i64 (b : Int)] 86) = W2 := ⟨_, rfl⟩
      have G2 : Hid (wr.grownBy W2 none) := by rw [← hW2]; exact grown_alloc g1 _
      have b7 : Hid (W2.heap[w1.heap.size]? = some (.cells #[.int .i64 (a : Int), .int .i64 (b : Int)] 86 (0, 0))) := by rw [← hW2]; exact heap_alloc_new w1 _
      have HW2 := hide hW2
      clear hW2 g1
      go_wp2
      rw [unhide HW2]
      generalize w1.heap.size = s7 at *
      clear HW2
      have i0 : (0 : Int) ≤ (a : Int) := by omega
      have i1 : (a : Int) ≤ (b : Int) := by omega
      have i2 : (b : Int) ≤ (cps : Int) := by omega
      have i3 : ¬ cps = a := by omega
      have j0 : (0 : Int) ≤ (c : Int) := by omega
      refine wp_region_noPanic ?_
      refine wp_region_tailL 20 (fun W => W.heap[s7]? = some (.cells #[.int .i64 (a : Int), .int .i64 (b : Int)] 86 (0, 0))) [true, true, true, true, true, true, true, true, true, true, false, false, false, false, false, false] (by kernel_rfl) (fun _ _ _ _ _ h => h) rfl (by decide) (by kernel_rfl) (unhide b7) ?_
      have b7 : Hid (W2.drew.heap[s7]? = some (.cells #[.int .i64 (a : Int), .int .i64 (b : Int)] 86 (0, 0))) := unhide b7
      have GD : Hid (wr.grownBy W2.drew none) := grown_drew (unhide G2)
      generalize W2.drew = w4 at *
      clear G2
      refine heldF_take (v := ?_) (Or.inl ⟨by rfl, ?_⟩) ?_
      rotate_left 1
      · intro w' hSw
        go_simp
        try with_reducible rfl
      try simp only [Act.put, List.setIfInBounds_toArray, List.set_cons_zero, List.set_cons_succ]
      refine heldF_take (v := ?_) (Or.inl ⟨by rfl, ?_⟩) ?_
      rotate_left 1
      · intro w' hSw
        go_simp
        try with_reducible rfl
      try simp only [Act.put, List.setIfInBounds_toArray, List.set_cons_zero, List.set_cons_succ]
      refine heldF_take (v := ?_) (Or.inl ⟨by rfl, ?_⟩) ?_
      rotate_left 1
      · intro w' hSw
        go_simp
        try with_reducible rfl
      try simp only [Act.put, List.setIfInBounds_toArray, List.set_cons_zero, List.set_cons_succ]
      refine heldF_take (v := ?_) (Or.inl ⟨by rfl, ?_⟩) ?_
      rotate_left 1
      · intro w' hSw
        go_simp
        try with_reducible rfl
      try simp only [Act.put, List.setIfInBounds_toArray, List.set_cons_zero, List.set_cons_succ]
      refine heldF_take (v := ?_) (Or.inl ⟨by rfl, ?_⟩) ?_
      rotate_left 1
      · intro w' hSw
        have ca : w'.cell? ⟨s7, 0, none⟩ = some (.int .i64 (a : Int)) := by rw [cell_of_row w' _ 0 _ _ (0, 0) hSw]; rfl
        have cb : w'.cell? ⟨s7, 1, none⟩ = some (.int .i64 (b : Int)) := by rw [cell_of_row w' _ 1 _ _ (0, 0) hSw]; rfl
        go_simp
        try with_reducible rfl
      try simp only [Act.put, List.setIfInBounds_toArray, List.set_cons_zero, List.set_cons_succ]
      refine heldF_take (v := ?_) (Or.inl ⟨by rfl, ?_⟩) ?_
      rotate_left 1
      · intro w' hSw
        go_simp
        try with_reducible rfl
      try simp only [Act.put, List.setIfInBounds_toArray, List.set_cons_zero, List.set_cons_succ]
      refine heldF_take (v := ?_) (Or.inl ⟨by rfl, ?_⟩) ?_
      rotate_left 1
      · intro w' hSw
        have ca : w'.cell? ⟨s7, 0, none⟩ = some (.int .i64 (a : Int)) := by rw [cell_of_row w' _ 0 _ _ (0, 0) hSw]; rfl
        have cb : w'.cell? ⟨s7, 1, none⟩ = some (.int .i64 (b : Int)) := by rw [cell_of_row w' _ 1 _ _ (0, 0) hSw]; rfl
        go_simp
        try with_reducible rfl
      try simp only [Act.put, List.setIfInBounds_toArray, List.set_cons_zero, List.set_cons_succ]
      refine heldF_take (v := ?_) (Or.inl ⟨by rfl, ?_⟩) ?_
      rotate_left 1
      · intro w' hSw
        go_simp
        try with_reducible rfl
      try simp only [Act.put, List.setIfInBounds_toArray, List.set_cons_zero, List.set_cons_succ]
      refine heldF_take (v := ?_) (Or.inl ⟨by rfl, ?_⟩) ?_
      rotate_left 1
      · intro w' hSw
        go_simp
        try with_reducible rfl
      try simp only [Act.put, List.setIfInBounds_toArray, List.set_cons_zero, List.set_cons_succ]
      refine heldF_take (v := .agg #[.int .i64 (a : Int), .int .i64 (b : Int)]) (Or.inl ⟨by rfl, ?_⟩) ?_
      · intro w' hSw
        exact exec_row 86 _ rfl s7 rfl _ _ hSw _ Try.underlying86 rfl (by kernel_rfl)
      try simp only [Act.put, List.setIfInBounds_toArray, List.set_cons_zero, List.set_cons_succ]
      refine heldF_skip ?_
      refine heldF_skip ?_
      refine heldF_skip ?_
      refine heldF_skip ?_
      refine heldF_skip ?_
      refine heldF_skip ?_
      refine heldF_nil ?_
      refine tailL_skip ?_
      refine tailL_skip ?_
      refine tailL_skip ?_
      refine tailL_skip ?_
      refine tailL_skip ?_
      refine tailL_skip ?_
      refine tailL_skip ?_
      refine tailL_skip ?_
      refine tailL_skip ?_
      refine tailL_skip ?_
      refine tailL_step (fun K hK => ?_)
      go_simp
      refine (spanCount a b ct (by omega) (by omega) HCT w4).mono ?_
      rintro e w5 ⟨rfl, g5⟩
      have S5 : w5.heap[s7]? = _ := grown_atG g5 (unhide b7) (by simp)
      refine hK.out _ _ (.inr S5) ?_
      clear hK K
      try simp only [Act.put, List.setIfInBounds_toArray, List.set_cons_zero, List.set_cons_succ]
      refine tailL_step (fun K hK => ?_)
      go_simp
      refine hK.out _ _ (.inr S5) ?_
      clear hK K
      try simp only [Act.put, List.setIfInBounds_toArray, List.set_cons_zero, List.set_cons_succ]
      refine tailL_step (fun K hK => ?_)
      go_simp
      rw [show b - a = ct from unhide HCT]
      refine (meanOfT (some ⟨gs, so + a, none⟩) ct _ P dc u w5 ?_ hct.2 (unhide HP0) (by omega) HU).mono ?_
      · have hr5 := ((unhide HSR).beside (unhide HGR) (fun _ b' o' e => by simp at e; rw [← e.1]; exact hne)).grown (grown_trans (unhide GD) g5)
        refine ⟨unhide HPL, fun i hi => ⟨gs, so + a, rfl, ?_⟩⟩
        obtain ⟨b', o', e, hcc⟩ := hr5.2 (a + i) (by have := unhide HCT; omega)
        simp only [Option.some.injEq, Addr.mk.injEq, and_true] at e
        obtain ⟨rfl, rfl⟩ := e
        rw [Nat.add_assoc, hcc, ← unhide HP]
        simp [List.getElem?_take_of_lt hi]
      rintro e w6 ⟨rfl, g6⟩
      have S6 : w6.heap[s7]? = _ := grown_atG g6 S5 (by simp)
      refine hK.out _ _ (.inr S6) ?_
      clear hK K
      try simp only [Act.put, List.setIfInBounds_toArray, List.set_cons_zero, List.set_cons_succ]
      refine tailL_step (fun K hK => ?_)
      go_simp
      refine hK.out _ _ (.inr S6) ?_
      clear hK K
      try simp only [Act.put, List.setIfInBounds_toArray, List.set_cons_zero, List.set_cons_succ]
      refine tailL_step (fun K hK => ?_)
      go_simp
      refine hK.out _ _ (.inr S6) ?_
      clear hK K
      try simp only [Act.put, List.setIfInBounds_toArray, List.set_cons_zero, List.set_cons_succ]
      refine tailL_step (fun K hK => ?_)
      have HQ5 : Hid (Blk .u16 73 w6 q (laidTo X (off + c))) := (unhide HQR).grown (grown_trans (unhide GD) (grown_trans g5 g6))
      have cq := (unhide HQ5).cell (off + c) (by rw [laidTo_len X (off + c) (by have := unhide HFIT; omega)]; have := unhide HFIT; omega)
      have fq := (unhide HQ5).frozen (off + c)
      go_simp
      refine hK.out _ _ (.inl rfl) ?_
      clear hK K
      refine tailL_nil (NoPanic.normal ?_)
      try simp only [Act.put]
      have HQ9 : Hid (Blk .u16 73 (w6.setCell ⟨q, off + c, none⟩ (.int .u16 u)) q (laidTo X (off + (c + 1)))) := by
        unfold Hid
        rw [← Nat.add_assoc, ← laidTo_set X (off + c) (by have := unhide HFIT; omega) u (unhide HVAL)]
        exact (unhide HQ5).set (off + c) u
      have HG9 : Hid (W.grownBy (w6.setCell ⟨q, off + c, none⟩ (.int .u16 u)) (some q)) := grown_trans (unhide HGR) (grown_trans (grown_any (grown_trans (unhide GD) (grown_trans g5 g6))) (grown_set w6 q (off + c) (.int .u16 u)))
      go_wp2
      go_roundw
      case rel => exact ⟨c + 1, by omega, by go_num, HQ9, HG9⟩
      case measure => simp [intOf]; omega
    · obtain rfl : nw = c := by omega
      go_wp2
      go_end0
      exact ⟨⟨_, rfl⟩, unhide HQR, unhide HGR⟩

set_option maxRecDepth 20000 in
set_option maxHeartbeats 3200000 in
theorem meanOfI (ao : Option Addr) (n cap : Nat) (zs : List Int) (c : Nat) (u : Int) (W : World) (hr : Rd .i64 W ao n zs) (hn : n ≤ 1024) (h0 : ∀ i, 0 ≤ zs.getD i 0 ∧ zs.getD i 0 ≤ 5000000) (hc : 1 ≤ c ∧ c ≤ 10000000) (HU : Hid (meanI zs.sum c = u)) :
    Calls Try.prog 89 #[.slice ao n cap, .int .i64 (c : Int)] W fun e W' => e = .returned (.int .i64 u) ∧ W.grownBy W' none := by
  have HR := hide hr
  have HZ := hide hr.1
  have H0 := hide h0
  clear hr h0
  go_enter Try.func89, Try.ntmps89
  go_wp2
  go_loopw [5, 10] (fun tv iv wr => ∃ (k : Nat) (t : Int), k ≤ n ∧ tv = .int .i64 t ∧ iv = .int .i64 k ∧ Hid ((zs.take k).sum = t) ∧ (0 ≤ t ∧ t ≤ 5000000 * k) ∧ Hid (W.grownBy wr none)) (fun _ iv _ => n - (intOf iv).toNat)
  case atStart => exact ⟨0, 0, by omega, rfl, by go_num, by simp [Hid], by omega, World.grownBy.refl _ _⟩
  case round =>
    obtain ⟨k, t, hk, rfl, rfl, HT, ht, HGW⟩ := hrel
    by_cases hlt : k < n
    · have hkI : (k : Int) < (n : Int) := by omega
      obtain ⟨bb, off, rfl, hc'⟩ := ((unhide HR).grown (unhide HGW)).2 k hlt
      obtain ⟨z, HX⟩ : ∃ z, Hid (zs.getD k 0 = z) := ⟨_, rfl⟩
      have hz := unhide H0 k
      rw [unhide HX] at hc' hz
      have e1 := i64_in z (by omega)
      have e2 := i64_in (t + z) (by omega)
      have e3 := i64_in ((k : Int) + 1) (by omega)
      have HT' : Hid ((zs.take (k + 1)).sum = t + z) := by
        unfold Hid
        have hl : k < zs.length := by rw [unhide HZ]; exact hlt
        rw [List.take_succ_eq_append_getElem hl, List.sum_append, unhide HT]
        have : zs.getD k 0 = zs[k] := by simp [hl]
        rw [← unhide HX, this]
        simp
      go_wp2
      go_roundw
      case rel => exact ⟨k + 1, t + z, by omega, rfl, by go_num, HT', by omega, HGW⟩
      case measure => simp [intOf]; omega
    · obtain rfl : n = k := by omega
      have hT : zs.sum = t := by rw [← unhide HT, ← unhide HZ, List.take_length]
      rw [hT] at HU
      obtain ⟨x, HXX⟩ : ∃ x : Int, Hid (2 * t + (c : Int) = x) := ⟨_, rfl⟩
      obtain ⟨d, HD⟩ : ∃ d : Int, Hid (2 * (c : Int) = d) := ⟨_, rfl⟩
      clear HT hT
      go_wp2_with fail
      refine (divRound16 t c u (by omega) (by omega) HU wr).mono ?_
      rintro e wr ⟨rfl, rfl⟩
      go_wp2
      go_ret
      exact ⟨rfl, unhide HGW⟩

set_option maxRecDepth 20000 in
set_option maxHeartbeats 3200000 in
theorem fillI (q off nw cap gs so ms cps deep : Nat) (X S : List Int) (W : World) (hnw : 1 ≤ nw ∧ nw ≤ 1024) (hms : 1 ≤ ms ∧ ms ≤ 1024) (hdp : 1 ≤ deep ∧ deep ≤ 1024) (hcp : ms ≤ cps)
    (hQ : Blk .u16 73 W q (laidTo X off)) (hfit : off + nw ≤ X.length) (hAt : ∀ x, x < nw → X.getD (off + x) 0 = (meansL S nw deep).getD x 0)
    (hS : Rd .i64 W (some ⟨gs, so, none⟩) ms S) (hne : gs ≠ q) (h0 : ∀ i, 0 ≤ S.getD i 0 ∧ S.getD i 0 ≤ 4095 * deep) :
    Calls Try.prog 75 #[.slice (some ⟨q, off, none⟩) nw cap, .slice (some ⟨gs, so, none⟩) ms cps, .int .i64 (deep : Int)] W fun e W' => (∃ v, e = .returned v) ∧ Blk .u16 73 W' q (laidTo X (off + nw)) ∧ W.grownBy W' (some q) := by
  have HQ := hide hQ
  have HFIT := hide hfit
  have HAT := hide hAt
  have HSR := hide hS
  have HSL := hide hS.1
  have H0 := hide h0
  have HQL : Hid (q < W.heap.size) := hQ.lt
  clear hQ hfit hAt hS h0
  go_enter Try.func75, Try.ntmps75
  go_wp2
  go_loopw [10] (fun cv wr => ∃ (c : Nat), c ≤ nw ∧ cv = .int .i64 c ∧ Hid (Blk .u16 73 wr q (laidTo X (off + c))) ∧ Hid (W.grownBy wr (some q))) (fun cv _ => nw - (intOf cv).toNat)
  case atStart => exact ⟨0, by omega, by go_num, HQ, World.grownBy.refl _ _⟩
  case round =>
    clear HQ
    obtain ⟨c, hc, rfl, HQR, HGR⟩ := hrel
    by_cases hlt : c < nw
    · have hcI : (c : Int) < (nw : Int) := by omega
      have e1 := i64_in ((c : Int) + 1) (by omega)
      obtain ⟨a, HA⟩ : ∃ a, Hid (fromN ms nw c = a) := ⟨_, rfl⟩
      obtain ⟨b, HB⟩ : ∃ b, Hid (toN ms nw c = b) := ⟨_, rfl⟩
      have hab : a < b := by rw [← unhide HA, ← unhide HB]; exact from_to hnw.1 hms.1
      have hbm : b ≤ ms := by rw [← unhide HB]; exact to_le hlt
      obtain ⟨ct, HCT⟩ : ∃ k, Hid (b - a = k) := ⟨_, rfl⟩
      obtain ⟨dc, HDC⟩ : ∃ k : Nat, Hid (deep * ct = k) := ⟨_, rfl⟩
      have hct : 1 ≤ ct ∧ ct ≤ 1024 := by have := unhide HCT; omega
      have hdc : 1 ≤ dc ∧ dc ≤ 1048576 := by
        rw [← unhide HDC]
        exact ⟨Nat.mul_le_mul hdp.1 hct.1, Nat.mul_le_mul hdp.2 hct.2⟩
      obtain ⟨P, HP⟩ : ∃ P, Hid ((S.drop a).take ct = P) := ⟨_, rfl⟩
      have HPL : Hid (P.length = ct) := by unfold Hid; rw [← unhide HP]; have := unhide HSL; have := unhide HCT; simp; omega
      have HPS : Hid (P.sum = sumK S 0 a ct) := by unfold Hid; rw [← unhide HP]; exact sum_take ct (by have := unhide HSL; have := unhide HCT; omega)
      obtain ⟨u, HU⟩ : ∃ u, Hid (meanI P.sum dc = u) := ⟨_, rfl⟩
      have HP0 : Hid (∀ i, 0 ≤ P.getD i 0 ∧ P.getD i 0 ≤ 5000000) := fun i => by
        by_cases hi : i < ct
        · have e : P.getD i 0 = S.getD (a + i) 0 := by rw [← unhide HP]; simp [List.getElem?_take_of_lt hi]
          have := unhide H0 (a + i)
          rw [e]
          have h4 : (4095 : Int) * deep ≤ 4095 * 1024 := Int.mul_le_mul_of_nonneg_left (by omega) (by omega)
          omega
        · have e : P.getD i 0 = 0 := by rw [List.getD_eq_getElem?_getD, List.getElem?_eq_none (by rw [unhide HPL]; omega)]; rfl
          rw [e]
          omega
      have hu : 0 ≤ u ∧ u ≤ 4095 := by
        have h1 := sumK_in (L := S) (at0 := 0) (a := a) (lo := 0) (hi := 4095 * deep) ct (fun j _ => by have := unhide H0 (0 + (a + j)); exact this)
        rw [← unhide HPS] at h1
        rw [← unhide HU]
        refine ⟨mean_ge (by omega) (by rw [Int.mul_zero]; have := h1.1; rw [Int.mul_zero] at this; exact this), mean_le (by omega) ?_⟩
        refine Int.le_trans h1.2 ?_
        rw [← unhide HDC]
        push_cast
        refine Int.le_of_eq ?_
        ac_rfl
      have HVAL : Hid (X.getD (off + c) 0 = u) := by
        unfold Hid
        rw [unhide HAT c hlt, meansL_at S nw deep c hlt, unhide HSL, unhide HA, unhide HB, unhide HCT, unhide HDC, ← unhide HPS, unhide HU]
      have eu := u16_in u (by omega)
      have k1 : IntKind.i64.wrap ((deep : Int) * (ct : Int)) = (dc : Int) := by
        have e : (deep : Int) * (ct : Int) = (dc : Int) := by have := unhide HDC; exact_mod_cast this
        rw [e, i64_in _ (by omega)]
      go_wp2_with fail
      refine (spanOf c nw ms a b hlt hnw.2 hms HA HB wr).mono ?_
      rintro e w1 ⟨rfl, g1⟩
      obtain ⟨W2, hW2⟩ : ∃ W2, w1.alloc (.cells #[.int .i64 (a : Int), .int .i64 (b : Int)] 86) = W2 := ⟨_, rfl⟩
      have G2 : Hid (wr.grownBy W2 none) := by rw [← hW2]; exact grown_alloc g1 _
      have b7 : Hid (W2.heap[w1.heap.size]? = some (.cells #[.int .i64 (a : Int), .int .i64 (b : Int)] 86 (0, 0))) := by rw [← hW2]; exact heap_alloc_new w1 _
      have HW2 := hide hW2
      clear hW2 g1
      go_wp2
      rw [unhide HW2]
      generalize w1.heap.size = s7 at *
      clear HW2
      have i0 : (0 : Int) ≤ (a : Int) := by omega
      have i1 : (a : Int) ≤ (b : Int) := by omega
      have i2 : (b : Int) ≤ (cps : Int) := by omega
      have i3 : ¬ cps = a := by omega
      have j0 : (0 : Int) ≤ (c : Int) := by omega
      refine wp_region_noPanic ?_
      refine wp_region_tailL 20 (fun W => W.heap[s7]? = some (.cells #[.int .i64 (a : Int), .int .i64 (b : Int)] 86 (0, 0))) [true, true, true, true, true, true, true, true, true, true, false, false, false, false, false, false] (by kernel_rfl) (fun _ _ _ _ _ h => h) rfl (by decide) (by kernel_rfl) (unhide b7) ?_
      have b7 : Hid (W2.drew.heap[s7]? = some (.cells #[.int .i64 (a : Int), .int .i64 (b : Int)] 86 (0, 0))) := unhide b7
      have GD : Hid (wr.grownBy W2.drew none) := grown_drew (unhide G2)
      generalize W2.drew = w4 at *
      clear G2
      refine heldF_take (v := ?_) (Or.inl ⟨by rfl, ?_⟩) ?_
      rotate_left 1
      · intro w' hSw
        go_simp
        try with_reducible rfl
      try simp only [Act.put, List.setIfInBounds_toArray, List.set_cons_zero, List.set_cons_succ]
      refine heldF_take (v := ?_) (Or.inl ⟨by rfl, ?_⟩) ?_
      rotate_left 1
      · intro w' hSw
        go_simp
        try with_reducible rfl
      try simp only [Act.put, List.setIfInBounds_toArray, List.set_cons_zero, List.set_cons_succ]
      refine heldF_take (v := ?_) (Or.inl ⟨by rfl, ?_⟩) ?_
      rotate_left 1
      · intro w' hSw
        go_simp
        try with_reducible rfl
      try simp only [Act.put, List.setIfInBounds_toArray, List.set_cons_zero, List.set_cons_succ]
      refine heldF_take (v := ?_) (Or.inl ⟨by rfl, ?_⟩) ?_
      rotate_left 1
      · intro w' hSw
        go_simp
        try with_reducible rfl
      try simp only [Act.put, List.setIfInBounds_toArray, List.set_cons_zero, List.set_cons_succ]
      refine heldF_take (v := ?_) (Or.inl ⟨by rfl, ?_⟩) ?_
      rotate_left 1
      · intro w' hSw
        have ca : w'.cell? ⟨s7, 0, none⟩ = some (.int .i64 (a : Int)) := by rw [cell_of_row w' _ 0 _ _ (0, 0) hSw]; rfl
        have cb : w'.cell? ⟨s7, 1, none⟩ = some (.int .i64 (b : Int)) := by rw [cell_of_row w' _ 1 _ _ (0, 0) hSw]; rfl
        go_simp
        try with_reducible rfl
      try simp only [Act.put, List.setIfInBounds_toArray, List.set_cons_zero, List.set_cons_succ]
      refine heldF_take (v := ?_) (Or.inl ⟨by rfl, ?_⟩) ?_
      rotate_left 1
      · intro w' hSw
        go_simp
        try with_reducible rfl
      try simp only [Act.put, List.setIfInBounds_toArray, List.set_cons_zero, List.set_cons_succ]
      refine heldF_take (v := ?_) (Or.inl ⟨by rfl, ?_⟩) ?_
      rotate_left 1
      · intro w' hSw
        have ca : w'.cell? ⟨s7, 0, none⟩ = some (.int .i64 (a : Int)) := by rw [cell_of_row w' _ 0 _ _ (0, 0) hSw]; rfl
        have cb : w'.cell? ⟨s7, 1, none⟩ = some (.int .i64 (b : Int)) := by rw [cell_of_row w' _ 1 _ _ (0, 0) hSw]; rfl
        go_simp
        try with_reducible rfl
      try simp only [Act.put, List.setIfInBounds_toArray, List.set_cons_zero, List.set_cons_succ]
      refine heldF_take (v := ?_) (Or.inl ⟨by rfl, ?_⟩) ?_
      rotate_left 1
      · intro w' hSw
        go_simp
        try with_reducible rfl
      try simp only [Act.put, List.setIfInBounds_toArray, List.set_cons_zero, List.set_cons_succ]
      refine heldF_take (v := ?_) (Or.inl ⟨by rfl, ?_⟩) ?_
      rotate_left 1
      · intro w' hSw
        go_simp
        try with_reducible rfl
      try simp only [Act.put, List.setIfInBounds_toArray, List.set_cons_zero, List.set_cons_succ]
      refine heldF_take (v := .agg #[.int .i64 (a : Int), .int .i64 (b : Int)]) (Or.inl ⟨by rfl, ?_⟩) ?_
      · intro w' hSw
        exact exec_row 86 _ rfl s7 rfl _ _ hSw _ Try.underlying86 rfl (by kernel_rfl)
      try simp only [Act.put, List.setIfInBounds_toArray, List.set_cons_zero, List.set_cons_succ]
      refine heldF_skip ?_
      refine heldF_skip ?_
      refine heldF_skip ?_
      refine heldF_skip ?_
      refine heldF_skip ?_
      refine heldF_skip ?_
      refine heldF_nil ?_
      refine tailL_skip ?_
      refine tailL_skip ?_
      refine tailL_skip ?_
      refine tailL_skip ?_
      refine tailL_skip ?_
      refine tailL_skip ?_
      refine tailL_skip ?_
      refine tailL_skip ?_
      refine tailL_skip ?_
      refine tailL_skip ?_
      refine tailL_step (fun K hK => ?_)
      go_simp
      refine (spanCount a b ct (by omega) (by omega) HCT w4).mono ?_
      rintro e w5 ⟨rfl, g5⟩
      have S5 : w5.heap[s7]? = _ := grown_atG g5 (unhide b7) (by simp)
      refine hK.out _ _ (.inr S5) ?_
      clear hK K
      try simp only [Act.put, List.setIfInBounds_toArray, List.set_cons_zero, List.set_cons_succ]
      refine tailL_step (fun K hK => ?_)
      go_simp
      refine hK.out _ _ (.inr S5) ?_
      clear hK K
      try simp only [Act.put, List.setIfInBounds_toArray, List.set_cons_zero, List.set_cons_succ]
      refine tailL_step (fun K hK => ?_)
      go_simp
      rw [show b - a = ct from unhide HCT]
      refine (meanOfI (some ⟨gs, so + a, none⟩) ct _ P dc u w5 ?_ hct.2 (unhide HP0) (by omega) HU).mono ?_
      · have hr5 := ((unhide HSR).beside (unhide HGR) (fun _ b' o' e => by simp at e; rw [← e.1]; exact hne)).grown (grown_trans (unhide GD) g5)
        refine ⟨unhide HPL, fun i hi => ⟨gs, so + a, rfl, ?_⟩⟩
        obtain ⟨b', o', e, hcc⟩ := hr5.2 (a + i) (by have := unhide HCT; omega)
        simp only [Option.some.injEq, Addr.mk.injEq, and_true] at e
        obtain ⟨rfl, rfl⟩ := e
        rw [Nat.add_assoc, hcc, ← unhide HP]
        simp [List.getElem?_take_of_lt hi]
      rintro e w6 ⟨rfl, g6⟩
      have S6 : w6.heap[s7]? = _ := grown_atG g6 S5 (by simp)
      refine hK.out _ _ (.inr S6) ?_
      clear hK K
      try simp only [Act.put, List.setIfInBounds_toArray, List.set_cons_zero, List.set_cons_succ]
      refine tailL_step (fun K hK => ?_)
      go_simp
      refine hK.out _ _ (.inr S6) ?_
      clear hK K
      try simp only [Act.put, List.setIfInBounds_toArray, List.set_cons_zero, List.set_cons_succ]
      refine tailL_step (fun K hK => ?_)
      go_simp
      refine hK.out _ _ (.inr S6) ?_
      clear hK K
      try simp only [Act.put, List.setIfInBounds_toArray, List.set_cons_zero, List.set_cons_succ]
      refine tailL_step (fun K hK => ?_)
      have HQ5 : Hid (Blk .u16 73 w6 q (laidTo X (off + c))) := (unhide HQR).grown (grown_trans (unhide GD) (grown_trans g5 g6))
      have cq := (unhide HQ5).cell (off + c) (by rw [laidTo_len X (off + c) (by have := unhide HFIT; omega)]; have := unhide HFIT; omega)
      have fq := (unhide HQ5).frozen (off + c)
      go_simp
      refine hK.out _ _ (.inl rfl) ?_
      clear hK K
      refine tailL_nil (NoPanic.normal ?_)
      try simp only [Act.put]
      have HQ9 : Hid (Blk .u16 73 (w6.setCell ⟨q, off + c, none⟩ (.int .u16 u)) q (laidTo X (off + (c + 1)))) := by
        unfold Hid
        rw [← Nat.add_assoc, ← laidTo_set X (off + c) (by have := unhide HFIT; omega) u (unhide HVAL)]
        exact (unhide HQ5).set (off + c) u
      have HG9 : Hid (W.grownBy (w6.setCell ⟨q, off + c, none⟩ (.int .u16 u)) (some q)) := grown_trans (unhide HGR) (grown_trans (grown_any (grown_trans (unhide GD) (grown_trans g5 g6))) (grown_set w6 q (off + c) (.int .u16 u)))
      go_wp2
      go_roundw
      case rel => exact ⟨c + 1, by omega, by go_num, HQ9, HG9⟩
      case measure => simp [intOf]; omega
    · obtain rfl : nw = c := by omega
      go_wp2
      go_end0
      exact ⟨⟨_, rfl⟩, unhide HQR, unhide HGR⟩

end Go.Proofs.Ytkefpjbdkhifhaa

namespace Go.Proofs.Ytkefpjbdkhifhaa
open Go.RowKit

/-- Columns' sums while a row is added: the first c columns have it. -/
def colsMix (L : List Int) (w r0 R c : Nat) : List Int := (List.range w).map fun x => colS L w r0 x (if x < c then R + 1 else R)
theorem colsMix_zero (L : List Int) (w r0 R : Nat) : colsMix L w r0 R 0 = colsL L w r0 R := by simp [colsMix, colsL]
theorem colsMix_len (L : List Int) (w r0 R c : Nat) : (colsMix L w r0 R c).length = w := by simp [colsMix]
theorem colsMix_at (L : List Int) (w r0 R c : Nat) (hc : c < w) : (colsMix L w r0 R c).getD c 0 = colS L w r0 c R := by simp [colsMix, hc]
theorem colsMix_all (L : List Int) (w r0 R : Nat) : colsMix L w r0 R w = colsL L w r0 (R + 1) := by
  unfold colsMix colsL
  refine List.map_congr_left (fun x hx => ?_)
  rw [if_pos (List.mem_range.1 hx)]
theorem colsMix_set (L : List Int) (w r0 R c : Nat) (z : Int) (hz : colS L w r0 c R + L.getD ((r0 + R) * w + c) 0 = z) : (colsMix L w r0 R c).set c z = colsMix L w r0 R (c + 1) := by
  subst hz
  refine List.ext_getElem (by simp [colsMix]) (fun i h1 h2 => ?_)
  rw [List.getElem_set]
  have hi : i < w := by simpa [colsMix] using h2
  by_cases e : c = i
  · subst e
    simp [colsMix, colS]
  · rw [if_neg e]
    simp only [colsMix, List.getElem_map, List.getElem_range]
    by_cases h : i < c
    · rw [if_pos h, if_pos (by omega)]
    · rw [if_neg h, if_neg (by omega)]

set_option maxRecDepth 20000 in
set_option maxHeartbeats 3200000 in
theorem columnSums (wd ht g n r0 r1 R : Nat) (L : List Int) (W : World) (hw : 1 ≤ wd ∧ wd ≤ 1024) (hh : ht ≤ 1024) (HN : Hid (wd * ht = n)) (hr : r0 ≤ r1 ∧ r1 ≤ ht) (HR : Hid (r1 - r0 = R)) (hB : Blk .u16 73 W g L) (hL : L.length = n) (h0 : ∀ i, 0 ≤ L.getD i 0 ∧ L.getD i 0 ≤ 4095) :
    Calls Try.prog 76 #[.agg #[.int .i64 (wd : Int), .int .i64 (ht : Int), .slice (some ⟨g, 0, none⟩) n n], .agg #[.int .i64 (r0 : Int), .int .i64 (r1 : Int)]] W fun e W' => ∃ gs, e = .returned (.slice (some ⟨gs, 0, none⟩) wd wd) ∧ Blk .i64 3 W' gs (colsL L wd r0 R) ∧ W.heap.size ≤ gs ∧ W.grownBy W' none := by
  have HL := hide hL
  have H0 := hide h0
  have HGL : Hid (g < W.heap.size) := hB.lt
  obtain ⟨i0, hi, hz0, hz1, hz2⟩ := info_parts info_iS
  have HI := hide hi
  have HZ0 := hide hz0
  have HZ1 := hide hz1
  have HZ2 := hide hz2
  obtain ⟨W0, hW0⟩ : ∃ W0, (W.alloc (.cells #[.int .i64 (wd : Int), .int .i64 (ht : Int), .slice (some ⟨g, 0, none⟩) n n] 57)).alloc (.cells #[.int .i64 (r0 : Int), .int .i64 (r1 : Int)] 86) = W0 := ⟨_, rfl⟩
  have HG0 : Hid (W.grownBy W0 none) := by rw [← hW0]; exact grown_alloc (World.grownBy_alloc _ _ _) _
  have b0 : Hid (W0.heap[W.heap.size]? = some (.cells #[.int .i64 (wd : Int), .int .i64 (ht : Int), .slice (some ⟨g, 0, none⟩) n n] 57 (0, 0))) := by rw [← hW0, Below.heap_alloc _ _ _ (by simp)]; exact heap_alloc_new W _
  have b1 : Hid (W0.heap[W.heap.size + 1]? = some (.cells #[.int .i64 (r0 : Int), .int .i64 (r1 : Int)] 86 (0, 0))) := by
    rw [← hW0]
    have := heap_alloc_new (W.alloc (.cells #[.int .i64 (wd : Int), .int .i64 (ht : Int), .slice (some ⟨g, 0, none⟩) n n] 57)) (.cells #[.int .i64 (r0 : Int), .int .i64 (r1 : Int)] 86)
    unfold Hid
    simpa using this
  have HS0 : Hid (W0.heap.size = W.heap.size + 2) := by rw [← hW0]; simp [Hid]
  have HB0 := hide (hB.grown (unhide HG0))
  have HW := hide hW0
  clear hW0 hB hL h0 hi hz0 hz1 hz2
  generalize hs : W.heap.size = s at *
  have HS := hide hs
  go_enter Try.func76, Try.ntmps76
  have HWR : Hid (((W.alloc (.cells #[.int .i64 (wd : Int), .int .i64 (ht : Int), .slice (some ⟨g, 0, none⟩) n n] 57)).alloc (.cells #[.int .i64 (r0 : Int), .int .i64 (r1 : Int)] 86)) = W0) := HW
  go_wp2_with (at_make; refine wpList_make_full _ rfl _ _ 24 rfl s 3 i0 (.int .i64 0) 1 Try.underlying24 (unhide HI) (unhide HZ0) (unhide HZ1) .i64 .i64 _ _ wd rfl rfl rfl rfl (by rw [unhide HZ2]; omega) (by unfold maxLen; omega) (by simp; omega) ?_)
  rw [unhide HWR]
  intro w2 hown g2
  have HC2 : Hid (Blk .i64 3 w2 (s + 1 + 1) (List.replicate wd 0)) := Blk.made (by rw [Nat.mul_one]; exact hown)
  have G2 := hide g2
  clear hown g2 HW HWR hs
  generalize hgs : s + 1 + 1 = gs at *
  have HGS : Hid (gs = s + 2) := by unfold Hid; omega
  have c0 : W0.cell? ⟨s + 1, 0, none⟩ = some (.int .i64 (r0 : Int)) := by rw [cell_of_row W0 _ 0 _ _ (0, 0) (unhide b1)]; rfl
  have c1 : W0.cell? ⟨s + 1, 1, none⟩ = some (.int .i64 (r1 : Int)) := by rw [cell_of_row W0 _ 1 _ _ (0, 0) (unhide b1)]; rfl
  have d0 := (unhide G2).cell c0 (by simp)
  have d1 := (unhide G2).cell c1 (by simp)
  have HSTART : Hid (Blk .i64 3 w2 gs (colsL L wd r0 0)) := by rw [colsL_zero]; exact unhide HC2
  clear HC2 hgs
  go_wp2
  go_loopw [6] (fun rv wr => ∃ (j : Nat), j ≤ R ∧ rv = .int .i64 ((r0 + j : Nat) : Int) ∧ Hid (Blk .i64 3 wr gs (colsL L wd r0 j)) ∧ Hid (w2.grownBy wr (some gs))) (fun rv _ => r1 - (intOf rv).toNat)
  case atStart => exact ⟨0, by omega, by simp, HSTART, World.grownBy.refl _ _⟩
  case round =>
    clear HSTART
    obtain ⟨j, hj, rfl, HQR, HGR⟩ := hrel
    have y1 := grown_atG (unhide HGR) (grown_atG (unhide G2) (unhide b1) (by simp)) (by have := unhide HGS; simp; omega)
    have cy : wr.cell? ⟨s + 1, 1, none⟩ = some (.int .i64 (r1 : Int)) := by rw [cell_of_row wr _ 1 _ _ (0, 0) y1]; rfl
    obtain ⟨rr, HRR⟩ : ∃ x : Nat, Hid (r0 + j = x) := ⟨_, rfl⟩
    rw [unhide HRR]
    clear y1
    by_cases hlt : rr < r1
    · have hrI : (rr : Int) < (r1 : Int) := by omega
      have e1 := i64_in ((rr : Int) + 1) (by omega)
      obtain ⟨lo, HLO⟩ : ∃ lo : Nat, Hid (rr * wd = lo) := ⟨_, rfl⟩
      have hlx := row_end (w := wd) (show rr < ht by omega)
      rw [Nat.mul_comm ht wd, unhide HLO, unhide HN] at hlx
      have y0 := grown_atG (unhide HGR) (grown_atG (unhide G2) (unhide b0) (by simp)) (by have := unhide HGS; simp; omega)
      have x0 : wr.cell? ⟨s, 0, none⟩ = some (.int .i64 (wd : Int)) := by rw [cell_of_row wr _ 0 _ _ (0, 0) y0]; rfl
      have x1 : wr.cell? ⟨s, 1, none⟩ = some (.int .i64 (ht : Int)) := by rw [cell_of_row wr _ 1 _ _ (0, 0) y0]; rfl
      have x2 : wr.cell? ⟨s, 2, none⟩ = some (.slice (some ⟨g, 0, none⟩) n n) := by rw [cell_of_row wr _ 2 _ _ (0, 0) y0]; rfl
      clear y0
      go_wp2_with fail
      refine (toneRow wd ht g n rr lo hw hh (by omega) HN HLO wr).mono ?_
      rintro e w4 ⟨rfl, g4⟩
      have HQ4 : Hid (Blk .i64 3 w4 gs (colsMix L wd r0 j 0)) := by rw [colsMix_zero]; exact (unhide HQR).grown g4
      have HG4 := hide (grown_trans (unhide HGR) (grown_any g4))
      clear g4 x0 x1 x2 cy
      go_wp2
      go_loopw [27] (fun cv wx => ∃ (c : Nat), c ≤ wd ∧ cv = .int .i64 c ∧ Hid (Blk .i64 3 wx gs (colsMix L wd r0 j c)) ∧ Hid (w2.grownBy wx (some gs))) (fun cv _ => wd - (intOf cv).toNat)
      case atStart => exact ⟨0, by omega, by go_num, HQ4, HG4⟩
      case round =>
        clear HQ4 HG4 HQR HGR
        obtain ⟨c, hc, rfl, HQX, HGX⟩ := hrel
        by_cases hcl : c < wd
        · have hcI : (c : Int) < (wd : Int) := by omega
          have f1 := i64_in ((c : Int) + 1) (by omega)
          obtain ⟨z, HZ⟩ : ∃ z, Hid (L.getD (lo + c) 0 = z) := ⟨_, rfl⟩
          obtain ⟨v, HV⟩ : ∃ v, Hid (colS L wd r0 c j = v) := ⟨_, rfl⟩
          have hz := unhide H0 (lo + c)
          have hv := colS_in (w := wd) (r0 := r0) (x := c) (unhide H0) j
          rw [unhide HZ] at hz
          rw [unhide HV] at hv
          have hjR : j ≤ 1024 := by have := unhide HR; omega
          have HBX := ((unhide HB0).grown (unhide G2)).beside (unhide HGX) (by have := unhide HGL; have := unhide HGS; simp; omega)
          have ck := HBX.cell (lo + c) (by have := unhide HL; omega)
          rw [unhide HZ] at ck
          have cq := (unhide HQX).cell c (by rw [colsMix_len]; exact hcl)
          rw [colsMix_at _ _ _ _ _ hcl, unhide HV] at cq
          have fq := (unhide HQX).frozen c
          have f2 := i64_in z (by omega)
          have f3 := i64_in (v + z) (by omega)
          have HQ' : Hid (Blk .i64 3 (wr.setCell ⟨gs, c, none⟩ (.int .i64 (v + z))) gs (colsMix L wd r0 j (c + 1))) := by
            unfold Hid
            rw [← colsMix_set L wd r0 j c (v + z) (by rw [unhide HV, unhide HRR, unhide HLO, unhide HZ])]
            exact (unhide HQX).set c (v + z)
          have HG' := hide (grown_trans (unhide HGX) (grown_set wr gs c (.int .i64 (v + z))))
          clear HBX hv hz
          go_wp2
          go_roundw
          case rel => exact ⟨c + 1, by omega, by go_num, HQ', HG'⟩
          case measure => simp [intOf]; omega
        · obtain rfl : wd = c := by omega
          have hcd : decide ((wd : Int) < (wd : Int)) = false := decide_eq_false (by omega)
          have HQN : Hid (Blk .i64 3 wr gs (colsL L wd r0 (j + 1))) := by rw [← colsMix_all]; exact unhide HQX
          have hrn : ((rr : Int) + 1) = ((r0 + (j + 1) : Nat) : Int) := by have := unhide HRR; omega
          have HRN := hide hrn
          clear hrn
          go_wp2
          go_roundw
          case rel => exact ⟨j + 1, by have := unhide HR; have := unhide HRR; omega, by rw [unhide HRN], HQN, HGX⟩
          case measure => simp [intOf]; omega
    · have hjR : j = R := by have := unhide HR; have := unhide HRR; omega
      have hrd : decide ((rr : Int) < (r1 : Int)) = false := decide_eq_false (by omega)
      rw [hjR] at HQR
      clear hjR
      go_wp2
      go_ret
      refine ⟨gs, rfl, unhide HQR, by have := unhide HGS; omega, ?_⟩
      exact grown_new (grown_trans (unhide HG0) (unhide G2)) (unhide HGR) (fun k e => by simp at e; have := unhide HGS; have := unhide HS; omega)

end Go.Proofs.Ytkefpjbdkhifhaa
