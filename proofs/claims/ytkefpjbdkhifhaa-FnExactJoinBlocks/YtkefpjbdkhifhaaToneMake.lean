/-
  PlaneOk in the program, and planes that are made anew with other sides by a function that is handed in.
-/
import Derived.Test.YtkefpjbdkhifhaaToneFix2
import Derived.Shelf.Abstract
namespace Go.Proofs.Ytkefpjbdkhifhaa
open Go.RowKit Go.Shelf

set_option maxRecDepth 20000 in
set_option maxHeartbeats 1600000 in
theorem implPlaneOk (ao : Option Addr) (m cap : Nat) (zs : List Int) (w h : Int) (W : World) (hr : Rd .i64 W ao m zs) (hm : m ≤ 9223372036854775807) (b : Bool) (HB : Hid (planeB zs w h = b)) :
    Calls Try.prog 31 #[.slice ao m cap, .int .i64 w, .int .i64 h] W fun e W' => e = .returned (.bool b) ∧ W.grownBy W' none := by
  have HR := hide hr
  clear hr
  go_enter Try.func31, Try.ntmps31
  go_wp2_with fail
  refine (fixTones ao m cap zs w h W (unhide HR) hm b HB).mono ?_
  rintro e w1 ⟨⟨v, rfl, hf⟩, g1⟩
  have HG1 := hide g1
  clear g1
  rcases hf with ⟨rfl, wd, ht, g, n, rfl, rfl, _, rfl, _⟩ | ⟨rfl, a, c, so, sn, sc, rfl, _⟩
  · go_wp2
    go_ret
    exact ⟨rfl, grown_alloc (unhide HG1) _⟩
  · go_wp2
    go_ret
    exact ⟨rfl, grown_alloc (unhide HG1) _⟩

theorem field_grid (a b c : Value) (w : World) : (Instr.field 57 (.agg #[a, b, c]) 0).run Try.prog w = .ok (.agg #[a, b, c]) w := by kernel_rfl
theorem field_things (a b c : Value) (w : World) : (Instr.field 55 (.agg #[a, b, c]) 1).run Try.prog w = .ok c w := by kernel_rfl

/-- A function that makes a plane anew with other sides. -/
def TurnC (F : Nat) (ok : Nat → Nat → Nat → Nat → Prop) (X : List Int → Nat → Nat → Nat → Nat → List Int) : Prop :=
  ∀ (wd ht g n nw nh m : Nat) (L : List Int) (W : World), (1 ≤ wd ∧ wd ≤ 1024) → (1 ≤ ht ∧ ht ≤ 1024) → Hid (wd * ht = n) → n ≤ 131072 → (1 ≤ nw ∧ nw ≤ 1024) → (1 ≤ nh ∧ nh ≤ 1024) → Hid (nw * nh = m) → m ≤ 131072 → ok wd ht nw nh →
    Blk .u16 73 W g L → L.length = n → (∀ x ∈ L, 0 ≤ x ∧ x ≤ 4095) →
    Calls Try.prog F #[.agg #[.int .i64 (wd : Int), .int .i64 (ht : Int), .slice (some ⟨g, 0, none⟩) n n], .agg #[.int .i64 (nw : Int), .int .i64 (nh : Int)]] W fun e W' =>
      ∃ g', e = .returned (.agg #[.int .i64 (nw : Int), .int .i64 (nh : Int), .slice (some ⟨g', 0, none⟩) m m]) ∧ Blk .u16 73 W' g' (X L wd ht nw nh) ∧ W.grownBy W' none

set_option maxRecDepth 20000 in
set_option maxHeartbeats 3200000 in
theorem remade (F : Nat) (ok : Nat → Nat → Nat → Nat → Prop) (X : List Int → Nat → Nat → Nat → Nat → List Int) (hF : TurnC F ok X) (eF : ∀ args w, (callFunc F args).run Try.prog w = .ok (.enter F args) w)
    (ao : Option Addr) (m cap : Nat) (zs : List Int) (w h nw nh : Int) (W : World) (hr : Rd .i64 W ao m zs) (hm : m ≤ 9223372036854775807) (hok : ok w.toNat h.toNat nw.toNat nh.toNat)
    (hX : ∀ (wd ht nw nh : Nat), ok wd ht nw nh → zs.length = wd * ht → 1 ≤ wd → 1 ≤ ht → (∀ x ∈ zs, 0 ≤ x ∧ x ≤ 4095) → (X zs wd ht nw nh).length = nw * nh ∧ ∀ x ∈ X zs wd ht nw nh, 0 ≤ x ∧ x ≤ 4095)
    (L : List Int) (HL : Hid ((if planeB zs w h && sidesB nw nh then X zs w.toNat h.toNat nw.toNat nh.toNat else []) = L)) :
    Calls Try.prog 45 #[.slice ao m cap, .agg #[.int .i64 w, .int .i64 h], .agg #[.int .i64 nw, .int .i64 nh], .func (.func F) #[] #[]] W fun e W' => ∃ so sc, e = .returned (.slice so L.length sc) ∧ W'.ownsRow W.heap.size 3 1 (.slice so L.length sc) L.length (L.map (Value.int .i64)) ∧ W.grownBy W' none := by
  have HX := hide hX
  have HF := hide hF
  have HEF := hide eF
  have HOK := hide hok
  clear hX hF hok eF
  obtain ⟨pb, HP⟩ : ∃ y, Hid (planeB zs w h = y) := ⟨_, rfl⟩
  obtain ⟨sb, HS⟩ : ∃ y, Hid (sidesB nw nh = y) := ⟨_, rfl⟩
  obtain ⟨W0, hW0⟩ : ∃ W0, (W.alloc (.cells #[.int .i64 w, .int .i64 h] 48)).alloc (.cells #[.int .i64 nw, .int .i64 nh] 48) = W0 := ⟨_, rfl⟩
  have HG0 : Hid (W.grownBy W0 none) := by rw [← hW0]; exact grown_alloc (World.grownBy_alloc _ _ _) _
  have b1 : Hid (W0.heap[W.heap.size + 1]? = some (.cells #[.int .i64 nw, .int .i64 nh] 48 (0, 0))) := by
    rw [← hW0]
    have := heap_alloc_new (W.alloc (.cells #[.int .i64 w, .int .i64 h] 48)) (.cells #[.int .i64 nw, .int .i64 nh] 48)
    unfold Hid
    simpa using this
  have HR := hide (hr.grown (unhide HG0))
  have HZ := hide hr.1
  have HW := hide hW0
  clear hW0 hr
  go_enter Try.func45, Try.ntmps45
  go_wp2_with fail
  rw [unhide HW]
  refine (fixTones ao m cap zs w h W0 (unhide HR) hm pb HP).mono ?_
  rintro e w1 ⟨⟨v, rfl, hf⟩, g1⟩
  have b1' := grown_atG g1 (unhide b1) (by simp)
  have k0 : w1.cell? ⟨W.heap.size + 1, 0, none⟩ = some (.int .i64 nw) := by rw [cell_of_row w1 _ 0 _ _ (0, 0) b1']; rfl
  have k1 : w1.cell? ⟨W.heap.size + 1, 1, none⟩ = some (.int .i64 nh) := by rw [cell_of_row w1 _ 1 _ _ (0, 0) b1']; rfl
  have HG1 := hide (grown_trans (unhide HG0) g1)
  have HG1' := hide g1
  clear g1 b1' HW
  rcases hf with ⟨rfl, wd, ht, g, n, rfl, rfl, hn, rfl, hB, hge⟩ | ⟨rfl, a, c, so, sn, sc, rfl, _⟩
  · have hpl := plane_of (unhide HP)
    have hnm : n = m := by
      have h1 := hpl.2.2.1
      rw [unhide HZ, ← Int.natCast_mul, hn] at h1
      omega
    subst hnm
    have HPL := hide hpl
    have HN := hide hn
    have HB := hide hB
    have hbd : (1 ≤ wd ∧ wd ≤ 1024) ∧ (1 ≤ ht ∧ ht ≤ 1024) ∧ n ≤ 131072 := by
      obtain ⟨h1, h2, _, h4, _⟩ := hpl
      rw [← Int.natCast_mul, hn] at h4
      omega
    have hlt : W.heap.size + 1 < w1.heap.size := World.block_lt_of_cell? w1 _ k0
    have GT1 := World.grownBy_alloc w1 (.cells #[.int .i64 (wd : Int), .int .i64 (ht : Int), .slice (some ⟨g, 0, none⟩) n n] 57) none
    have j0 := GT1.cell k0 (by simp)
    have j1 := GT1.cell k1 (by simp)
    clear hpl hn hB hge GT1
    cases sb with
    | false =>
      obtain rfl : L = [] := by rw [← unhide HL, unhide HS]; simp
      go_wp2_with fail
      refine (isPlane nw nh false HS _).mono ?_
      rintro e w2 ⟨rfl, g2⟩
      have HG2 := hide (grown_trans (grown_alloc (unhide HG1) _) g2)
      clear g2
      go_wp2
      go_ret
      exact ⟨none, 0, rfl, ⟨rfl, .inl ⟨rfl, rfl⟩⟩, unhide HG2⟩
    | true =>
      obtain ⟨s1, s2, s3⟩ := sides_of (unhide HS)
      obtain ⟨nwN, rfl⟩ : ∃ k : Nat, nw = (k : Int) := ⟨nw.toNat, by omega⟩
      obtain ⟨nhN, rfl⟩ : ∃ k : Nat, nh = (k : Int) := ⟨nh.toNat, by omega⟩
      obtain ⟨mm, HMM⟩ : ∃ k : Nat, Hid (nwN * nhN = k) := ⟨_, rfl⟩
      have hmm : mm ≤ 131072 := by rw [← Int.natCast_mul, unhide HMM] at s3; omega
      have HLG : Hid (X zs wd ht nwN nhN = L) := by
        unfold Hid
        rw [← unhide HL, unhide HP, unhide HS]
        rfl
      have hok : ok wd ht nwN nhN := by have := unhide HOK; simpa using this
      have hx := unhide HX wd ht nwN nhN hok (by rw [unhide HZ, unhide HN]) hbd.1.1 hbd.2.1.1 (unhide HPL).2.2.2.2
      rw [unhide HLG, unhide HMM] at hx
      have HXX := hide hx
      have HOK' := hide hok
      clear hx hok s3
      go_wp2_with fail
      refine (isPlane (nwN : Int) (nhN : Int) true HS _).mono ?_
      rintro e w2 ⟨rfl, g2⟩
      have GA := grown_trans (World.grownBy_alloc w1 (.cells #[.int .i64 (wd : Int), .int .i64 (ht : Int), .slice (some ⟨g, 0, none⟩) n n] 57) none) g2
      have HB2 := hide ((unhide HB).grown GA)
      have k0' := GA.cell k0 (by simp)
      have k1' := GA.cell k1 (by simp)
      have bt := grown_atG g2 (heap_alloc_new w1 (.cells #[.int .i64 (wd : Int), .int .i64 (ht : Int), .slice (some ⟨g, 0, none⟩) n n] 57)) (by simp)
      have t0 : w2.cell? ⟨w1.heap.size, 0, none⟩ = some (.int .i64 (wd : Int)) := by rw [cell_of_row w2 _ 0 _ _ (0, 0) bt]; rfl
      have t1 : w2.cell? ⟨w1.heap.size, 1, none⟩ = some (.int .i64 (ht : Int)) := by rw [cell_of_row w2 _ 1 _ _ (0, 0) bt]; rfl
      have t2 : w2.cell? ⟨w1.heap.size, 2, none⟩ = some (.slice (some ⟨g, 0, none⟩) n n) := by rw [cell_of_row w2 _ 2 _ _ (0, 0) bt]; rfl
      have HG2 := hide (grown_trans (unhide HG1) GA)
      have eF := unhide HEF
      clear k0 k1 GA bt g2 HB
      go_wp2_with fail
      refine (unhide HF wd ht g n nwN nhN mm zs w2 hbd.1 hbd.2.1 HN hbd.2.2 (by omega) (by omega) HMM hmm (unhide HOK') (unhide HB2) (unhide HZ) (unhide HPL).2.2.2.2).mono ?_
      rintro e w3 ⟨g', rfl, hB3, g3⟩
      rw [unhide HLG] at hB3
      have HB3 := hide hB3
      have HG3 := hide (grown_trans (unhide HG2) g3)
      have fl0 := field_grid (.int .i64 (nwN : Int)) (.int .i64 (nhN : Int)) (.slice (some ⟨g', 0, none⟩) mm mm) w3
      have fl1 := field_things (.int .i64 (nwN : Int)) (.int .i64 (nhN : Int)) (.slice (some ⟨g', 0, none⟩) mm mm) w3
      clear hB3 g3 eF
      go_wp2_with fail
      refine (toneList 73 g' mm L w3 (unhide HB3) (unhide HXX).1 hmm (unhide HXX).2).mono ?_
      rintro e w4 ⟨so, sc, rfl, o4, g4⟩
      have hL := (unhide HXX).1
      rw [← hL] at o4 ⊢
      have HO4 := hide (own_base o4 (unhide HG3).size)
      have HG4 := hide (grown_trans (unhide HG3) g4)
      clear hL o4 g4
      go_wp2
      go_ret
      exact ⟨_, _, rfl, unhide HO4, unhide HG4⟩
  · obtain rfl : L = [] := by rw [← unhide HL, unhide HP]; simp
    go_wp2
    go_ret
    exact ⟨none, 0, rfl, ⟨rfl, .inl ⟨rfl, rfl⟩⟩, grown_alloc (unhide HG1) _⟩

end Go.Proofs.Ytkefpjbdkhifhaa
