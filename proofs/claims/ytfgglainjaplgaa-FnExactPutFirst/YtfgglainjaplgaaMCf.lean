/-
  PassPut, GeoHas, GeoHasC, PassImpl, PassOk, PassFor, GivePass, GivePut.
-/
import Derived.Test.YtfgglainjaplgaaMCe

namespace Go.Proofs.Ytfgglainjaplgaa
open Go.RowKit

/-- One number put, by what becomes of it. -/
def stepO (f : Int → Int → Option Int) (k : Nat) (n : Int) (z : List Int) : Option (List Int) := (f (z.getD k 0) n).map fun y => z.set k y
/-- Waves while what was told is put into them, in their box. -/
structure Tp13 (w W : World) (zs : List Int) (sx : Array Value) (b : Nat) (Y : List Int) : Prop where
  tz : Tz w W zs sx 3
  zb : W.heap[b]? = some (.cells (sq Y) 73 (0, 0))
  lo : w.heap.size + 3 ≤ b
  len : Y.length = 64
  lev : ∀ j, j < 64 → -16383 ≤ Y.getD j 0 ∧ Y.getD j 0 ≤ 16383
theorem Tp13.new {w W W' : World} {zs : List Int} {sx : Array Value} {b : Nat} {Y : List Int} (h : Tp13 w W zs sx b Y) (g : W.grownBy W' none) : Tp13 w W' zs sx b Y :=
  ⟨h.tz.new g, grown_atT g h.zb (by simp), h.lo, h.len, h.lev⟩
theorem Tp13.put {w W : World} {zs : List Int} {sx : Array Value} {b : Nat} {Y : List Int} (h : Tp13 w W zs sx b Y) (k : Nat) (y : Int) (hy : -16383 ≤ y ∧ y ≤ 16383) : Tp13 w (W.setCell ⟨b, k, none⟩ (.int .i64 y)) zs sx b (Y.set k y) := by
  have hl := h.len
  refine ⟨h.tz.wr (grown_set W b k _) h.lo, ?_, h.lo, by rw [List.length_set]; exact h.len, fun j hj => ?_⟩
  · rw [heap_setCell_same W b k _ _ _ h.zb]
    congr 2
    unfold sq
    rw [List.map_set]
    simp
  · by_cases e : k = j
    · subst e
      have : (Y.set k y).getD k 0 = y := by simp [hl, hj]
      rw [this]; exact hy
    · have : (Y.set k y).getD j 0 = Y.getD j 0 := by simp [e]
      rw [this]; exact h.lev j hj

set_option maxRecDepth 20000 in
set_option maxHeartbeats 6400000 in
theorem withTold (zs : List Int) (hz : zs.length = 64) (hlv : ∀ j, j < 64 → -16383 ≤ (zigged zs).getD j 0 ∧ (zigged zs).getD j 0 ≤ 16383) (v0 : Value) (cs : List Int) (k0 k1 : Nat) (hi lo : Int) (h1 : k0 ≤ k1) (h2 : k1 ≤ 63) (A : Array Value) (k : Int) (g : Nat) (rv : Value) (f : Int → Int → Option Int)
    (HT : Hid (∀ W, Calls Try.prog 65 #[scV v0 ⟨cs, k0, k1, hi, lo⟩] W fun e w' => e = .returned (.agg A) ∧ W.grownBy w' none))
    (HK : Hid (∀ W, Calls Try.prog 62 #[scV v0 ⟨cs, k0, k1, hi, lo⟩] W fun e w' => e = .returned (.int .i64 k) ∧ W.grownBy w' none))
    (HX : Hid (∀ w, (Instr.index 90 (.agg A) (.int .i64 k)).run Try.prog w = .ok (.func (.func g) #[rv] #[]) w))
    (eg : ∀ args w, (callFunc g args).run Try.prog w = .ok (.enter g args) w)
    (HF : Hid (∀ x t y : Int, f x t = some y → -16383 ≤ y ∧ y ≤ 16383))
    (HC : Hid (∀ x t : Int, -16383 ≤ x ∧ x ≤ 16383 → ∀ W, Calls Try.prog g #[rv, .int .i64 x, .int .i64 t] W fun e W' => ∃ y : Int, (e = .returned (.tuple #[.int .i64 y, .bool (f x t).isSome]) ∧ ((f x t).isSome = true → f x t = some y)) ∧ W.grownBy W' none))
    (bo : Option Addr) (ln lc : Nat) (ls : List Int) (w : World) (hr : Rd .i64 w bo ln ls) (hln : ln ≤ 1048576) (R : Option (List Int)) (HR : Hid ((if (ln : Int) = (k1 : Int) - (k0 : Int) + 1 then putT (stepO f) k0 ls (zigged zs) ln else none) = R)) :
    Calls Try.prog 55 #[.agg (sq zs), scV v0 ⟨cs, k0, k1, hi, lo⟩, .slice bo ln lc] w fun e w' => (∃ ys, e = .returned (.tuple #[.agg (sq ys), .bool R.isSome]) ∧ ys.length = 64 ∧ (∀ z, R = some z → ys = unzigged z)) ∧ w.grownBy w' none := by
  obtain ⟨Z, HZZ⟩ : ∃ Z, Hid (zigged zs = Z) := ⟨_, rfl⟩
  have HZL : Hid (Z.length = 64) := by rw [← unhide HZZ]; exact made_len _
  have HZS : Hid ((sq Z).size = 64) := by unfold Hid; rw [sq_size]; exact unhide HZL
  rw [unhide HZZ] at HR hlv
  have HZ0 := hide hz
  have HLV := hide hlv
  have HRD := hide hr
  unfold scV at HT HK ⊢
  dsimp only at HT HK ⊢
  have TB : Hid (Tz w (((w.alloc (.cells (sq zs) 73)).alloc (.cells #[v0, .int .i64 (k0 : Int), .int .i64 (k1 : Int), .int .i64 hi, .int .i64 lo] 26)).alloc (.cells #[.int .i64 0, .int .i64 0, .int .i64 0, .int .i64 0, .int .i64 0, .int .i64 0, .int .i64 0, .int .i64 0, .int .i64 0, .int .i64 0, .int .i64 0, .int .i64 0, .int .i64 0, .int .i64 0, .int .i64 0, .int .i64 0, .int .i64 0, .int .i64 0, .int .i64 0, .int .i64 0, .int .i64 0, .int .i64 0, .int .i64 0, .int .i64 0, .int .i64 0, .int .i64 0, .int .i64 0, .int .i64 0, .int .i64 0, .int .i64 0, .int .i64 0, .int .i64 0, .int .i64 0, .int .i64 0, .int .i64 0, .int .i64 0, .int .i64 0, .int .i64 0, .int .i64 0, .int .i64 0, .int .i64 0, .int .i64 0, .int .i64 0, .int .i64 0, .int .i64 0, .int .i64 0, .int .i64 0, .int .i64 0, .int .i64 0, .int .i64 0, .int .i64 0, .int .i64 0, .int .i64 0, .int .i64 0, .int .i64 0, .int .i64 0, .int .i64 0, .int .i64 0, .int .i64 0, .int .i64 0, .int .i64 0, .int .i64 0, .int .i64 0, .int .i64 0] 73)) zs #[v0, .int .i64 (k0 : Int), .int .i64 (k1 : Int), .int .i64 hi, .int .i64 lo] 3) := by
    refine ⟨?_, ?_, fun _ => ?_, by simp, by decide, grown_alloc (grown_alloc (World.grownBy_alloc _ _ _) _) _⟩
    · rw [Below.heap_alloc _ _ _ (by simp; omega), Below.heap_alloc _ _ _ (by simp)]
      exact heap_alloc_new w _
    · rw [Below.heap_alloc _ _ _ (by simp)]
      have := heap_alloc_new (w.alloc (.cells (sq zs) 73)) (.cells #[v0, .int .i64 (k0 : Int), .int .i64 (k1 : Int), .int .i64 hi, .int .i64 lo] 26)
      simpa using this
    · have := heap_alloc_new ((w.alloc (.cells (sq zs) 73)).alloc (.cells #[v0, .int .i64 (k0 : Int), .int .i64 (k1 : Int), .int .i64 hi, .int .i64 lo] 26)) (.cells #[.int .i64 0, .int .i64 0, .int .i64 0, .int .i64 0, .int .i64 0, .int .i64 0, .int .i64 0, .int .i64 0, .int .i64 0, .int .i64 0, .int .i64 0, .int .i64 0, .int .i64 0, .int .i64 0, .int .i64 0, .int .i64 0, .int .i64 0, .int .i64 0, .int .i64 0, .int .i64 0, .int .i64 0, .int .i64 0, .int .i64 0, .int .i64 0, .int .i64 0, .int .i64 0, .int .i64 0, .int .i64 0, .int .i64 0, .int .i64 0, .int .i64 0, .int .i64 0, .int .i64 0, .int .i64 0, .int .i64 0, .int .i64 0, .int .i64 0, .int .i64 0, .int .i64 0, .int .i64 0, .int .i64 0, .int .i64 0, .int .i64 0, .int .i64 0, .int .i64 0, .int .i64 0, .int .i64 0, .int .i64 0, .int .i64 0, .int .i64 0, .int .i64 0, .int .i64 0, .int .i64 0, .int .i64 0, .int .i64 0, .int .i64 0, .int .i64 0, .int .i64 0, .int .i64 0, .int .i64 0, .int .i64 0, .int .i64 0, .int .i64 0, .int .i64 0] 73)
      rw [sq_z64]
      simpa using this
  obtain ⟨c0, c1, c2, c3, c4⟩ := scanCells (unhide TB).sb
  have e1 := i64_in ((k1 : Int) - (k0 : Int)) (by omega)
  have e2 := i64_in ((k1 : Int) - (k0 : Int) + 1) (by omega)
  obtain ⟨WB, HWB⟩ : ∃ WB, Hid (((w.alloc (.cells (sq zs) 73)).alloc (.cells #[v0, .int .i64 (k0 : Int), .int .i64 (k1 : Int), .int .i64 hi, .int .i64 lo] 26)).alloc (.cells #[.int .i64 0, .int .i64 0, .int .i64 0, .int .i64 0, .int .i64 0, .int .i64 0, .int .i64 0, .int .i64 0, .int .i64 0, .int .i64 0, .int .i64 0, .int .i64 0, .int .i64 0, .int .i64 0, .int .i64 0, .int .i64 0, .int .i64 0, .int .i64 0, .int .i64 0, .int .i64 0, .int .i64 0, .int .i64 0, .int .i64 0, .int .i64 0, .int .i64 0, .int .i64 0, .int .i64 0, .int .i64 0, .int .i64 0, .int .i64 0, .int .i64 0, .int .i64 0, .int .i64 0, .int .i64 0, .int .i64 0, .int .i64 0, .int .i64 0, .int .i64 0, .int .i64 0, .int .i64 0, .int .i64 0, .int .i64 0, .int .i64 0, .int .i64 0, .int .i64 0, .int .i64 0, .int .i64 0, .int .i64 0, .int .i64 0, .int .i64 0, .int .i64 0, .int .i64 0, .int .i64 0, .int .i64 0, .int .i64 0, .int .i64 0, .int .i64 0, .int .i64 0, .int .i64 0, .int .i64 0, .int .i64 0, .int .i64 0, .int .i64 0, .int .i64 0] 73) = WB) := ⟨_, rfl⟩
  have hr0 := unhide HR
  have NOO : Hid (∀ W, Tz w W zs #[v0, .int .i64 (k0 : Int), .int .i64 (k1 : Int), .int .i64 hi, .int .i64 lo] 3 → R = none → ∀ W', W'.heap[w.heap.size + 2]? = some (.cells #[.int .i64 0, .int .i64 0, .int .i64 0, .int .i64 0, .int .i64 0, .int .i64 0, .int .i64 0, .int .i64 0, .int .i64 0, .int .i64 0, .int .i64 0, .int .i64 0, .int .i64 0, .int .i64 0, .int .i64 0, .int .i64 0, .int .i64 0, .int .i64 0, .int .i64 0, .int .i64 0, .int .i64 0, .int .i64 0, .int .i64 0, .int .i64 0, .int .i64 0, .int .i64 0, .int .i64 0, .int .i64 0, .int .i64 0, .int .i64 0, .int .i64 0, .int .i64 0, .int .i64 0, .int .i64 0, .int .i64 0, .int .i64 0, .int .i64 0, .int .i64 0, .int .i64 0, .int .i64 0, .int .i64 0, .int .i64 0, .int .i64 0, .int .i64 0, .int .i64 0, .int .i64 0, .int .i64 0, .int .i64 0, .int .i64 0, .int .i64 0, .int .i64 0, .int .i64 0, .int .i64 0, .int .i64 0, .int .i64 0, .int .i64 0, .int .i64 0, .int .i64 0, .int .i64 0, .int .i64 0, .int .i64 0, .int .i64 0, .int .i64 0, .int .i64 0] 73 (0, 0)) → W.grownBy W' (some (w.heap.size + 2)) → (∃ ys, Ending.returned (.tuple #[.agg #[.int .i64 0, .int .i64 0, .int .i64 0, .int .i64 0, .int .i64 0, .int .i64 0, .int .i64 0, .int .i64 0, .int .i64 0, .int .i64 0, .int .i64 0, .int .i64 0, .int .i64 0, .int .i64 0, .int .i64 0, .int .i64 0, .int .i64 0, .int .i64 0, .int .i64 0, .int .i64 0, .int .i64 0, .int .i64 0, .int .i64 0, .int .i64 0, .int .i64 0, .int .i64 0, .int .i64 0, .int .i64 0, .int .i64 0, .int .i64 0, .int .i64 0, .int .i64 0, .int .i64 0, .int .i64 0, .int .i64 0, .int .i64 0, .int .i64 0, .int .i64 0, .int .i64 0, .int .i64 0, .int .i64 0, .int .i64 0, .int .i64 0, .int .i64 0, .int .i64 0, .int .i64 0, .int .i64 0, .int .i64 0, .int .i64 0, .int .i64 0, .int .i64 0, .int .i64 0, .int .i64 0, .int .i64 0, .int .i64 0, .int .i64 0, .int .i64 0, .int .i64 0, .int .i64 0, .int .i64 0, .int .i64 0, .int .i64 0, .int .i64 0, .int .i64 0], .bool false]) = .returned (.tuple #[.agg (sq ys), .bool R.isSome]) ∧ ys.length = 64 ∧ (∀ z, R = some z → ys = unzigged z)) ∧ w.grownBy W' none) := fun W hT hR W' _ g => by
    subst hR
    refine ⟨⟨zs64, by rw [sq_z64]; rfl, zs64_len, fun z e => by cases e⟩, grown_new hT.grown g (fun q e => by simp at e; omega)⟩
  clear hz hlv hr HR
  by_cases hlen : (ln : Int) = (k1 : Int) - (k0 : Int) + 1
  · have hq : ((ln : Int) != (k1 : Int) - (k0 : Int) + 1) = false := by simp [hlen]
    rw [if_pos hlen] at hr0
    have HR0 := hide hr0
    have hk64 : k0 + ln ≤ 64 := by omega
    clear hr0 hlen h1 h2
    go_enter Try.func55, Try.ntmps55
    go_wp2
    rename_i K hK
    rw [unhide HWB] at TB
    rw [unhide HWB]
    clear HWB c0 c1 c2 c3 c4 hq
    have REST : Hid (∀ (b : Nat) (Wx : World), Tz w Wx zs #[v0, .int .i64 (k0 : Int), .int .i64 (k1 : Int), .int .i64 hi, .int .i64 lo] 3 → w.heap.size + 3 ≤ b → Wx.heap[b]? = some (.cells (sq Z) 73 (0, 0)) →
        K { tmps := #[.agg (sq zs), .agg #[v0, .int .i64 (k0 : Int), .int .i64 (k1 : Int), .int .i64 hi, .int .i64 lo], .slice bo ln lc, .pointer (some ⟨w.heap.size, 0, none⟩), .pointer (some ⟨w.heap.size + 1, 0, none⟩), undef, .pointer (some ⟨w.heap.size + 2, 0, none⟩), .bool false, .func (.func g) #[rv] #[], .pointer (some ⟨b, 0, none⟩), undef, undef, undef, undef, .slice bo ln lc, .int .i64 (ln : Int), .pointer (some ⟨w.heap.size + 1, 2, none⟩), .int .i64 (k1 : Int), .pointer (some ⟨w.heap.size + 1, 1, none⟩), .int .i64 (k0 : Int), .int .i64 ((k1 : Int) - (k0 : Int)), .int .i64 ((k1 : Int) - (k0 : Int) + 1), .bool false, undef, .agg #[v0, .int .i64 (k0 : Int), .int .i64 (k1 : Int), .int .i64 hi, .int .i64 lo], .agg A, .agg #[v0, .int .i64 (k0 : Int), .int .i64 (k1 : Int), .int .i64 hi, .int .i64 lo], .int .i64 k, .func (.func g) #[rv] #[], .agg (sq zs), .agg (sq Z), undef, undef, undef, undef, undef, undef, undef, undef, undef, undef, undef, undef, undef, undef, undef, undef, undef, undef, undef, undef, undef, undef, undef, undef, undef, undef, undef, undef, undef, undef, undef], defers := [] } Wx) := by
      intro b Wx hT hb hZb
      refine hK _ _ ?_
      clear hK TB
      have HF0 : Hid (Tp13 w Wx zs #[v0, .int .i64 (k0 : Int), .int .i64 (k1 : Int), .int .i64 hi, .int .i64 lo] b Z) := ⟨hT, hZb, hb, unhide HZL, unhide HLV⟩
      clear hT hZb
      go_wp2
      go_loopw [33] (fun iv wr => ∃ (j : Nat) (Y : List Int), j ≤ ln ∧ iv = .int .i64 (j : Int) ∧ Hid (putT (stepO f) k0 ls Z j = some Y) ∧ Hid (Tp13 w wr zs #[v0, .int .i64 (k0 : Int), .int .i64 (k1 : Int), .int .i64 hi, .int .i64 lo] b Y)) (fun iv _ => ln - (intOf iv).toNat)
      case atStart => exact ⟨0, Z, Nat.zero_le _, rfl, rfl, HF0⟩
      case round =>
        clear HF0
        obtain ⟨j, Y, hj, rfl, hP, hF⟩ := hrel
        by_cases hlt : j < ln
        · obtain ⟨rb, roff, rfl, hcb⟩ := (unhide HRD).2 j hlt
          have hcell := (unhide hF).tz.grown.cell hcb (by simp)
          have hkj : k0 + j < 64 := by omega
          have hwave := sq_cell (unhide hF).zb (k0 + j) (by rw [(unhide hF).len]; omega)
          have hlevj := (unhide hF).lev (k0 + j) hkj
          have HNX := hide (putT_next (unhide hP))
          have HST : Hid (stepO f (k0 + j) (ls.getD j 0) Y = (f (Y.getD (k0 + j) 0) (ls.getD j 0)).map fun y => Y.set (k0 + j) y) := rfl
          have HCJ := hide (unhide HC (Y.getD (k0 + j) 0) (ls.getD j 0) hlevj)
          have HFJ := hide (unhide HF (Y.getD (k0 + j) 0) (ls.getD j 0))
          generalize ls.getD j 0 = tv at hcell HNX HST HCJ HFJ
          generalize Y.getD (k0 + j) 0 = zv at hwave HST HCJ HFJ hlevj
          obtain ⟨fo, HFO⟩ : ∃ fo, Hid (f zv tv = fo) := ⟨_, rfl⟩
          rw [unhide HFO] at HST HCJ HFJ
          have hi1 : (j : Int) < (ln : Int) := by omega
          have e5 := i64_in ((k0 : Int) + (j : Int)) (by omega)
          have e6 : ((k0 : Int) + (j : Int)) = ((k0 + j : Nat) : Int) := by omega
          have e7 : (0 : Int) ≤ (k0 : Int) + (j : Int) := by omega
          have e8 : (k0 : Int) + (j : Int) < 64 := by omega
          have e9 : ((k0 : Int) + (j : Int)).toNat = k0 + j := by omega
          obtain ⟨c0, c1, c2, c3, c4⟩ := scanCells (unhide hF).tz.sb
          clear HFO hcb e6
          go_wp2_with fail
          refine (unhide HCJ wr).mono ?_
          rintro e w3 ⟨y, ⟨rfl, hy⟩, g3⟩
          have HF3 := hide ((unhide hF).new g3)
          clear hF c0 c1 c2 c3 c4 hcell hwave HCJ g3
          cases fo with
          | none =>
            have hRN : R = none := by
              rw [← unhide HR0]
              exact putT_none (by rw [unhide HNX, unhide HST]; rfl) ln (by omega)
            have HNO := hide (unhide NOO w3 (unhide HF3).tz hRN)
            have HRB := hide ((unhide HF3).tz.rb rfl)
            clear hy HFJ hRN
            go_wp2_with (refine store_row rfl 73 _ _ rfl (w.heap.size + 2) rfl #[.int .i64 0, .int .i64 0, .int .i64 0, .int .i64 0, .int .i64 0, .int .i64 0, .int .i64 0, .int .i64 0, .int .i64 0, .int .i64 0, .int .i64 0, .int .i64 0, .int .i64 0, .int .i64 0, .int .i64 0, .int .i64 0, .int .i64 0, .int .i64 0, .int .i64 0, .int .i64 0, .int .i64 0, .int .i64 0, .int .i64 0, .int .i64 0, .int .i64 0, .int .i64 0, .int .i64 0, .int .i64 0, .int .i64 0, .int .i64 0, .int .i64 0, .int .i64 0, .int .i64 0, .int .i64 0, .int .i64 0, .int .i64 0, .int .i64 0, .int .i64 0, .int .i64 0, .int .i64 0, .int .i64 0, .int .i64 0, .int .i64 0, .int .i64 0, .int .i64 0, .int .i64 0, .int .i64 0, .int .i64 0, .int .i64 0, .int .i64 0, .int .i64 0, .int .i64 0, .int .i64 0, .int .i64 0, .int .i64 0, .int .i64 0, .int .i64 0, .int .i64 0, .int .i64 0, .int .i64 0, .int .i64 0, .int .i64 0, .int .i64 0, .int .i64 0] rfl (sq zs64) 73 (unhide HRB) (by rw [sq_size, zs64_len]; rfl) (by kernel_rfl) z64_one ?_; intro w6 hB6 g6)
            refine bodyPost_ret (v := .tuple #[.agg #[.int .i64 0, .int .i64 0, .int .i64 0, .int .i64 0, .int .i64 0, .int .i64 0, .int .i64 0, .int .i64 0, .int .i64 0, .int .i64 0, .int .i64 0, .int .i64 0, .int .i64 0, .int .i64 0, .int .i64 0, .int .i64 0, .int .i64 0, .int .i64 0, .int .i64 0, .int .i64 0, .int .i64 0, .int .i64 0, .int .i64 0, .int .i64 0, .int .i64 0, .int .i64 0, .int .i64 0, .int .i64 0, .int .i64 0, .int .i64 0, .int .i64 0, .int .i64 0, .int .i64 0, .int .i64 0, .int .i64 0, .int .i64 0, .int .i64 0, .int .i64 0, .int .i64 0, .int .i64 0, .int .i64 0, .int .i64 0, .int .i64 0, .int .i64 0, .int .i64 0, .int .i64 0, .int .i64 0, .int .i64 0, .int .i64 0, .int .i64 0, .int .i64 0, .int .i64 0, .int .i64 0, .int .i64 0, .int .i64 0, .int .i64 0, .int .i64 0, .int .i64 0, .int .i64 0, .int .i64 0, .int .i64 0, .int .i64 0, .int .i64 0, .int .i64 0], .bool false]) ?_ rfl (unhide HNO w6 hB6 g6)
            exact results_c2 (p := 6) (q := 7) (ty := 73) rfl _ _ _ (w.heap.size + 2) rfl _ (run_loadVar_row w6 _ 73 73 _ (0, 0) _ hB6 Try.underlying73 rfl (by kernel_rfl))
          | some y0 =>
            obtain rfl : y0 = y := by have := hy rfl; exact Option.some.inj this
            have HF4 := hide ((unhide HF3).put (k0 + j) y0 (unhide HFJ y0 rfl))
            have HP4 : Hid (putT (stepO f) k0 ls Z (j + 1) = some (Y.set (k0 + j) y0)) := by unfold Hid; rw [unhide HNX, unhide HST]; rfl
            have hw4 := sq_cell (unhide HF3).zb (k0 + j) (by rw [(unhide HF3).len]; omega)
            have hf4 := sq_frozen (unhide HF3).zb (k0 + j)
            obtain ⟨c0, c1, c2, c3, c4⟩ := scanCells (unhide HF3).tz.sb
            clear hy HFJ HST HNX HF3
            go_wp2
            go_roundw
            case rel => exact ⟨j + 1, _, by omega, by go_num, HP4, HF4⟩
            case measure => simp [intOf]; omega
        · obtain rfl : j = ln := by omega
          have hRS : R = some Y := by rw [← unhide HR0]; exact unhide hP
          have HYS : Hid ((sq Y).size = 64) := by unfold Hid; rw [sq_size]; exact (unhide hF).len
          have HYL := hide (unhide hF).len
          have HZB := hide (unhide hF).zb
          have HUL : Hid ((sq (unzigged Y)).size = 64) := by unfold Hid; rw [sq_size]; exact made_len _
          have HUF := hide (fromZig Y (unhide HYL) wr)
          have hTF := hF
          clear hP hF
          go_wp2_with (refine load_row rfl 73 _ rfl b rfl (sq Y) 73 (unhide HZB) _ Try.underlying73 rfl (by rw [unhide HYS]; kernel_rfl) ?_)
          refine (unhide HUF).mono ?_
          rintro e w5 ⟨rfl, g5⟩
          have HT5 := hide ((unhide hTF).tz.new g5)
          have HRB := hide ((unhide HT5).rb rfl)
          clear g5 HUF hTF HZB
          go_wp2_with (refine store_row rfl 73 _ _ rfl (w.heap.size + 2) rfl (sq (unzigged Y)) rfl (sq zs64) 73 (unhide HRB) (by rw [unhide HUL, sq_size, zs64_len]) (by rw [unhide HUL]; kernel_rfl) (sq_one _) ?_; intro w6 hB6 g6)
          refine bodyPost_ret (v := .tuple #[.agg (sq (unzigged Y)), .bool true]) ?_ rfl ⟨⟨unzigged Y, by rw [hRS]; rfl, made_len _, fun z e => by rw [hRS] at e; rw [Option.some.inj e]⟩, grown_new (unhide HT5).grown g6 (fun q e => by simp at e; omega)⟩
          exact results_c2 (p := 6) (q := 7) (ty := 73) rfl _ _ _ (w.heap.size + 2) rfl _ (run_loadVar_row w6 _ 73 73 _ (0, 0) _ hB6 Try.underlying73 rfl (by rw [unhide HUL]; kernel_rfl))
    clear hK
    refine wp_region_noPanic ?_
    have T0 := hide ((unhide TB).new (grown_drew (World.grownBy.refl WB none)))
    clear TB
    refine wp_region_raw (fun W => Tz w W zs #[v0, .int .i64 (k0 : Int), .int .i64 (k1 : Int), .int .i64 hi, .int .i64 lo] 3) [true, false, true, false, false, true, false, false, false, false] (by kernel_rfl) (fun _ _ _ _ _ h => h) rfl (by kernel_rfl) (unhide T0) ?_
    generalize WB.drew = W0 at *
    refine heldF_take (v := .agg #[v0, .int .i64 (k0 : Int), .int .i64 (k1 : Int), .int .i64 hi, .int .i64 lo]) (Or.inl ⟨by rfl, ?_⟩) ?_
    · intro w' hSw
      exact exec_row 26 _ rfl (w.heap.size + 1) rfl #[v0, .int .i64 (k0 : Int), .int .i64 (k1 : Int), .int .i64 hi, .int .i64 lo] 26 hSw.sb _ Try.underlying26 rfl (by kernel_rfl)
    try simp only [Act.put, List.setIfInBounds_toArray, List.set_cons_zero, List.set_cons_succ]
    refine heldF_skip ?_
    refine heldF_take (v := .agg #[v0, .int .i64 (k0 : Int), .int .i64 (k1 : Int), .int .i64 hi, .int .i64 lo]) (Or.inl ⟨by rfl, ?_⟩) ?_
    · intro w' hSw
      exact exec_row 26 _ rfl (w.heap.size + 1) rfl #[v0, .int .i64 (k0 : Int), .int .i64 (k1 : Int), .int .i64 hi, .int .i64 lo] 26 hSw.sb _ Try.underlying26 rfl (by kernel_rfl)
    try simp only [Act.put, List.setIfInBounds_toArray, List.set_cons_zero, List.set_cons_succ]
    refine heldF_skip ?_
    refine heldF_skip ?_
    refine heldF_take (v := .agg (sq zs)) (Or.inl ⟨by rfl, ?_⟩) ?_
    · intro w' hSw
      exact exec_row 73 _ rfl w.heap.size rfl (sq zs) 73 hSw.qb _ Try.underlying73 rfl (by rw [sq_size, unhide HZ0]; kernel_rfl)
    try simp only [Act.put, List.setIfInBounds_toArray, List.set_cons_zero, List.set_cons_succ]
    refine heldF_skip (heldF_skip (heldF_skip (heldF_skip (heldF_nil ?_))))
    refine anyH_step2 (i := 1) (j := 7) rfl rfl (by kernel_rfl) (fun K hK => ?_) (fun K hK => ?_)
    · go_simp
      refine (unhide HT W0).mono ?_
      rintro e W1 ⟨rfl, g1⟩
      have T1 := hide ((unhide T0).new g1)
      have s1 := g1.size
      refine hK.out _ _ (unhide T1) ?_
      clear hK K g1
      try simp only [Act.put, List.setIfInBounds_toArray, List.set_cons_zero, List.set_cons_succ]
      refine anyH_step2 (i := 3) (j := 7) rfl rfl (by kernel_rfl) (fun K hK => ?_) (fun K hK => ?_)
      · go_simp
        refine (unhide HK W1).mono ?_
        rintro e W2 ⟨rfl, g2⟩
        have T2 := hide ((unhide T1).new g2)
        have s2 := g2.size
        refine hK.out _ _ (unhide T2) ?_
        clear hK K g2
        try simp only [Act.put, List.setIfInBounds_toArray, List.set_cons_zero, List.set_cons_succ]
        refine anyH_take1 (i := 4) (v := .func (.func g) #[rv] #[]) rfl (by kernel_rfl) (fun _ _ _ _ _ h => h) (unhide T2) (Or.inl ⟨by rfl, ?_⟩) ?_
        · intro w' hSw
          have hx := fun w => unhide HX w
          go_simp
          try with_reducible rfl
        try simp only [Act.put, List.setIfInBounds_toArray, List.set_cons_zero, List.set_cons_succ]
        refine anyH_step2 (i := 6) (j := 7) rfl rfl (by kernel_rfl) (fun K hK => ?_) (fun K hK => ?_)
        · go_simp
          refine (toZig zs (unhide HZ0) W2).mono ?_
          rintro e W3 ⟨rfl, g3⟩
          have T3 := hide ((unhide T2).new g3)
          have s3 := g3.size
          rw [unhide HZZ]
          refine hK.out _ _ (unhide T3) ?_
          clear hK K g3
          try simp only [Act.put, List.setIfInBounds_toArray, List.set_cons_zero, List.set_cons_succ]
          refine anyH_step1 (i := 7) rfl (by kernel_rfl) (fun K hK => ?_)
          go_simp
          have T4 := hide ((unhide T3).new (World.grownBy_alloc W3 (.cells #[.int .i64 0, .int .i64 0, .int .i64 0, .int .i64 0, .int .i64 0, .int .i64 0, .int .i64 0, .int .i64 0, .int .i64 0, .int .i64 0, .int .i64 0, .int .i64 0, .int .i64 0, .int .i64 0, .int .i64 0, .int .i64 0, .int .i64 0, .int .i64 0, .int .i64 0, .int .i64 0, .int .i64 0, .int .i64 0, .int .i64 0, .int .i64 0, .int .i64 0, .int .i64 0, .int .i64 0, .int .i64 0, .int .i64 0, .int .i64 0, .int .i64 0, .int .i64 0, .int .i64 0, .int .i64 0, .int .i64 0, .int .i64 0, .int .i64 0, .int .i64 0, .int .i64 0, .int .i64 0, .int .i64 0, .int .i64 0, .int .i64 0, .int .i64 0, .int .i64 0, .int .i64 0, .int .i64 0, .int .i64 0, .int .i64 0, .int .i64 0, .int .i64 0, .int .i64 0, .int .i64 0, .int .i64 0, .int .i64 0, .int .i64 0, .int .i64 0, .int .i64 0, .int .i64 0, .int .i64 0, .int .i64 0, .int .i64 0, .int .i64 0, .int .i64 0] 73) none))
          have N4 := hide (heap_alloc_new W3 (.cells #[.int .i64 0, .int .i64 0, .int .i64 0, .int .i64 0, .int .i64 0, .int .i64 0, .int .i64 0, .int .i64 0, .int .i64 0, .int .i64 0, .int .i64 0, .int .i64 0, .int .i64 0, .int .i64 0, .int .i64 0, .int .i64 0, .int .i64 0, .int .i64 0, .int .i64 0, .int .i64 0, .int .i64 0, .int .i64 0, .int .i64 0, .int .i64 0, .int .i64 0, .int .i64 0, .int .i64 0, .int .i64 0, .int .i64 0, .int .i64 0, .int .i64 0, .int .i64 0, .int .i64 0, .int .i64 0, .int .i64 0, .int .i64 0, .int .i64 0, .int .i64 0, .int .i64 0, .int .i64 0, .int .i64 0, .int .i64 0, .int .i64 0, .int .i64 0, .int .i64 0, .int .i64 0, .int .i64 0, .int .i64 0, .int .i64 0, .int .i64 0, .int .i64 0, .int .i64 0, .int .i64 0, .int .i64 0, .int .i64 0, .int .i64 0, .int .i64 0, .int .i64 0, .int .i64 0, .int .i64 0, .int .i64 0, .int .i64 0, .int .i64 0, .int .i64 0] 73))
          have s4 : W3.heap.size + 1 ≤ (W3.alloc (.cells #[.int .i64 0, .int .i64 0, .int .i64 0, .int .i64 0, .int .i64 0, .int .i64 0, .int .i64 0, .int .i64 0, .int .i64 0, .int .i64 0, .int .i64 0, .int .i64 0, .int .i64 0, .int .i64 0, .int .i64 0, .int .i64 0, .int .i64 0, .int .i64 0, .int .i64 0, .int .i64 0, .int .i64 0, .int .i64 0, .int .i64 0, .int .i64 0, .int .i64 0, .int .i64 0, .int .i64 0, .int .i64 0, .int .i64 0, .int .i64 0, .int .i64 0, .int .i64 0, .int .i64 0, .int .i64 0, .int .i64 0, .int .i64 0, .int .i64 0, .int .i64 0, .int .i64 0, .int .i64 0, .int .i64 0, .int .i64 0, .int .i64 0, .int .i64 0, .int .i64 0, .int .i64 0, .int .i64 0, .int .i64 0, .int .i64 0, .int .i64 0, .int .i64 0, .int .i64 0, .int .i64 0, .int .i64 0, .int .i64 0, .int .i64 0, .int .i64 0, .int .i64 0, .int .i64 0, .int .i64 0, .int .i64 0, .int .i64 0, .int .i64 0, .int .i64 0] 73)).heap.size := by simp
          refine hK.out _ _ (unhide T4) ?_
          clear hK K
          generalize (W3.alloc (.cells #[.int .i64 0, .int .i64 0, .int .i64 0, .int .i64 0, .int .i64 0, .int .i64 0, .int .i64 0, .int .i64 0, .int .i64 0, .int .i64 0, .int .i64 0, .int .i64 0, .int .i64 0, .int .i64 0, .int .i64 0, .int .i64 0, .int .i64 0, .int .i64 0, .int .i64 0, .int .i64 0, .int .i64 0, .int .i64 0, .int .i64 0, .int .i64 0, .int .i64 0, .int .i64 0, .int .i64 0, .int .i64 0, .int .i64 0, .int .i64 0, .int .i64 0, .int .i64 0, .int .i64 0, .int .i64 0, .int .i64 0, .int .i64 0, .int .i64 0, .int .i64 0, .int .i64 0, .int .i64 0, .int .i64 0, .int .i64 0, .int .i64 0, .int .i64 0, .int .i64 0, .int .i64 0, .int .i64 0, .int .i64 0, .int .i64 0, .int .i64 0, .int .i64 0, .int .i64 0, .int .i64 0, .int .i64 0, .int .i64 0, .int .i64 0, .int .i64 0, .int .i64 0, .int .i64 0, .int .i64 0, .int .i64 0, .int .i64 0, .int .i64 0, .int .i64 0] 73)) = W4 at *
          try simp only [Act.put, List.setIfInBounds_toArray, List.set_cons_zero, List.set_cons_succ]
          refine anyH_step1 (i := 8) rfl (by kernel_rfl) (fun K hK => ?_)
          go_simp
          refine hK.out _ _ (unhide T4) ?_
          clear hK K
          try simp only [Act.put, List.setIfInBounds_toArray, List.set_cons_zero, List.set_cons_succ]
          refine anyH_step1 (i := 9) rfl (by kernel_rfl) (fun K hK => ?_)
          refine step_store_row (by rfl) 73 _ _ rfl (W3.heap.size) rfl (sq Z) rfl #[.int .i64 0, .int .i64 0, .int .i64 0, .int .i64 0, .int .i64 0, .int .i64 0, .int .i64 0, .int .i64 0, .int .i64 0, .int .i64 0, .int .i64 0, .int .i64 0, .int .i64 0, .int .i64 0, .int .i64 0, .int .i64 0, .int .i64 0, .int .i64 0, .int .i64 0, .int .i64 0, .int .i64 0, .int .i64 0, .int .i64 0, .int .i64 0, .int .i64 0, .int .i64 0, .int .i64 0, .int .i64 0, .int .i64 0, .int .i64 0, .int .i64 0, .int .i64 0, .int .i64 0, .int .i64 0, .int .i64 0, .int .i64 0, .int .i64 0, .int .i64 0, .int .i64 0, .int .i64 0, .int .i64 0, .int .i64 0, .int .i64 0, .int .i64 0, .int .i64 0, .int .i64 0, .int .i64 0, .int .i64 0, .int .i64 0, .int .i64 0, .int .i64 0, .int .i64 0, .int .i64 0, .int .i64 0, .int .i64 0, .int .i64 0, .int .i64 0, .int .i64 0, .int .i64 0, .int .i64 0, .int .i64 0, .int .i64 0, .int .i64 0, .int .i64 0] 73 (unhide N4) (by rw [unhide HZS]; rfl) (by rw [unhide HZS]; kernel_rfl) (sq_one _) ?_
          intro W5 hB5 g5
          have T5 := hide ((unhide T4).wr g5 (by have := (unhide T0).size; omega))
          refine hK.out _ _ (unhide T5) ?_
          clear hK K
          try simp only [Act.put]
          refine wpAnyH_done (by kernel_rfl) (NoPanic.normal ?_) _
          exact unhide REST (W3.heap.size) _ (unhide T5) (by have := (unhide T0).size; omega) hB5
        · go_simp
          have T6 := hide ((unhide T2).new (World.grownBy_alloc W2 (.cells #[.int .i64 0, .int .i64 0, .int .i64 0, .int .i64 0, .int .i64 0, .int .i64 0, .int .i64 0, .int .i64 0, .int .i64 0, .int .i64 0, .int .i64 0, .int .i64 0, .int .i64 0, .int .i64 0, .int .i64 0, .int .i64 0, .int .i64 0, .int .i64 0, .int .i64 0, .int .i64 0, .int .i64 0, .int .i64 0, .int .i64 0, .int .i64 0, .int .i64 0, .int .i64 0, .int .i64 0, .int .i64 0, .int .i64 0, .int .i64 0, .int .i64 0, .int .i64 0, .int .i64 0, .int .i64 0, .int .i64 0, .int .i64 0, .int .i64 0, .int .i64 0, .int .i64 0, .int .i64 0, .int .i64 0, .int .i64 0, .int .i64 0, .int .i64 0, .int .i64 0, .int .i64 0, .int .i64 0, .int .i64 0, .int .i64 0, .int .i64 0, .int .i64 0, .int .i64 0, .int .i64 0, .int .i64 0, .int .i64 0, .int .i64 0, .int .i64 0, .int .i64 0, .int .i64 0, .int .i64 0, .int .i64 0, .int .i64 0, .int .i64 0, .int .i64 0] 73) none))
          have N6 := hide (heap_alloc_new W2 (.cells #[.int .i64 0, .int .i64 0, .int .i64 0, .int .i64 0, .int .i64 0, .int .i64 0, .int .i64 0, .int .i64 0, .int .i64 0, .int .i64 0, .int .i64 0, .int .i64 0, .int .i64 0, .int .i64 0, .int .i64 0, .int .i64 0, .int .i64 0, .int .i64 0, .int .i64 0, .int .i64 0, .int .i64 0, .int .i64 0, .int .i64 0, .int .i64 0, .int .i64 0, .int .i64 0, .int .i64 0, .int .i64 0, .int .i64 0, .int .i64 0, .int .i64 0, .int .i64 0, .int .i64 0, .int .i64 0, .int .i64 0, .int .i64 0, .int .i64 0, .int .i64 0, .int .i64 0, .int .i64 0, .int .i64 0, .int .i64 0, .int .i64 0, .int .i64 0, .int .i64 0, .int .i64 0, .int .i64 0, .int .i64 0, .int .i64 0, .int .i64 0, .int .i64 0, .int .i64 0, .int .i64 0, .int .i64 0, .int .i64 0, .int .i64 0, .int .i64 0, .int .i64 0, .int .i64 0, .int .i64 0, .int .i64 0, .int .i64 0, .int .i64 0, .int .i64 0] 73))
          have s6 : W2.heap.size + 1 ≤ (W2.alloc (.cells #[.int .i64 0, .int .i64 0, .int .i64 0, .int .i64 0, .int .i64 0, .int .i64 0, .int .i64 0, .int .i64 0, .int .i64 0, .int .i64 0, .int .i64 0, .int .i64 0, .int .i64 0, .int .i64 0, .int .i64 0, .int .i64 0, .int .i64 0, .int .i64 0, .int .i64 0, .int .i64 0, .int .i64 0, .int .i64 0, .int .i64 0, .int .i64 0, .int .i64 0, .int .i64 0, .int .i64 0, .int .i64 0, .int .i64 0, .int .i64 0, .int .i64 0, .int .i64 0, .int .i64 0, .int .i64 0, .int .i64 0, .int .i64 0, .int .i64 0, .int .i64 0, .int .i64 0, .int .i64 0, .int .i64 0, .int .i64 0, .int .i64 0, .int .i64 0, .int .i64 0, .int .i64 0, .int .i64 0, .int .i64 0, .int .i64 0, .int .i64 0, .int .i64 0, .int .i64 0, .int .i64 0, .int .i64 0, .int .i64 0, .int .i64 0, .int .i64 0, .int .i64 0, .int .i64 0, .int .i64 0, .int .i64 0, .int .i64 0, .int .i64 0, .int .i64 0] 73)).heap.size := by simp
          refine hK.out _ _ (unhide T6) ?_
          clear hK K
          generalize (W2.alloc (.cells #[.int .i64 0, .int .i64 0, .int .i64 0, .int .i64 0, .int .i64 0, .int .i64 0, .int .i64 0, .int .i64 0, .int .i64 0, .int .i64 0, .int .i64 0, .int .i64 0, .int .i64 0, .int .i64 0, .int .i64 0, .int .i64 0, .int .i64 0, .int .i64 0, .int .i64 0, .int .i64 0, .int .i64 0, .int .i64 0, .int .i64 0, .int .i64 0, .int .i64 0, .int .i64 0, .int .i64 0, .int .i64 0, .int .i64 0, .int .i64 0, .int .i64 0, .int .i64 0, .int .i64 0, .int .i64 0, .int .i64 0, .int .i64 0, .int .i64 0, .int .i64 0, .int .i64 0, .int .i64 0, .int .i64 0, .int .i64 0, .int .i64 0, .int .i64 0, .int .i64 0, .int .i64 0, .int .i64 0, .int .i64 0, .int .i64 0, .int .i64 0, .int .i64 0, .int .i64 0, .int .i64 0, .int .i64 0, .int .i64 0, .int .i64 0, .int .i64 0, .int .i64 0, .int .i64 0, .int .i64 0, .int .i64 0, .int .i64 0, .int .i64 0, .int .i64 0] 73)) = W6 at *
          try simp only [Act.put, List.setIfInBounds_toArray, List.set_cons_zero, List.set_cons_succ]
          refine anyH_step1 (i := 6) rfl (by kernel_rfl) (fun K hK => ?_)
          go_simp
          refine (toZig zs (unhide HZ0) W6).mono ?_
          rintro e W7 ⟨rfl, g7⟩
          have T7 := hide ((unhide T6).new g7)
          have s7 := g7.size
          rw [unhide HZZ]
          have N7 := hide (grown_atT g7 (unhide N6) (by simp))
          refine hK.out _ _ (unhide T7) ?_
          clear hK K g7
          try simp only [Act.put, List.setIfInBounds_toArray, List.set_cons_zero, List.set_cons_succ]
          refine anyH_step1 (i := 8) rfl (by kernel_rfl) (fun K hK => ?_)
          go_simp
          refine hK.out _ _ (unhide T7) ?_
          clear hK K
          try simp only [Act.put, List.setIfInBounds_toArray, List.set_cons_zero, List.set_cons_succ]
          refine anyH_step1 (i := 9) rfl (by kernel_rfl) (fun K hK => ?_)
          refine step_store_row (by rfl) 73 _ _ rfl (W2.heap.size) rfl (sq Z) rfl #[.int .i64 0, .int .i64 0, .int .i64 0, .int .i64 0, .int .i64 0, .int .i64 0, .int .i64 0, .int .i64 0, .int .i64 0, .int .i64 0, .int .i64 0, .int .i64 0, .int .i64 0, .int .i64 0, .int .i64 0, .int .i64 0, .int .i64 0, .int .i64 0, .int .i64 0, .int .i64 0, .int .i64 0, .int .i64 0, .int .i64 0, .int .i64 0, .int .i64 0, .int .i64 0, .int .i64 0, .int .i64 0, .int .i64 0, .int .i64 0, .int .i64 0, .int .i64 0, .int .i64 0, .int .i64 0, .int .i64 0, .int .i64 0, .int .i64 0, .int .i64 0, .int .i64 0, .int .i64 0, .int .i64 0, .int .i64 0, .int .i64 0, .int .i64 0, .int .i64 0, .int .i64 0, .int .i64 0, .int .i64 0, .int .i64 0, .int .i64 0, .int .i64 0, .int .i64 0, .int .i64 0, .int .i64 0, .int .i64 0, .int .i64 0, .int .i64 0, .int .i64 0, .int .i64 0, .int .i64 0, .int .i64 0, .int .i64 0, .int .i64 0, .int .i64 0] 73 (unhide N7) (by rw [unhide HZS]; rfl) (by rw [unhide HZS]; kernel_rfl) (sq_one _) ?_
          intro W8 hB8 g8
          have T8 := hide ((unhide T7).wr g8 (by have := (unhide T0).size; omega))
          refine hK.out _ _ (unhide T8) ?_
          clear hK K
          try simp only [Act.put]
          refine wpAnyH_done (by kernel_rfl) (NoPanic.normal ?_) _
          exact unhide REST (W2.heap.size) _ (unhide T8) (by have := (unhide T0).size; omega) hB8
      · go_simp
        have T9 := hide ((unhide T1).new (World.grownBy_alloc W1 (.cells #[.int .i64 0, .int .i64 0, .int .i64 0, .int .i64 0, .int .i64 0, .int .i64 0, .int .i64 0, .int .i64 0, .int .i64 0, .int .i64 0, .int .i64 0, .int .i64 0, .int .i64 0, .int .i64 0, .int .i64 0, .int .i64 0, .int .i64 0, .int .i64 0, .int .i64 0, .int .i64 0, .int .i64 0, .int .i64 0, .int .i64 0, .int .i64 0, .int .i64 0, .int .i64 0, .int .i64 0, .int .i64 0, .int .i64 0, .int .i64 0, .int .i64 0, .int .i64 0, .int .i64 0, .int .i64 0, .int .i64 0, .int .i64 0, .int .i64 0, .int .i64 0, .int .i64 0, .int .i64 0, .int .i64 0, .int .i64 0, .int .i64 0, .int .i64 0, .int .i64 0, .int .i64 0, .int .i64 0, .int .i64 0, .int .i64 0, .int .i64 0, .int .i64 0, .int .i64 0, .int .i64 0, .int .i64 0, .int .i64 0, .int .i64 0, .int .i64 0, .int .i64 0, .int .i64 0, .int .i64 0, .int .i64 0, .int .i64 0, .int .i64 0, .int .i64 0] 73) none))
        have N9 := hide (heap_alloc_new W1 (.cells #[.int .i64 0, .int .i64 0, .int .i64 0, .int .i64 0, .int .i64 0, .int .i64 0, .int .i64 0, .int .i64 0, .int .i64 0, .int .i64 0, .int .i64 0, .int .i64 0, .int .i64 0, .int .i64 0, .int .i64 0, .int .i64 0, .int .i64 0, .int .i64 0, .int .i64 0, .int .i64 0, .int .i64 0, .int .i64 0, .int .i64 0, .int .i64 0, .int .i64 0, .int .i64 0, .int .i64 0, .int .i64 0, .int .i64 0, .int .i64 0, .int .i64 0, .int .i64 0, .int .i64 0, .int .i64 0, .int .i64 0, .int .i64 0, .int .i64 0, .int .i64 0, .int .i64 0, .int .i64 0, .int .i64 0, .int .i64 0, .int .i64 0, .int .i64 0, .int .i64 0, .int .i64 0, .int .i64 0, .int .i64 0, .int .i64 0, .int .i64 0, .int .i64 0, .int .i64 0, .int .i64 0, .int .i64 0, .int .i64 0, .int .i64 0, .int .i64 0, .int .i64 0, .int .i64 0, .int .i64 0, .int .i64 0, .int .i64 0, .int .i64 0, .int .i64 0] 73))
        have s9 : W1.heap.size + 1 ≤ (W1.alloc (.cells #[.int .i64 0, .int .i64 0, .int .i64 0, .int .i64 0, .int .i64 0, .int .i64 0, .int .i64 0, .int .i64 0, .int .i64 0, .int .i64 0, .int .i64 0, .int .i64 0, .int .i64 0, .int .i64 0, .int .i64 0, .int .i64 0, .int .i64 0, .int .i64 0, .int .i64 0, .int .i64 0, .int .i64 0, .int .i64 0, .int .i64 0, .int .i64 0, .int .i64 0, .int .i64 0, .int .i64 0, .int .i64 0, .int .i64 0, .int .i64 0, .int .i64 0, .int .i64 0, .int .i64 0, .int .i64 0, .int .i64 0, .int .i64 0, .int .i64 0, .int .i64 0, .int .i64 0, .int .i64 0, .int .i64 0, .int .i64 0, .int .i64 0, .int .i64 0, .int .i64 0, .int .i64 0, .int .i64 0, .int .i64 0, .int .i64 0, .int .i64 0, .int .i64 0, .int .i64 0, .int .i64 0, .int .i64 0, .int .i64 0, .int .i64 0, .int .i64 0, .int .i64 0, .int .i64 0, .int .i64 0, .int .i64 0, .int .i64 0, .int .i64 0, .int .i64 0] 73)).heap.size := by simp
        refine hK.out _ _ (unhide T9) ?_
        clear hK K
        generalize (W1.alloc (.cells #[.int .i64 0, .int .i64 0, .int .i64 0, .int .i64 0, .int .i64 0, .int .i64 0, .int .i64 0, .int .i64 0, .int .i64 0, .int .i64 0, .int .i64 0, .int .i64 0, .int .i64 0, .int .i64 0, .int .i64 0, .int .i64 0, .int .i64 0, .int .i64 0, .int .i64 0, .int .i64 0, .int .i64 0, .int .i64 0, .int .i64 0, .int .i64 0, .int .i64 0, .int .i64 0, .int .i64 0, .int .i64 0, .int .i64 0, .int .i64 0, .int .i64 0, .int .i64 0, .int .i64 0, .int .i64 0, .int .i64 0, .int .i64 0, .int .i64 0, .int .i64 0, .int .i64 0, .int .i64 0, .int .i64 0, .int .i64 0, .int .i64 0, .int .i64 0, .int .i64 0, .int .i64 0, .int .i64 0, .int .i64 0, .int .i64 0, .int .i64 0, .int .i64 0, .int .i64 0, .int .i64 0, .int .i64 0, .int .i64 0, .int .i64 0, .int .i64 0, .int .i64 0, .int .i64 0, .int .i64 0, .int .i64 0, .int .i64 0, .int .i64 0, .int .i64 0] 73)) = W9 at *
        try simp only [Act.put, List.setIfInBounds_toArray, List.set_cons_zero, List.set_cons_succ]
        refine anyH_step1 (i := 3) rfl (by kernel_rfl) (fun K hK => ?_)
        go_simp
        refine (unhide HK W9).mono ?_
        rintro e W10 ⟨rfl, g10⟩
        have T10 := hide ((unhide T9).new g10)
        have s10 := g10.size
        have N10 := hide (grown_atT g10 (unhide N9) (by simp))
        refine hK.out _ _ (unhide T10) ?_
        clear hK K g10
        try simp only [Act.put, List.setIfInBounds_toArray, List.set_cons_zero, List.set_cons_succ]
        refine anyH_take1 (i := 4) (v := .func (.func g) #[rv] #[]) rfl (by kernel_rfl) (fun _ _ _ _ _ h => h) (unhide T10) (Or.inl ⟨by rfl, ?_⟩) ?_
        · intro w' hSw
          have hx := fun w => unhide HX w
          go_simp
          try with_reducible rfl
        try simp only [Act.put, List.setIfInBounds_toArray, List.set_cons_zero, List.set_cons_succ]
        refine anyH_step1 (i := 6) rfl (by kernel_rfl) (fun K hK => ?_)
        go_simp
        refine (toZig zs (unhide HZ0) W10).mono ?_
        rintro e W11 ⟨rfl, g11⟩
        have T11 := hide ((unhide T10).new g11)
        have s11 := g11.size
        rw [unhide HZZ]
        have N11 := hide (grown_atT g11 (unhide N10) (by simp))
        refine hK.out _ _ (unhide T11) ?_
        clear hK K g11
        try simp only [Act.put, List.setIfInBounds_toArray, List.set_cons_zero, List.set_cons_succ]
        refine anyH_step1 (i := 8) rfl (by kernel_rfl) (fun K hK => ?_)
        go_simp
        refine hK.out _ _ (unhide T11) ?_
        clear hK K
        try simp only [Act.put, List.setIfInBounds_toArray, List.set_cons_zero, List.set_cons_succ]
        refine anyH_step1 (i := 9) rfl (by kernel_rfl) (fun K hK => ?_)
        refine step_store_row (by rfl) 73 _ _ rfl (W1.heap.size) rfl (sq Z) rfl #[.int .i64 0, .int .i64 0, .int .i64 0, .int .i64 0, .int .i64 0, .int .i64 0, .int .i64 0, .int .i64 0, .int .i64 0, .int .i64 0, .int .i64 0, .int .i64 0, .int .i64 0, .int .i64 0, .int .i64 0, .int .i64 0, .int .i64 0, .int .i64 0, .int .i64 0, .int .i64 0, .int .i64 0, .int .i64 0, .int .i64 0, .int .i64 0, .int .i64 0, .int .i64 0, .int .i64 0, .int .i64 0, .int .i64 0, .int .i64 0, .int .i64 0, .int .i64 0, .int .i64 0, .int .i64 0, .int .i64 0, .int .i64 0, .int .i64 0, .int .i64 0, .int .i64 0, .int .i64 0, .int .i64 0, .int .i64 0, .int .i64 0, .int .i64 0, .int .i64 0, .int .i64 0, .int .i64 0, .int .i64 0, .int .i64 0, .int .i64 0, .int .i64 0, .int .i64 0, .int .i64 0, .int .i64 0, .int .i64 0, .int .i64 0, .int .i64 0, .int .i64 0, .int .i64 0, .int .i64 0, .int .i64 0, .int .i64 0, .int .i64 0, .int .i64 0] 73 (unhide N11) (by rw [unhide HZS]; rfl) (by rw [unhide HZS]; kernel_rfl) (sq_one _) ?_
        intro W12 hB12 g12
        have T12 := hide ((unhide T11).wr g12 (by have := (unhide T0).size; omega))
        refine hK.out _ _ (unhide T12) ?_
        clear hK K
        try simp only [Act.put]
        refine wpAnyH_done (by kernel_rfl) (NoPanic.normal ?_) _
        exact unhide REST (W1.heap.size) _ (unhide T12) (by have := (unhide T0).size; omega) hB12
    · go_simp
      have T13 := hide ((unhide T0).new (World.grownBy_alloc W0 (.cells #[.int .i64 0, .int .i64 0, .int .i64 0, .int .i64 0, .int .i64 0, .int .i64 0, .int .i64 0, .int .i64 0, .int .i64 0, .int .i64 0, .int .i64 0, .int .i64 0, .int .i64 0, .int .i64 0, .int .i64 0, .int .i64 0, .int .i64 0, .int .i64 0, .int .i64 0, .int .i64 0, .int .i64 0, .int .i64 0, .int .i64 0, .int .i64 0, .int .i64 0, .int .i64 0, .int .i64 0, .int .i64 0, .int .i64 0, .int .i64 0, .int .i64 0, .int .i64 0, .int .i64 0, .int .i64 0, .int .i64 0, .int .i64 0, .int .i64 0, .int .i64 0, .int .i64 0, .int .i64 0, .int .i64 0, .int .i64 0, .int .i64 0, .int .i64 0, .int .i64 0, .int .i64 0, .int .i64 0, .int .i64 0, .int .i64 0, .int .i64 0, .int .i64 0, .int .i64 0, .int .i64 0, .int .i64 0, .int .i64 0, .int .i64 0, .int .i64 0, .int .i64 0, .int .i64 0, .int .i64 0, .int .i64 0, .int .i64 0, .int .i64 0, .int .i64 0] 73) none))
      have N13 := hide (heap_alloc_new W0 (.cells #[.int .i64 0, .int .i64 0, .int .i64 0, .int .i64 0, .int .i64 0, .int .i64 0, .int .i64 0, .int .i64 0, .int .i64 0, .int .i64 0, .int .i64 0, .int .i64 0, .int .i64 0, .int .i64 0, .int .i64 0, .int .i64 0, .int .i64 0, .int .i64 0, .int .i64 0, .int .i64 0, .int .i64 0, .int .i64 0, .int .i64 0, .int .i64 0, .int .i64 0, .int .i64 0, .int .i64 0, .int .i64 0, .int .i64 0, .int .i64 0, .int .i64 0, .int .i64 0, .int .i64 0, .int .i64 0, .int .i64 0, .int .i64 0, .int .i64 0, .int .i64 0, .int .i64 0, .int .i64 0, .int .i64 0, .int .i64 0, .int .i64 0, .int .i64 0, .int .i64 0, .int .i64 0, .int .i64 0, .int .i64 0, .int .i64 0, .int .i64 0, .int .i64 0, .int .i64 0, .int .i64 0, .int .i64 0, .int .i64 0, .int .i64 0, .int .i64 0, .int .i64 0, .int .i64 0, .int .i64 0, .int .i64 0, .int .i64 0, .int .i64 0, .int .i64 0] 73))
      have s13 : W0.heap.size + 1 ≤ (W0.alloc (.cells #[.int .i64 0, .int .i64 0, .int .i64 0, .int .i64 0, .int .i64 0, .int .i64 0, .int .i64 0, .int .i64 0, .int .i64 0, .int .i64 0, .int .i64 0, .int .i64 0, .int .i64 0, .int .i64 0, .int .i64 0, .int .i64 0, .int .i64 0, .int .i64 0, .int .i64 0, .int .i64 0, .int .i64 0, .int .i64 0, .int .i64 0, .int .i64 0, .int .i64 0, .int .i64 0, .int .i64 0, .int .i64 0, .int .i64 0, .int .i64 0, .int .i64 0, .int .i64 0, .int .i64 0, .int .i64 0, .int .i64 0, .int .i64 0, .int .i64 0, .int .i64 0, .int .i64 0, .int .i64 0, .int .i64 0, .int .i64 0, .int .i64 0, .int .i64 0, .int .i64 0, .int .i64 0, .int .i64 0, .int .i64 0, .int .i64 0, .int .i64 0, .int .i64 0, .int .i64 0, .int .i64 0, .int .i64 0, .int .i64 0, .int .i64 0, .int .i64 0, .int .i64 0, .int .i64 0, .int .i64 0, .int .i64 0, .int .i64 0, .int .i64 0, .int .i64 0] 73)).heap.size := by simp
      refine hK.out _ _ (unhide T13) ?_
      clear hK K
      generalize (W0.alloc (.cells #[.int .i64 0, .int .i64 0, .int .i64 0, .int .i64 0, .int .i64 0, .int .i64 0, .int .i64 0, .int .i64 0, .int .i64 0, .int .i64 0, .int .i64 0, .int .i64 0, .int .i64 0, .int .i64 0, .int .i64 0, .int .i64 0, .int .i64 0, .int .i64 0, .int .i64 0, .int .i64 0, .int .i64 0, .int .i64 0, .int .i64 0, .int .i64 0, .int .i64 0, .int .i64 0, .int .i64 0, .int .i64 0, .int .i64 0, .int .i64 0, .int .i64 0, .int .i64 0, .int .i64 0, .int .i64 0, .int .i64 0, .int .i64 0, .int .i64 0, .int .i64 0, .int .i64 0, .int .i64 0, .int .i64 0, .int .i64 0, .int .i64 0, .int .i64 0, .int .i64 0, .int .i64 0, .int .i64 0, .int .i64 0, .int .i64 0, .int .i64 0, .int .i64 0, .int .i64 0, .int .i64 0, .int .i64 0, .int .i64 0, .int .i64 0, .int .i64 0, .int .i64 0, .int .i64 0, .int .i64 0, .int .i64 0, .int .i64 0, .int .i64 0, .int .i64 0] 73)) = W13 at *
      try simp only [Act.put, List.setIfInBounds_toArray, List.set_cons_zero, List.set_cons_succ]
      refine anyH_step1 (i := 1) rfl (by kernel_rfl) (fun K hK => ?_)
      go_simp
      refine (unhide HT W13).mono ?_
      rintro e W14 ⟨rfl, g14⟩
      have T14 := hide ((unhide T13).new g14)
      have s14 := g14.size
      have N14 := hide (grown_atT g14 (unhide N13) (by simp))
      refine hK.out _ _ (unhide T14) ?_
      clear hK K g14
      try simp only [Act.put, List.setIfInBounds_toArray, List.set_cons_zero, List.set_cons_succ]
      refine anyH_step1 (i := 3) rfl (by kernel_rfl) (fun K hK => ?_)
      go_simp
      refine (unhide HK W14).mono ?_
      rintro e W15 ⟨rfl, g15⟩
      have T15 := hide ((unhide T14).new g15)
      have s15 := g15.size
      have N15 := hide (grown_atT g15 (unhide N14) (by simp))
      refine hK.out _ _ (unhide T15) ?_
      clear hK K g15
      try simp only [Act.put, List.setIfInBounds_toArray, List.set_cons_zero, List.set_cons_succ]
      refine anyH_take1 (i := 4) (v := .func (.func g) #[rv] #[]) rfl (by kernel_rfl) (fun _ _ _ _ _ h => h) (unhide T15) (Or.inl ⟨by rfl, ?_⟩) ?_
      · intro w' hSw
        have hx := fun w => unhide HX w
        go_simp
        try with_reducible rfl
      try simp only [Act.put, List.setIfInBounds_toArray, List.set_cons_zero, List.set_cons_succ]
      refine anyH_step1 (i := 6) rfl (by kernel_rfl) (fun K hK => ?_)
      go_simp
      refine (toZig zs (unhide HZ0) W15).mono ?_
      rintro e W16 ⟨rfl, g16⟩
      have T16 := hide ((unhide T15).new g16)
      have s16 := g16.size
      rw [unhide HZZ]
      have N16 := hide (grown_atT g16 (unhide N15) (by simp))
      refine hK.out _ _ (unhide T16) ?_
      clear hK K g16
      try simp only [Act.put, List.setIfInBounds_toArray, List.set_cons_zero, List.set_cons_succ]
      refine anyH_step1 (i := 8) rfl (by kernel_rfl) (fun K hK => ?_)
      go_simp
      refine hK.out _ _ (unhide T16) ?_
      clear hK K
      try simp only [Act.put, List.setIfInBounds_toArray, List.set_cons_zero, List.set_cons_succ]
      refine anyH_step1 (i := 9) rfl (by kernel_rfl) (fun K hK => ?_)
      refine step_store_row (by rfl) 73 _ _ rfl (W0.heap.size) rfl (sq Z) rfl #[.int .i64 0, .int .i64 0, .int .i64 0, .int .i64 0, .int .i64 0, .int .i64 0, .int .i64 0, .int .i64 0, .int .i64 0, .int .i64 0, .int .i64 0, .int .i64 0, .int .i64 0, .int .i64 0, .int .i64 0, .int .i64 0, .int .i64 0, .int .i64 0, .int .i64 0, .int .i64 0, .int .i64 0, .int .i64 0, .int .i64 0, .int .i64 0, .int .i64 0, .int .i64 0, .int .i64 0, .int .i64 0, .int .i64 0, .int .i64 0, .int .i64 0, .int .i64 0, .int .i64 0, .int .i64 0, .int .i64 0, .int .i64 0, .int .i64 0, .int .i64 0, .int .i64 0, .int .i64 0, .int .i64 0, .int .i64 0, .int .i64 0, .int .i64 0, .int .i64 0, .int .i64 0, .int .i64 0, .int .i64 0, .int .i64 0, .int .i64 0, .int .i64 0, .int .i64 0, .int .i64 0, .int .i64 0, .int .i64 0, .int .i64 0, .int .i64 0, .int .i64 0, .int .i64 0, .int .i64 0, .int .i64 0, .int .i64 0, .int .i64 0, .int .i64 0] 73 (unhide N16) (by rw [unhide HZS]; rfl) (by rw [unhide HZS]; kernel_rfl) (sq_one _) ?_
      intro W17 hB17 g17
      have T17 := hide ((unhide T16).wr g17 (by have := (unhide T0).size; omega))
      refine hK.out _ _ (unhide T17) ?_
      clear hK K
      try simp only [Act.put]
      refine wpAnyH_done (by kernel_rfl) (NoPanic.normal ?_) _
      exact unhide REST (W0.heap.size) _ (unhide T17) (by have := (unhide T0).size; omega) hB17
  · have hq : ((ln : Int) != (k1 : Int) - (k0 : Int) + 1) = true := by simp [hlen]
    rw [if_neg hlen] at hr0
    have HRN := hide hr0.symm
    clear hr0 hlen
    go_enter Try.func55, Try.ntmps55
    rw [unhide HWB] at TB c0 c1 c2 c3 c4
    have HRB := hide ((unhide TB).rb rfl)
    have HNO := hide (unhide NOO WB (unhide TB) (unhide HRN))
    rw [← unhide HWB] at c0 c1 c2 c3 c4
    go_wp2_with (rw [unhide HWB]; clear HWB c0 c1 c2 c3 c4; refine store_row rfl 73 _ _ rfl (w.heap.size + 2) rfl #[.int .i64 0, .int .i64 0, .int .i64 0, .int .i64 0, .int .i64 0, .int .i64 0, .int .i64 0, .int .i64 0, .int .i64 0, .int .i64 0, .int .i64 0, .int .i64 0, .int .i64 0, .int .i64 0, .int .i64 0, .int .i64 0, .int .i64 0, .int .i64 0, .int .i64 0, .int .i64 0, .int .i64 0, .int .i64 0, .int .i64 0, .int .i64 0, .int .i64 0, .int .i64 0, .int .i64 0, .int .i64 0, .int .i64 0, .int .i64 0, .int .i64 0, .int .i64 0, .int .i64 0, .int .i64 0, .int .i64 0, .int .i64 0, .int .i64 0, .int .i64 0, .int .i64 0, .int .i64 0, .int .i64 0, .int .i64 0, .int .i64 0, .int .i64 0, .int .i64 0, .int .i64 0, .int .i64 0, .int .i64 0, .int .i64 0, .int .i64 0, .int .i64 0, .int .i64 0, .int .i64 0, .int .i64 0, .int .i64 0, .int .i64 0, .int .i64 0, .int .i64 0, .int .i64 0, .int .i64 0, .int .i64 0, .int .i64 0, .int .i64 0, .int .i64 0] rfl (sq zs64) 73 (unhide HRB) (by rw [sq_size, zs64_len]; rfl) (by kernel_rfl) z64_one ?_; intro w6 hB6 g6)
    refine bodyPost_ret (v := .tuple #[.agg #[.int .i64 0, .int .i64 0, .int .i64 0, .int .i64 0, .int .i64 0, .int .i64 0, .int .i64 0, .int .i64 0, .int .i64 0, .int .i64 0, .int .i64 0, .int .i64 0, .int .i64 0, .int .i64 0, .int .i64 0, .int .i64 0, .int .i64 0, .int .i64 0, .int .i64 0, .int .i64 0, .int .i64 0, .int .i64 0, .int .i64 0, .int .i64 0, .int .i64 0, .int .i64 0, .int .i64 0, .int .i64 0, .int .i64 0, .int .i64 0, .int .i64 0, .int .i64 0, .int .i64 0, .int .i64 0, .int .i64 0, .int .i64 0, .int .i64 0, .int .i64 0, .int .i64 0, .int .i64 0, .int .i64 0, .int .i64 0, .int .i64 0, .int .i64 0, .int .i64 0, .int .i64 0, .int .i64 0, .int .i64 0, .int .i64 0, .int .i64 0, .int .i64 0, .int .i64 0, .int .i64 0, .int .i64 0, .int .i64 0, .int .i64 0, .int .i64 0, .int .i64 0, .int .i64 0, .int .i64 0, .int .i64 0, .int .i64 0, .int .i64 0, .int .i64 0], .bool false]) ?_ rfl (unhide HNO w6 hB6 g6)
    exact results_c2 (p := 6) (q := 7) (ty := 73) rfl _ _ _ (w.heap.size + 2) rfl _ (run_loadVar_row w6 _ 73 73 _ (0, 0) _ hB6 Try.underlying73 rfl (by kernel_rfl))

end Go.Proofs.Ytfgglainjaplgaa

namespace Go.Proofs.Ytfgglainjaplgaa
open Go.RowKit

end Go.Proofs.Ytfgglainjaplgaa

namespace Go.Proofs.Ytfgglainjaplgaa
open Go.RowKit

/-- The number ahead of place k, -1 ahead of the first. -/
def lastC (cs : List Int) (k : Nat) : Int := if k = 0 then -1 else cs.getD (k - 1) 0
theorem lastC_succ (cs : List Int) (k : Nat) : lastC cs (k + 1) = cs.getD k 0 := by simp [lastC]

end Go.Proofs.Ytfgglainjaplgaa

namespace Go.Proofs.Ytfgglainjaplgaa
open Go.RowKit

/-- High and Low are those of a pass. -/
def bitsB (a : Scn) : Bool := decide (0 ≤ a.lo ∧ a.lo ≤ 13) && (decide (a.hi = 0) || decide (a.hi = a.lo + 1))
def pV (a : Scn) : Value := if a.hi = 0 then .iface 99 (.agg #[.int .i64 a.lo]) else .iface 101 (.agg #[.int .i64 a.hi, .int .i64 a.lo])
def pVN (a : Scn) : Value := if bitsB a = true then pV a else .nilIface

set_option maxRecDepth 20000 in
set_option maxHeartbeats 1600000 in
theorem passOf (w : World) (v0 : Value) (a : Scn) (pv : Value) (HP : Hid (pVN a = pv)) :
    Calls Try.prog 71 #[scV v0 a] w fun e w' => e = .returned pv ∧ w.grownBy w' none := by
  obtain ⟨cs, fr, to, hi, lo⟩ := a
  have hp := unhide HP
  unfold pVN bitsB pV at hp
  unfold scV
  dsimp only at hp ⊢
  have HG0 : Hid (w.grownBy (w.alloc (.cells #[v0, .int .i64 fr, .int .i64 to, .int .i64 hi, .int .i64 lo] 26)) none) := World.grownBy_alloc _ _ _
  obtain ⟨c0, c1, c2, c3, c4⟩ := scanCells (heap_alloc_new w (.cells #[v0, .int .i64 fr, .int .i64 to, .int .i64 hi, .int .i64 lo] 26))
  obtain ⟨b3, HB3⟩ : ∃ b, Hid (decide (0 ≤ lo ∧ lo ≤ 13) = b) := ⟨_, rfl⟩
  rw [unhide HB3] at hp
  clear HP
  go_enter Try.func71, Try.ntmps71
  go_wp2_with fail
  refine (inRange lo 0 13 b3 HB3 _).mono ?_
  rintro e w1 ⟨rfl, rfl⟩
  cases b3 with
  | false =>
    have e : pv = .nilIface := by rw [← hp]; simp
    subst e
    clear hp
    go_wp2
    go_ret
    exact ⟨rfl, unhide HG0⟩
  | true =>
    have hlo := of_decide_eq_true (unhide HB3)
    have e1 := i64_in (lo + 1) (by omega)
    by_cases h0 : hi = 0
    · have n0 : (hi == 0) = true := by simp [h0]
      have e : pv = .iface 99 (.agg #[.int .i64 lo]) := by rw [← hp]; simp [h0]
      subst e
      clear h0 hp
      go_wp2
      go_ret
      exact ⟨rfl, unhide HG0⟩
    · have n0 : (hi == 0) = false := by simp [h0]
      by_cases h1 : hi = lo + 1
      · have n1 : (hi == lo + 1) = true := by simp [h1]
        have e : pv = .iface 101 (.agg #[.int .i64 hi, .int .i64 lo]) := by rw [← hp, if_neg h0]; simp [h1]
        subst e
        clear h0 h1 hp
        go_wp2
        go_ret
        exact ⟨rfl, unhide HG0⟩
      · have n1 : (hi == lo + 1) = false := by simp [h1]
        have e : pv = .nilIface := by rw [← hp]; simp [h0, h1]
        subst e
        clear h0 h1 hp
        go_wp2
        go_ret
        exact ⟨rfl, unhide HG0⟩

theorem asFirst (lo : Int) (w : World) : (Instr.typeAssert (.iface 99 (.agg #[.int .i64 lo])) 96 99 true).run Try.prog w = .ok (.tuple #[.agg #[.int .i64 lo], .bool true]) w := by kernel_rfl

theorem asFirst_no (hi lo : Int) (w : World) : (Instr.typeAssert (.iface 101 (.agg #[.int .i64 hi, .int .i64 lo])) 96 99 true).run Try.prog w = .ok (.tuple #[.agg #[.int .i64 0], .bool false]) w := by kernel_rfl

theorem asRefining (hi lo : Int) (w : World) : (Instr.typeAssert (.iface 101 (.agg #[.int .i64 hi, .int .i64 lo])) 96 101 true).run Try.prog w = .ok (.tuple #[.agg #[.int .i64 hi, .int .i64 lo], .bool true]) w := by kernel_rfl

theorem notNilP (t : TypeId) (v : Value) (w : World) : (binOp .neq 96 (.iface t v) .nilIface).run Try.prog w = .ok (.bool true) w := by kernel_rfl

theorem nilP (w : World) : (binOp .neq 96 .nilIface .nilIface).run Try.prog w = .ok (.bool false) w := by kernel_rfl

end Go.Proofs.Ytfgglainjaplgaa

namespace Go.Proofs.Ytfgglainjaplgaa
open Go.RowKit

theorem bits_pass (a : Scn) (h1 : 0 ≤ a.fr) (h2 : a.fr ≤ a.to) (h3 : a.to ≤ 63) : passB a = bitsB a := by
  unfold passB bitsB
  rw [decide_eq_true (⟨h1, h2⟩ : 0 ≤ a.fr ∧ a.fr ≤ a.to), decide_eq_true h3, Bool.true_and, Bool.true_and]
theorem pass_neq (a : Scn) (w : World) : (binOp .neq 96 (pVN a) .nilIface).run Try.prog w = .ok (.bool (bitsB a)) w := by
  unfold pVN
  cases h : bitsB a with
  | false => exact nilP w
  | true =>
    rw [if_pos rfl]
    unfold pV
    split
    · exact notNilP _ _ w
    · exact notNilP _ _ w
theorem pass_guard (a : Scn) (x : Operand) (w : World) : (eqGuard .neq 96 x (.const .nilIface) (pVN a) .nilIface).run Try.prog w = .ok () w := by
  unfold pVN
  cases h : bitsB a with
  | false => cases x <;> kernel_rfl
  | true =>
    rw [if_pos rfl]
    unfold pV
    split
    · kernel_rfl
    · kernel_rfl

set_option maxRecDepth 20000 in
set_option maxHeartbeats 1600000 in
theorem passOk (w : World) (v0 : Value) (a : Scn) (t : Bool) (HT : Hid (passB a = t)) :
    Calls Try.prog 61 #[scV v0 a] w fun e w' => e = .returned (.bool t) ∧ w.grownBy w' none := by
  have HP := hide (fun w => passOf w v0 a (pVN a) rfl)
  have HN := hide (fun w => pass_neq a w)
  have HE := hide (fun x w => pass_guard a x w)
  have hb := bits_pass a
  have hp : passB a = t := unhide HT
  obtain ⟨pv, HV⟩ : ∃ pv, Hid (pVN a = pv) := ⟨_, rfl⟩
  obtain ⟨bb, HBB⟩ : ∃ bb, Hid (bitsB a = bb) := ⟨_, rfl⟩
  rw [unhide HV] at HP HN HE
  rw [unhide HBB] at hb HN
  obtain ⟨cs, fr, to, hi, lo⟩ := a
  unfold scV at HP ⊢
  dsimp only at hb HP ⊢
  have HG0 : Hid (w.grownBy (w.alloc (.cells #[v0, .int .i64 fr, .int .i64 to, .int .i64 hi, .int .i64 lo] 26)) none) := World.grownBy_alloc _ _ _
  have HB0 := hide (heap_alloc_new w (.cells #[v0, .int .i64 fr, .int .i64 to, .int .i64 hi, .int .i64 lo] 26))
  obtain ⟨c0, c1, c2, c3, c4⟩ := scanCells (unhide HB0)
  have hno : ¬ (0 ≤ fr ∧ fr ≤ to) ∨ ¬ to ≤ 63 → t = false := fun h => by
    rw [← hp]
    unfold passB
    dsimp only
    rcases h with h | h
    · rw [decide_eq_false h]; rfl
    · rw [decide_eq_false h, Bool.and_false]; rfl
  have hyes : 0 ≤ fr → fr ≤ to → to ≤ 63 → t = bb := fun h1 h2 h3 => by rw [← hp]; exact hb h1 h2 h3
  have HNO := hide hno
  have HYES := hide hyes
  clear HT hp hb hno hyes HV HBB
  by_cases h1 : 0 ≤ fr
  · have d1 := decide_eq_true h1
    by_cases h2 : fr ≤ to
    · have d2 := decide_eq_true h2
      by_cases h3 : to ≤ 63
      · have d3 := decide_eq_true h3
        obtain rfl := unhide HYES h1 h2 h3
        clear HNO HYES h1 h2 h3
        have hn := fun w => unhide HN w
        have he := fun x w => unhide HE x w
        go_enter Try.func61, Try.ntmps61
        go_wp2_with fail
        refine (unhide HP _).mono ?_
        rintro e w2 ⟨rfl, g2⟩
        have HG2 := hide (grown_trans (unhide HG0) g2)
        clear g2 c0 c1 c2 c3 c4
        go_wp2
        go_ret
        exact ⟨rfl, unhide HG2⟩
      · have d3 := decide_eq_false h3
        obtain rfl := unhide HNO (.inr h3)
        clear HNO HYES h1 h2 h3
        go_enter Try.func61, Try.ntmps61
        go_wp2
        go_ret
        exact ⟨rfl, unhide HG0⟩
    · have d2 := decide_eq_false h2
      obtain rfl := unhide HNO (.inl (fun h => h2 h.2))
      clear HNO HYES h1 h2
      go_enter Try.func61, Try.ntmps61
      go_wp2
      go_ret
      exact ⟨rfl, unhide HG0⟩
  · have d1 := decide_eq_false h1
    obtain rfl := unhide HNO (.inl (fun h => h1 h.1))
    clear HNO HYES h1
    go_enter Try.func61, Try.ntmps61
    go_wp2
    go_ret
    exact ⟨rfl, unhide HG0⟩

end Go.Proofs.Ytfgglainjaplgaa

namespace Go.Proofs.Ytfgglainjaplgaa
open Go.RowKit

/-- A scan and a square in their boxes. -/
structure Tf (w W : World) (sx : Array Value) (q : Nat) (ys : List Int) : Prop where
  sb : W.heap[w.heap.size]? = some (.cells sx 26 (0, 0))
  qb : W.heap[q]? = some (.cells (sq ys) 73 (0, 0))
  lo : w.heap.size + 2 ≤ q
  grown : w.grownBy W none
theorem Tf.new {w W W' : World} {sx : Array Value} {q : Nat} {ys : List Int} (h : Tf w W sx q ys) (g : W.grownBy W' none) : Tf w W' sx q ys := ⟨grown_atT g h.sb (by simp), grown_atT g h.qb (by simp), h.lo, grown_trans h.grown g⟩
theorem Tf.wr {w W W' : World} {sx : Array Value} {q : Nat} {ys : List Int} (h : Tf w W sx q ys) (g : W.grownBy W' (some (w.heap.size + 1))) : Tf w W' sx q ys := by
  have := h.lo
  exact ⟨grown_atT g h.sb (by simp), grown_atT g h.qb (by simp; omega), h.lo, grown_new h.grown g (fun x e => by simp at e; omega)⟩

set_option maxRecDepth 20000 in
set_option maxHeartbeats 6400000 in
theorem forPass (ao : Option Addr) (n cap : Nat) (zs : List Int) (w : World) (hr : Rd .i64 w ao n zs) (v0 : Value) (cs : List Int) (fr to hi lo kind : Int) (b1 b2 : Bool) (k : Int) (HB1 : Hid (levB (-16383) 16383 zs = b1)) (HB2 : Hid (passB ⟨cs, fr, to, hi, lo⟩ = b2)) (HK : Hid ((if hi = 0 then 0 else 1) = k)) (t : Bool) (HT : Hid ((b1 && b2 && (k == kind)) = t)) :
    Calls Try.prog 52 #[.slice ao n cap, scV v0 ⟨cs, fr, to, hi, lo⟩, .int .i64 kind] w fun e w' => (∃ ys, e = .returned (.tuple #[.agg (sq ys), .bool t]) ∧ ys.length = 64 ∧ (n = 64 → ys = zs)) ∧ w.grownBy w' none := by
  unfold scV
  dsimp only
  obtain ⟨W2, HW2⟩ : ∃ W2, Hid ((w.alloc (.cells #[v0, .int .i64 fr, .int .i64 to, .int .i64 hi, .int .i64 lo] 26)).alloc (.cells #[.int .i64 0, .int .i64 0, .int .i64 0, .int .i64 0, .int .i64 0, .int .i64 0, .int .i64 0, .int .i64 0, .int .i64 0, .int .i64 0, .int .i64 0, .int .i64 0, .int .i64 0, .int .i64 0, .int .i64 0, .int .i64 0, .int .i64 0, .int .i64 0, .int .i64 0, .int .i64 0, .int .i64 0, .int .i64 0, .int .i64 0, .int .i64 0, .int .i64 0, .int .i64 0, .int .i64 0, .int .i64 0, .int .i64 0, .int .i64 0, .int .i64 0, .int .i64 0, .int .i64 0, .int .i64 0, .int .i64 0, .int .i64 0, .int .i64 0, .int .i64 0, .int .i64 0, .int .i64 0, .int .i64 0, .int .i64 0, .int .i64 0, .int .i64 0, .int .i64 0, .int .i64 0, .int .i64 0, .int .i64 0, .int .i64 0, .int .i64 0, .int .i64 0, .int .i64 0, .int .i64 0, .int .i64 0, .int .i64 0, .int .i64 0, .int .i64 0, .int .i64 0, .int .i64 0, .int .i64 0, .int .i64 0, .int .i64 0, .int .i64 0, .int .i64 0] 73) = W2) := ⟨_, rfl⟩
  have hg0 : w.grownBy W2 none := by rw [← unhide HW2]; exact grown_alloc (World.grownBy_alloc _ _ _) _
  have hb0 : W2.heap[w.heap.size]? = some (.cells #[v0, .int .i64 fr, .int .i64 to, .int .i64 hi, .int .i64 lo] 26 (0, 0)) := by rw [← unhide HW2, Below.heap_alloc _ _ _ (by simp)]; exact heap_alloc_new w _
  have hr0 : W2.heap[w.heap.size + 1]? = some (.cells (sq zs64) 73 (0, 0)) := by
    rw [← unhide HW2, sq_z64]
    have := heap_alloc_new (w.alloc (.cells #[v0, .int .i64 fr, .int .i64 to, .int .i64 hi, .int .i64 lo] 26)) (.cells #[.int .i64 0, .int .i64 0, .int .i64 0, .int .i64 0, .int .i64 0, .int .i64 0, .int .i64 0, .int .i64 0, .int .i64 0, .int .i64 0, .int .i64 0, .int .i64 0, .int .i64 0, .int .i64 0, .int .i64 0, .int .i64 0, .int .i64 0, .int .i64 0, .int .i64 0, .int .i64 0, .int .i64 0, .int .i64 0, .int .i64 0, .int .i64 0, .int .i64 0, .int .i64 0, .int .i64 0, .int .i64 0, .int .i64 0, .int .i64 0, .int .i64 0, .int .i64 0, .int .i64 0, .int .i64 0, .int .i64 0, .int .i64 0, .int .i64 0, .int .i64 0, .int .i64 0, .int .i64 0, .int .i64 0, .int .i64 0, .int .i64 0, .int .i64 0, .int .i64 0, .int .i64 0, .int .i64 0, .int .i64 0, .int .i64 0, .int .i64 0, .int .i64 0, .int .i64 0, .int .i64 0, .int .i64 0, .int .i64 0, .int .i64 0, .int .i64 0, .int .i64 0, .int .i64 0, .int .i64 0, .int .i64 0, .int .i64 0, .int .i64 0, .int .i64 0] 73)
    simpa using this
  have HFX := hide (fixLevels ao n cap zs W2 (hr.grown hg0) b1 HB1)
  have HG0 := hide hg0
  have HB0 := hide hb0
  have HR0 := hide hr0
  clear hr hg0 hb0 hr0
  go_enter Try.func52, Try.ntmps52
  go_wp2_with fail
  rw [unhide HW2]
  clear HW2
  refine (unhide HFX).mono ?_
  rintro e w1 ⟨⟨ys, rfl, hyl, hye⟩, g1⟩
  have HYL := hide hyl
  have HYE := hide hye
  have HYS : Hid ((sq ys).size = 64) := by unfold Hid; rw [sq_size]; exact hyl
  have HG1 := hide (grown_trans (unhide HG0) g1)
  have HB1' := hide (grown_atT g1 (unhide HB0) (by simp))
  have HR1 := hide (grown_atT g1 (unhide HR0) (by simp))
  have hs1 := (Array.getElem?_eq_some_iff.1 (unhide HR1)).1
  clear hyl hye g1 HG0 HB0 HR0 HFX
  go_wp2_with (refine store_row rfl 73 _ _ rfl w1.heap.size rfl (sq ys) rfl #[.int .i64 0, .int .i64 0, .int .i64 0, .int .i64 0, .int .i64 0, .int .i64 0, .int .i64 0, .int .i64 0, .int .i64 0, .int .i64 0, .int .i64 0, .int .i64 0, .int .i64 0, .int .i64 0, .int .i64 0, .int .i64 0, .int .i64 0, .int .i64 0, .int .i64 0, .int .i64 0, .int .i64 0, .int .i64 0, .int .i64 0, .int .i64 0, .int .i64 0, .int .i64 0, .int .i64 0, .int .i64 0, .int .i64 0, .int .i64 0, .int .i64 0, .int .i64 0, .int .i64 0, .int .i64 0, .int .i64 0, .int .i64 0, .int .i64 0, .int .i64 0, .int .i64 0, .int .i64 0, .int .i64 0, .int .i64 0, .int .i64 0, .int .i64 0, .int .i64 0, .int .i64 0, .int .i64 0, .int .i64 0, .int .i64 0, .int .i64 0, .int .i64 0, .int .i64 0, .int .i64 0, .int .i64 0, .int .i64 0, .int .i64 0, .int .i64 0, .int .i64 0, .int .i64 0, .int .i64 0, .int .i64 0, .int .i64 0, .int .i64 0, .int .i64 0] 73 (heap_alloc_new _ _) (by rw [unhide HYS]; rfl) (by rw [unhide HYS]; kernel_rfl) (sq_one _) ?_; intro WB hBB gB)
  obtain ⟨q, HQ⟩ : ∃ q, Hid (w1.heap.size = q) := ⟨_, rfl⟩
  have TB : Hid (Tf w WB #[v0, .int .i64 fr, .int .i64 to, .int .i64 hi, .int .i64 lo] q ys) := by
    rw [← unhide HQ]
    exact ⟨grown_atT gB (grown_atT (World.grownBy_alloc _ _ none) (unhide HB1') (by simp)) (by simp; omega), hBB, by omega, grown_new (grown_alloc (unhide HG1) _) gB (fun x e => by simp at e; omega)⟩
  have RB := hide (grown_atT gB (grown_atT (World.grownBy_alloc _ _ none) (unhide HR1) (by simp)) (by simp; omega))
  rw [unhide HQ]
  clear hBB gB HG1 HB1' HR1 HQ hs1
  refine wp_region_noPanic ?_
  have T0 := hide ((unhide TB).new (grown_drew (World.grownBy.refl WB none)))
  have R0 := hide (grown_atT (grown_drew (World.grownBy.refl WB none)) (unhide RB) (by simp))
  clear TB RB
  cases b1 with
  | false =>
    obtain rfl : t = false := by rw [← unhide HT]; rfl
    refine wp_region_raw (fun W => Tf w W #[v0, .int .i64 fr, .int .i64 to, .int .i64 hi, .int .i64 lo] q ys) [true, true, true, true, false, false, false, false, false, false, false, false, false, false] (by kernel_rfl) (fun _ _ _ _ _ h => h) rfl (by kernel_rfl) (unhide T0) ?_
    generalize WB.drew = W0 at *
    refine heldF_take (v := .agg (sq ys)) (Or.inl ⟨by rfl, ?_⟩) ?_
    · intro w' hSw
      exact exec_row 73 _ rfl q rfl (sq ys) 73 hSw.qb _ Try.underlying73 rfl (by rw [unhide HYS]; kernel_rfl)
    try simp only [Act.put, List.setIfInBounds_toArray, List.set_cons_zero, List.set_cons_succ]
    refine heldF_take (v := ?_) (Or.inl ⟨by rfl, ?_⟩) ?_
    rotate_left 1
    · intro w' hSw
      clear hSw
      go_simp
      try with_reducible rfl
    try simp only [Act.put, List.setIfInBounds_toArray, List.set_cons_zero, List.set_cons_succ]
    refine heldF_take (v := ?_) (Or.inl ⟨by rfl, ?_⟩) ?_
    rotate_left 1
    · intro w' hSw
      clear hSw
      go_simp
      try with_reducible rfl
    try simp only [Act.put, List.setIfInBounds_toArray, List.set_cons_zero, List.set_cons_succ]
    refine heldF_take (v := undef) (Or.inr ⟨by rfl, rfl⟩) ?_
    try simp only [Act.put, List.setIfInBounds_toArray, List.set_cons_zero, List.set_cons_succ]
    refine heldF_skip (heldF_skip (heldF_skip (heldF_skip (heldF_skip (heldF_skip (heldF_skip (heldF_skip (heldF_skip (heldF_skip (heldF_nil ?_))))))))))
    refine anyH_take1 (i := 4) (v := undef) rfl (by kernel_rfl) (fun _ _ _ _ _ h => h) (unhide T0) (Or.inr ⟨by rfl, rfl⟩) ?_
    try simp only [Act.put, List.setIfInBounds_toArray, List.set_cons_zero, List.set_cons_succ]
    refine anyH_take1 (i := 5) (v := ?_) rfl (by kernel_rfl) (fun _ _ _ _ _ h => h) (unhide T0) (Or.inl ⟨by rfl, ?_⟩) ?_
    rotate_left 1
    · intro w' hSw
      clear hSw
      go_simp
      try with_reducible rfl
    try simp only [Act.put, List.setIfInBounds_toArray, List.set_cons_zero, List.set_cons_succ]
    refine anyH_take1 (i := 6) (v := ?_) rfl (by kernel_rfl) (fun _ _ _ _ _ h => h) (unhide T0) (Or.inl ⟨by rfl, ?_⟩) ?_
    rotate_left 1
    · intro w' hSw
      clear hSw
      go_simp
      try with_reducible rfl
    try simp only [Act.put, List.setIfInBounds_toArray, List.set_cons_zero, List.set_cons_succ]
    refine anyH_take1 (i := 7) (v := undef) rfl (by kernel_rfl) (fun _ _ _ _ _ h => h) (unhide T0) (Or.inr ⟨by rfl, rfl⟩) ?_
    try simp only [Act.put, List.setIfInBounds_toArray, List.set_cons_zero, List.set_cons_succ]
    refine anyH_take1 (i := 9) (v := undef) rfl (by kernel_rfl) (fun _ _ _ _ _ h => h) (unhide T0) (Or.inr ⟨by rfl, rfl⟩) ?_
    try simp only [Act.put, List.setIfInBounds_toArray, List.set_cons_zero, List.set_cons_succ]
    refine anyH_take1 (i := 8) (v := undef) rfl (by kernel_rfl) (fun _ _ _ _ _ h => h) (unhide T0) (Or.inr ⟨by rfl, rfl⟩) ?_
    try simp only [Act.put, List.setIfInBounds_toArray, List.set_cons_zero, List.set_cons_succ]
    refine anyH_take1 (i := 10) (v := undef) rfl (by kernel_rfl) (fun _ _ _ _ _ h => h) (unhide T0) (Or.inr ⟨by rfl, rfl⟩) ?_
    try simp only [Act.put, List.setIfInBounds_toArray, List.set_cons_zero, List.set_cons_succ]
    refine anyH_take1 (i := 11) (v := ?_) rfl (by kernel_rfl) (fun _ _ _ _ _ h => h) (unhide T0) (Or.inl ⟨by rfl, ?_⟩) ?_
    rotate_left 1
    · intro w' hSw
      clear hSw
      go_simp
      try with_reducible rfl
    try simp only [Act.put, List.setIfInBounds_toArray, List.set_cons_zero, List.set_cons_succ]
    refine anyH_step1 (i := 12) rfl (by kernel_rfl) (fun K hK => ?_)
    refine step_store_row (by rfl) 73 _ _ rfl (w.heap.size + 1) rfl (sq ys) rfl (sq zs64) 73 (unhide R0) (by rw [unhide HYS, sq_size, zs64_len]) (by rw [unhide HYS]; kernel_rfl) (sq_one _) ?_
    intro W1 hB1 g1
    have T1 := hide ((unhide T0).wr g1)
    have R1 := hide hB1
    refine hK.out _ _ (unhide T1) ?_
    clear hK K g1 hB1
    try simp only [Act.put]
    refine anyH_step1 (i := 13) rfl (by kernel_rfl) (fun K hK => ?_)
    go_simp
    refine hK.out _ _ (unhide T1) ?_
    clear hK K
    try simp only [Act.put, List.setIfInBounds_toArray, List.set_cons_zero, List.set_cons_succ]
    refine wpAnyH_done (by kernel_rfl) (NoPanic.normal ?_) _
    go_wp2
    refine bodyPost_ret (v := .tuple #[.agg (sq ys), .bool false]) ?_ rfl ⟨⟨ys, rfl, unhide HYL, unhide HYE⟩, (unhide T1).grown⟩
    exact results_c2 (p := 6) (q := 7) (ty := 73) rfl _ _ _ (w.heap.size + 1) rfl _ (run_loadVar_row W1 _ 73 73 _ (0, 0) _ (unhide R1) Try.underlying73 rfl (by rw [unhide HYS]; kernel_rfl))
  | true =>
    refine wp_region_raw (fun W => Tf w W #[v0, .int .i64 fr, .int .i64 to, .int .i64 hi, .int .i64 lo] q ys) [true, true, true, true, false, false, false, false, false, false, false, false, false, false] (by kernel_rfl) (fun _ _ _ _ _ h => h) rfl (by kernel_rfl) (unhide T0) ?_
    generalize WB.drew = W0 at *
    refine heldF_take (v := .agg (sq ys)) (Or.inl ⟨by rfl, ?_⟩) ?_
    · intro w' hSw
      exact exec_row 73 _ rfl q rfl (sq ys) 73 hSw.qb _ Try.underlying73 rfl (by rw [unhide HYS]; kernel_rfl)
    try simp only [Act.put, List.setIfInBounds_toArray, List.set_cons_zero, List.set_cons_succ]
    refine heldF_take (v := ?_) (Or.inl ⟨by rfl, ?_⟩) ?_
    rotate_left 1
    · intro w' hSw
      clear hSw
      go_simp
      try with_reducible rfl
    try simp only [Act.put, List.setIfInBounds_toArray, List.set_cons_zero, List.set_cons_succ]
    refine heldF_take (v := ?_) (Or.inl ⟨by rfl, ?_⟩) ?_
    rotate_left 1
    · intro w' hSw
      clear hSw
      go_simp
      try with_reducible rfl
    try simp only [Act.put, List.setIfInBounds_toArray, List.set_cons_zero, List.set_cons_succ]
    refine heldF_take (v := .agg #[v0, .int .i64 fr, .int .i64 to, .int .i64 hi, .int .i64 lo]) (Or.inl ⟨by rfl, ?_⟩) ?_
    · intro w' hSw
      exact exec_row 26 _ rfl w.heap.size rfl #[v0, .int .i64 fr, .int .i64 to, .int .i64 hi, .int .i64 lo] 26 hSw.sb _ Try.underlying26 rfl (by kernel_rfl)
    try simp only [Act.put, List.setIfInBounds_toArray, List.set_cons_zero, List.set_cons_succ]
    refine heldF_skip (heldF_skip (heldF_skip (heldF_skip (heldF_skip (heldF_skip (heldF_skip (heldF_skip (heldF_skip (heldF_skip (heldF_nil ?_))))))))))
    refine anyH_step1 (i := 4) rfl (by kernel_rfl) (fun K hK => ?_)
    go_simp
    refine (passOk W0 v0 ⟨cs, fr, to, hi, lo⟩ b2 HB2).mono ?_
    rintro e W1 ⟨rfl, g1⟩
    have T1 := hide ((unhide T0).new g1)
    have R1 := hide (grown_atT g1 (unhide R0) (by simp))
    refine hK.out _ _ (unhide T1) ?_
    clear hK K g1
    try simp only [Act.put, List.setIfInBounds_toArray, List.set_cons_zero, List.set_cons_succ]
    cases b2 with
    | false =>
      obtain rfl : t = false := by rw [← unhide HT]; rfl
      refine anyH_take1 (i := 5) (v := ?_) rfl (by kernel_rfl) (fun _ _ _ _ _ h => h) (unhide T1) (Or.inl ⟨by rfl, ?_⟩) ?_
      rotate_left 1
      · intro w' hSw
        clear hSw
        go_simp
        try with_reducible rfl
      try simp only [Act.put, List.setIfInBounds_toArray, List.set_cons_zero, List.set_cons_succ]
      refine anyH_take1 (i := 6) (v := ?_) rfl (by kernel_rfl) (fun _ _ _ _ _ h => h) (unhide T1) (Or.inl ⟨by rfl, ?_⟩) ?_
      rotate_left 1
      · intro w' hSw
        clear hSw
        go_simp
        try with_reducible rfl
      try simp only [Act.put, List.setIfInBounds_toArray, List.set_cons_zero, List.set_cons_succ]
      refine anyH_take1 (i := 7) (v := undef) rfl (by kernel_rfl) (fun _ _ _ _ _ h => h) (unhide T1) (Or.inr ⟨by rfl, rfl⟩) ?_
      try simp only [Act.put, List.setIfInBounds_toArray, List.set_cons_zero, List.set_cons_succ]
      refine anyH_take1 (i := 9) (v := undef) rfl (by kernel_rfl) (fun _ _ _ _ _ h => h) (unhide T1) (Or.inr ⟨by rfl, rfl⟩) ?_
      try simp only [Act.put, List.setIfInBounds_toArray, List.set_cons_zero, List.set_cons_succ]
      refine anyH_take1 (i := 8) (v := undef) rfl (by kernel_rfl) (fun _ _ _ _ _ h => h) (unhide T1) (Or.inr ⟨by rfl, rfl⟩) ?_
      try simp only [Act.put, List.setIfInBounds_toArray, List.set_cons_zero, List.set_cons_succ]
      refine anyH_take1 (i := 10) (v := undef) rfl (by kernel_rfl) (fun _ _ _ _ _ h => h) (unhide T1) (Or.inr ⟨by rfl, rfl⟩) ?_
      try simp only [Act.put, List.setIfInBounds_toArray, List.set_cons_zero, List.set_cons_succ]
      refine anyH_take1 (i := 11) (v := ?_) rfl (by kernel_rfl) (fun _ _ _ _ _ h => h) (unhide T1) (Or.inl ⟨by rfl, ?_⟩) ?_
      rotate_left 1
      · intro w' hSw
        clear hSw
        go_simp
        try with_reducible rfl
      try simp only [Act.put, List.setIfInBounds_toArray, List.set_cons_zero, List.set_cons_succ]
      refine anyH_step1 (i := 12) rfl (by kernel_rfl) (fun K hK => ?_)
      refine step_store_row (by rfl) 73 _ _ rfl (w.heap.size + 1) rfl (sq ys) rfl (sq zs64) 73 (unhide R1) (by rw [unhide HYS, sq_size, zs64_len]) (by rw [unhide HYS]; kernel_rfl) (sq_one _) ?_
      intro W2 hB2 g2
      have T2 := hide ((unhide T1).wr g2)
      have R2 := hide hB2
      refine hK.out _ _ (unhide T2) ?_
      clear hK K g2 hB2
      try simp only [Act.put]
      refine anyH_step1 (i := 13) rfl (by kernel_rfl) (fun K hK => ?_)
      go_simp
      refine hK.out _ _ (unhide T2) ?_
      clear hK K
      try simp only [Act.put, List.setIfInBounds_toArray, List.set_cons_zero, List.set_cons_succ]
      refine wpAnyH_done (by kernel_rfl) (NoPanic.normal ?_) _
      go_wp2
      refine bodyPost_ret (v := .tuple #[.agg (sq ys), .bool false]) ?_ rfl ⟨⟨ys, rfl, unhide HYL, unhide HYE⟩, (unhide T2).grown⟩
      exact results_c2 (p := 6) (q := 7) (ty := 73) rfl _ _ _ (w.heap.size + 1) rfl _ (run_loadVar_row W2 _ 73 73 _ (0, 0) _ (unhide R2) Try.underlying73 rfl (by rw [unhide HYS]; kernel_rfl))
    | true =>
      obtain rfl : (k == kind) = t := by rw [← unhide HT]; simp
      clear HT
      refine anyH_take1 (i := 5) (v := ?_) rfl (by kernel_rfl) (fun _ _ _ _ _ h => h) (unhide T1) (Or.inl ⟨by rfl, ?_⟩) ?_
      rotate_left 1
      · intro w' hSw
        clear hSw
        go_simp
        try with_reducible rfl
      try simp only [Act.put, List.setIfInBounds_toArray, List.set_cons_zero, List.set_cons_succ]
      refine anyH_take1 (i := 6) (v := ?_) rfl (by kernel_rfl) (fun _ _ _ _ _ h => h) (unhide T1) (Or.inl ⟨by rfl, ?_⟩) ?_
      rotate_left 1
      · intro w' hSw
        clear hSw
        go_simp
        try with_reducible rfl
      try simp only [Act.put, List.setIfInBounds_toArray, List.set_cons_zero, List.set_cons_succ]
      refine anyH_take1 (i := 7) (v := .agg #[v0, .int .i64 fr, .int .i64 to, .int .i64 hi, .int .i64 lo]) rfl (by kernel_rfl) (fun _ _ _ _ _ h => h) (unhide T1) (Or.inl ⟨by rfl, ?_⟩) ?_
      · intro w' hSw
        exact exec_row 26 _ rfl w.heap.size rfl #[v0, .int .i64 fr, .int .i64 to, .int .i64 hi, .int .i64 lo] 26 hSw.sb _ Try.underlying26 rfl (by kernel_rfl)
      try simp only [Act.put, List.setIfInBounds_toArray, List.set_cons_zero, List.set_cons_succ]
      refine anyH_take1 (i := 9) (v := ?_) rfl (by kernel_rfl) (fun _ _ _ _ _ h => h) (unhide T1) (Or.inl ⟨by rfl, ?_⟩) ?_
      rotate_left 1
      · intro w' hSw
        clear hSw
        go_simp
        try with_reducible rfl
      try simp only [Act.put, List.setIfInBounds_toArray, List.set_cons_zero, List.set_cons_succ]
      refine anyH_step1 (i := 8) rfl (by kernel_rfl) (fun K hK => ?_)
      go_simp
      refine (kindOfPass W1 v0 ⟨cs, fr, to, hi, lo⟩ k HK).mono ?_
      rintro e W2 ⟨rfl, g2⟩
      have T2 := hide ((unhide T1).new g2)
      have R2 := hide (grown_atT g2 (unhide R1) (by simp))
      refine hK.out _ _ (unhide T2) ?_
      clear hK K g2
      try simp only [Act.put, List.setIfInBounds_toArray, List.set_cons_zero, List.set_cons_succ]
      refine anyH_take1 (i := 10) (v := ?_) rfl (by kernel_rfl) (fun _ _ _ _ _ h => h) (unhide T2) (Or.inl ⟨by rfl, ?_⟩) ?_
      rotate_left 1
      · intro w' hSw
        clear hSw
        go_simp
        try with_reducible rfl
      try simp only [Act.put, List.setIfInBounds_toArray, List.set_cons_zero, List.set_cons_succ]
      refine anyH_take1 (i := 11) (v := ?_) rfl (by kernel_rfl) (fun _ _ _ _ _ h => h) (unhide T2) (Or.inl ⟨by rfl, ?_⟩) ?_
      rotate_left 1
      · intro w' hSw
        clear hSw
        go_simp
        try with_reducible rfl
      try simp only [Act.put, List.setIfInBounds_toArray, List.set_cons_zero, List.set_cons_succ]
      refine anyH_step1 (i := 12) rfl (by kernel_rfl) (fun K hK => ?_)
      refine step_store_row (by rfl) 73 _ _ rfl (w.heap.size + 1) rfl (sq ys) rfl (sq zs64) 73 (unhide R2) (by rw [unhide HYS, sq_size, zs64_len]) (by rw [unhide HYS]; kernel_rfl) (sq_one _) ?_
      intro W3 hB3 g3
      have T3 := hide ((unhide T2).wr g3)
      have R3 := hide hB3
      refine hK.out _ _ (unhide T3) ?_
      clear hK K g3 hB3
      try simp only [Act.put]
      refine anyH_step1 (i := 13) rfl (by kernel_rfl) (fun K hK => ?_)
      go_simp
      refine hK.out _ _ (unhide T3) ?_
      clear hK K
      try simp only [Act.put, List.setIfInBounds_toArray, List.set_cons_zero, List.set_cons_succ]
      refine wpAnyH_done (by kernel_rfl) (NoPanic.normal ?_) _
      go_wp2
      refine bodyPost_ret (v := .tuple #[.agg (sq ys), .bool (k == kind)]) ?_ rfl ⟨⟨ys, rfl, unhide HYL, unhide HYE⟩, (unhide T3).grown⟩
      exact results_c2 (p := 6) (q := 7) (ty := 73) rfl _ _ _ (w.heap.size + 1) rfl _ (run_loadVar_row W3 _ 73 73 _ (0, 0) _ (unhide R3) Try.underlying73 rfl (by rw [unhide HYS]; kernel_rfl))

end Go.Proofs.Ytfgglainjaplgaa

namespace Go.Proofs.Ytfgglainjaplgaa
open Go.RowKit

theorem lev_zz {zs : List Int} (h : levB (-16383) 16383 zs = true) : ∀ j, j < 64 → -16383 ≤ (zigged zs).getD j 0 ∧ (zigged zs).getD j 0 ≤ 16383 := fun j hj => by
  unfold zigged
  rw [made_at _ j hj]
  exact (lev_at h).2 _ (zz_lt j hj)
/-- What is so of a scan that is a pass. -/
theorem pass_in {cs : List Int} {fr to hi lo : Int} (h : passB ⟨cs, fr, to, hi, lo⟩ = true) : ∃ k0 k1 l0 : Nat, fr = k0 ∧ to = k1 ∧ lo = l0 ∧ k0 ≤ k1 ∧ k1 ≤ 63 ∧ l0 ≤ 13 ∧ (hi = 0 ∨ hi = ((l0 + 1 : Nat) : Int)) := by
  unfold passB at h
  simp only [Bool.and_eq_true, Bool.or_eq_true, decide_eq_true_eq] at h
  obtain ⟨⟨⟨⟨f0, f1⟩, f2⟩, f3, f4⟩, f5⟩ := h
  exact ⟨fr.toNat, to.toNat, lo.toNat, by omega, by omega, by omega, by omega, by omega, by omega, by omega⟩

theorem nil13 {w W : World} (h : w.grownBy W none) {L : List Int} (hL : L = []) : Row13 w L (.returned (.slice none 0 0)) W := by
  subst hL
  exact ⟨none, 0, rfl, ⟨rfl, .inl ⟨rfl, rfl⟩⟩, h⟩

theorem toldFirst (zs : List Int) (hz : levB (-16383) 16383 zs = true) (v0 : Value) (cs : List Int) (fr to lo : Int) (hp : passB ⟨cs, fr, to, 0, lo⟩ = true) (w : World) :
    Calls Try.prog 53 #[.agg (sq zs), scV v0 ⟨cs, fr, to, 0, lo⟩] w (Row13 w (firstL (zigged zs) fr.toNat (to - fr + 1).toNat lo.toNat)) := by
  obtain ⟨k0, k1, l0, rfl, rfl, rfl, h1, h2, h3, _⟩ := pass_in hp
  have em : ((k1 : Int) - (k0 : Int) + 1).toNat = k1 + 1 - k0 := by omega
  rw [em, Int.toNat_natCast, Int.toNat_natCast]
  exact told zs (lev_at hz).1 v0 cs k0 k1 0 l0 h1 h2 _ 0 72 (.agg #[.int .i64 l0]) (fun n => cutI n l0) (fun W => tellTable W v0 cs k0 k1 0 l0) (fun W => kindOfPass W v0 ⟨cs, k0, k1, 0, l0⟩ 0 rfl) (fun w => by kernel_rfl)
    (enters_of Try.func72 (by kernel_rfl) rfl) (fun j hj W => firstTell _ l0 (lev_zz hz j hj) h3 W) _ rfl w

theorem toldRefine (zs : List Int) (hz : levB (-16383) 16383 zs = true) (v0 : Value) (cs : List Int) (fr to hi lo : Int) (h0 : hi ≠ 0) (hp : passB ⟨cs, fr, to, hi, lo⟩ = true) (w : World) :
    Calls Try.prog 53 #[.agg (sq zs), scV v0 ⟨cs, fr, to, hi, lo⟩] w (Row13 w (refineL (zigged zs) fr.toNat (to - fr + 1).toNat hi.toNat lo.toNat)) := by
  obtain ⟨k0, k1, l0, rfl, rfl, rfl, h1, h2, h3, h4⟩ := pass_in hp
  obtain rfl : hi = ((l0 + 1 : Nat) : Int) := by
    rcases h4 with h4 | h4
    · exact absurd h4 h0
    · exact h4
  have em : ((k1 : Int) - (k0 : Int) + 1).toNat = k1 + 1 - k0 := by omega
  rw [em, Int.toNat_natCast, Int.toNat_natCast, Int.toNat_natCast]
  exact told zs (lev_at hz).1 v0 cs k0 k1 _ l0 h1 h2 _ 1 73 (.agg #[.int .i64 ((l0 + 1 : Nat) : Int), .int .i64 l0]) (fun n => bitI n (l0 + 1) l0) (fun W => tellTable W v0 cs k0 k1 _ l0) (fun W => kindOfPass W v0 ⟨cs, k0, k1, _, l0⟩ 1 (if_neg h0)) (fun w => by kernel_rfl)
    (enters_of Try.func73 (by kernel_rfl) rfl) (fun j hj W => refTell _ (l0 + 1) l0 (lev_zz hz j hj) (by omega) h3 W) _ rfl w

set_option maxRecDepth 20000 in
set_option maxHeartbeats 1600000 in
theorem tellPass (ao : Option Addr) (n cap : Nat) (zs : List Int) (w : World) (hr : Rd .i64 w ao n zs) (vo : Option Addr) (vn vc : Nat) (cs : List Int) (fr to hi lo kind : Int) (b1 b2 : Bool) (k : Int) (HB1 : Hid (levB (-16383) 16383 zs = b1)) (HB2 : Hid (passB ⟨cs, fr, to, hi, lo⟩ = b2)) (HK : Hid ((if hi = 0 then 0 else 1) = k)) (L : List Int)
    (HY : Hid ((b1 && b2 && (k == kind)) = true → ∀ W, Calls Try.prog 53 #[.agg (sq zs), scV (.slice vo vn vc) ⟨cs, fr, to, hi, lo⟩] W (Row13 W L))) (HN : Hid ((b1 && b2 && (k == kind)) = false → L = [])) :
    Calls Try.prog 37 #[.slice ao n cap, scV (.slice vo vn vc) ⟨cs, fr, to, hi, lo⟩, .int .i64 kind] w (Row13 w L) := by
  obtain ⟨t, HT⟩ : ∃ t, Hid ((b1 && b2 && (k == kind)) = t) := ⟨_, rfl⟩
  have HG0 : Hid (w.grownBy (w.alloc (.cells #[.slice vo vn vc, .int .i64 fr, .int .i64 to, .int .i64 hi, .int .i64 lo] 26)) none) := World.grownBy_alloc _ _ _
  have HB0 := hide (heap_alloc_new w (.cells #[.slice vo vn vc, .int .i64 fr, .int .i64 to, .int .i64 hi, .int .i64 lo] 26))
  have HFP := hide (forPass ao n cap zs _ (hr.grown (unhide HG0)) (.slice vo vn vc) cs fr to hi lo kind b1 b2 k HB1 HB2 HK t HT)
  have h64 : t = true → n = 64 ∧ zs.length = 64 := fun e => by
    have h := unhide HT
    rw [e] at h
    simp only [Bool.and_eq_true] at h
    have h2 := unhide HB1
    rw [h.1.1] at h2
    have h3 := (lev_at h2).1
    exact ⟨hr.1.symm.trans h3, h3⟩
  have H64 := hide h64
  rw [unhide HT] at HY HN
  unfold scV at HFP HY ⊢
  dsimp only at HFP HY ⊢
  have c0 := scanCells (unhide HB0)
  clear hr h64 HB1 HB2 HK HT
  go_enter Try.func37, Try.ntmps37
  go_wp2_with fail
  refine (unhide HFP).mono ?_
  rintro e w1 ⟨⟨ys, rfl, hyl, hye⟩, g1⟩
  have HYS : Hid ((sq ys).size = 64) := by unfold Hid; rw [sq_size]; exact hyl
  have HYE := hide hye
  have HG1 := hide (grown_trans (unhide HG0) g1)
  have HB1 := hide (grown_atT g1 (unhide HB0) (by simp))
  have hs1 := (Array.getElem?_eq_some_iff.1 (unhide HB1)).1
  clear hyl hye g1 c0 HG0 HB0 HFP
  cases t with
  | false =>
    have HL0 := hide (unhide HN rfl)
    clear HY HN H64
    go_wp2_with (refine store_row rfl 73 _ _ rfl w1.heap.size rfl (sq ys) rfl #[.int .i64 0, .int .i64 0, .int .i64 0, .int .i64 0, .int .i64 0, .int .i64 0, .int .i64 0, .int .i64 0, .int .i64 0, .int .i64 0, .int .i64 0, .int .i64 0, .int .i64 0, .int .i64 0, .int .i64 0, .int .i64 0, .int .i64 0, .int .i64 0, .int .i64 0, .int .i64 0, .int .i64 0, .int .i64 0, .int .i64 0, .int .i64 0, .int .i64 0, .int .i64 0, .int .i64 0, .int .i64 0, .int .i64 0, .int .i64 0, .int .i64 0, .int .i64 0, .int .i64 0, .int .i64 0, .int .i64 0, .int .i64 0, .int .i64 0, .int .i64 0, .int .i64 0, .int .i64 0, .int .i64 0, .int .i64 0, .int .i64 0, .int .i64 0, .int .i64 0, .int .i64 0, .int .i64 0, .int .i64 0, .int .i64 0, .int .i64 0, .int .i64 0, .int .i64 0, .int .i64 0, .int .i64 0, .int .i64 0, .int .i64 0, .int .i64 0, .int .i64 0, .int .i64 0, .int .i64 0, .int .i64 0, .int .i64 0, .int .i64 0, .int .i64 0] 73 (heap_alloc_new _ _) (by rw [unhide HYS]; rfl) (by rw [unhide HYS]; kernel_rfl) (sq_one _) ?_; intro w2 hB2 g2)
    have HE := hide (nil13 (show w.grownBy w2 none from grown_new (grown_alloc (unhide HG1) _) g2 (fun x e => by simp at e; omega)) (unhide HL0))
    clear hB2 g2
    go_ret
    exact unhide HE
  | true =>
    obtain ⟨e64, hz64⟩ := unhide H64 rfl
    obtain rfl : ys = zs := unhide HYE e64
    have HTL := hide (unhide HY rfl)
    clear e64 hz64 HY HN H64 HYE
    go_wp2_with (first | (refine store_row rfl 73 _ _ rfl w1.heap.size rfl (sq ys) rfl #[.int .i64 0, .int .i64 0, .int .i64 0, .int .i64 0, .int .i64 0, .int .i64 0, .int .i64 0, .int .i64 0, .int .i64 0, .int .i64 0, .int .i64 0, .int .i64 0, .int .i64 0, .int .i64 0, .int .i64 0, .int .i64 0, .int .i64 0, .int .i64 0, .int .i64 0, .int .i64 0, .int .i64 0, .int .i64 0, .int .i64 0, .int .i64 0, .int .i64 0, .int .i64 0, .int .i64 0, .int .i64 0, .int .i64 0, .int .i64 0, .int .i64 0, .int .i64 0, .int .i64 0, .int .i64 0, .int .i64 0, .int .i64 0, .int .i64 0, .int .i64 0, .int .i64 0, .int .i64 0, .int .i64 0, .int .i64 0, .int .i64 0, .int .i64 0, .int .i64 0, .int .i64 0, .int .i64 0, .int .i64 0, .int .i64 0, .int .i64 0, .int .i64 0, .int .i64 0, .int .i64 0, .int .i64 0, .int .i64 0, .int .i64 0, .int .i64 0, .int .i64 0, .int .i64 0, .int .i64 0, .int .i64 0, .int .i64 0, .int .i64 0, .int .i64 0] 73 (heap_alloc_new _ _) (by rw [unhide HYS]; rfl) (by rw [unhide HYS]; kernel_rfl) (sq_one _) ?_; intro w2 hB2 g2; have HQ2 := hide hB2; have HB2 := hide (grown_atT g2 (grown_atT (World.grownBy_alloc _ _ none) (unhide HB1) (by simp)) (by simp; omega)); have HG2 : Hid (w.grownBy w2 none) := grown_new (grown_alloc (unhide HG1) _) g2 (fun x e => by simp at e; omega); have c0 := scanCells (unhide HB2); clear hB2 g2) | (refine load_row rfl 73 _ rfl w1.heap.size rfl (sq ys) 73 (unhide HQ2) _ Try.underlying73 rfl (by rw [unhide HYS]; kernel_rfl) ?_))
    refine (unhide HTL w2).mono ?_
    rintro e w3 ⟨so, sc, rfl, o3, g3⟩
    have HE : Hid (Row13 w L (.returned (.slice so L.length sc)) w3) := ⟨so, sc, rfl, own_base o3 (unhide HG2).size, grown_trans (unhide HG2) g3⟩
    clear o3 g3 c0 HTL
    go_wp2
    go_ret
    exact unhide HE

theorem giveFirst : ImplFirst := by
  rintro ao n cap zs w hr - vo vn vc ⟨cs, fr, to, hi, lo⟩ - - L HL
  have HG0 : Hid (w.grownBy (w.alloc (.cells #[.slice vo vn vc, .int .i64 fr, .int .i64 to, .int .i64 hi, .int .i64 lo] 26)) none) := World.grownBy_alloc _ _ _
  have hp := unhide HL
  unfold firstG at hp
  have e0 : ((if hi = 0 then 0 else 1) == (0 : Int)) = decide (hi = 0) := by by_cases h : hi = 0 <;> simp [h]
  have HTP := hide (tellPass ao n cap zs _ (hr.grown (unhide HG0)) vo vn vc cs fr to hi lo 0 _ _ _ rfl rfl rfl L (fun h W => by
      rw [e0] at h
      dsimp only at hp
      rw [if_pos h] at hp
      simp only [Bool.and_eq_true, decide_eq_true_eq] at h
      obtain ⟨⟨h1, h2⟩, rfl⟩ := h
      rw [← hp]
      exact toldFirst zs h1 _ cs fr to lo h2 W) (fun h => by
      rw [e0] at h
      dsimp only at hp
      rw [if_neg (by rw [h]; decide)] at hp
      exact hp.symm))
  unfold scV at HTP
  dsimp only at HTP ⊢
  have c0 := scanCells (heap_alloc_new w (.cells #[.slice vo vn vc, .int .i64 fr, .int .i64 to, .int .i64 hi, .int .i64 lo] 26))
  clear hr hp e0 HL
  go_enter Try.func12, Try.ntmps12
  go_wp2_with fail
  refine (unhide HTP).mono ?_
  rintro e w3 ⟨so, sc, rfl, o3, g3⟩
  have HE : Hid (Row13 w L (.returned (.slice so L.length sc)) w3) := ⟨so, sc, rfl, own_base o3 (unhide HG0).size, grown_trans (unhide HG0) g3⟩
  clear o3 g3 c0 HTP
  go_wp2
  go_ret
  exact unhide HE

theorem giveRefine : ImplRefine := by
  rintro ao n cap zs w hr - vo vn vc ⟨cs, fr, to, hi, lo⟩ - - L HL
  have HG0 : Hid (w.grownBy (w.alloc (.cells #[.slice vo vn vc, .int .i64 fr, .int .i64 to, .int .i64 hi, .int .i64 lo] 26)) none) := World.grownBy_alloc _ _ _
  have hp := unhide HL
  unfold refineG at hp
  have e0 : ((if hi = 0 then 0 else 1) == (1 : Int)) = !decide (hi = 0) := by by_cases h : hi = 0 <;> simp [h]
  have HTP := hide (tellPass ao n cap zs _ (hr.grown (unhide HG0)) vo vn vc cs fr to hi lo 1 _ _ _ rfl rfl rfl L (fun h W => by
      rw [e0] at h
      dsimp only at hp
      rw [if_pos h] at hp
      simp only [Bool.and_eq_true, Bool.not_eq_true', decide_eq_false_iff_not] at h
      obtain ⟨⟨h1, h2⟩, h3⟩ := h
      rw [← hp]
      exact toldRefine zs h1 _ cs fr to hi lo h3 h2 W) (fun h => by
      rw [e0] at h
      dsimp only at hp
      rw [if_neg (by rw [h]; decide)] at hp
      exact hp.symm))
  unfold scV at HTP
  dsimp only at HTP ⊢
  have c0 := scanCells (heap_alloc_new w (.cells #[.slice vo vn vc, .int .i64 fr, .int .i64 to, .int .i64 hi, .int .i64 lo] 26))
  clear hr hp e0 HL
  go_enter Try.func16, Try.ntmps16
  go_wp2_with fail
  refine (unhide HTP).mono ?_
  rintro e w3 ⟨so, sc, rfl, o3, g3⟩
  have HE : Hid (Row13 w L (.returned (.slice so L.length sc)) w3) := ⟨so, sc, rfl, own_base o3 (unhide HG0).size, grown_trans (unhide HG0) g3⟩
  clear o3 g3 c0 HTP
  go_wp2
  go_ret
  exact unhide HE

end Go.Proofs.Ytfgglainjaplgaa

namespace Go.Proofs.Ytfgglainjaplgaa
open Go.RowKit

def fFirst (lo : Nat) (_x t : Int) : Option Int := if inLev t && inLev (t * 2 ^ lo) then some (t * 2 ^ lo) else none
def fRef (lo : Nat) (x t : Int) : Option Int := if refB lo x t then some (finer lo t x) else none
theorem step_first (lo : Nat) : stepO (fFirst lo) = stepF lo := by
  funext k n z
  unfold stepO fFirst stepF
  split <;> rfl
theorem step_ref (lo : Nat) : stepO (fRef lo) = stepR lo := by
  funext k n z
  unfold stepO fRef stepR refB
  split <;> rfl
theorem lev_of {n : Int} (h : inLev n = true) : -16383 ≤ n ∧ n ≤ 16383 := of_decide_eq_true h
theorem fFirst_lev (lo : Nat) : ∀ x t y : Int, fFirst lo x t = some y → -16383 ≤ y ∧ y ≤ 16383 := fun x t y h => by
  unfold fFirst at h
  split at h
  · rename_i hb
    rw [Bool.and_eq_true] at hb
    rw [← Option.some.inj h]
    exact lev_of hb.2
  · cases h
theorem fRef_lev (lo : Nat) : ∀ x t y : Int, fRef lo x t = some y → -16383 ≤ y ∧ y ≤ 16383 := fun x t y h => by
  unfold fRef at h
  split at h
  · rename_i hb
    unfold refB at hb
    rw [Bool.and_eq_true] at hb
    rw [← Option.some.inj h]
    exact lev_of hb.2
  · cases h

theorem withFirst (zs : List Int) (hz : levB (-16383) 16383 zs = true) (v0 : Value) (cs : List Int) (fr to lo : Int) (hp : passB ⟨cs, fr, to, 0, lo⟩ = true) (bo : Option Addr) (ln lc : Nat) (ls : List Int) (w : World) (hr : Rd .i64 w bo ln ls) (hln : ln ≤ 1048576) (R : Option (List Int)) (HR : Hid ((if (ln : Int) = to - fr + 1 then putT (stepF lo.toNat) fr.toNat ls (zigged zs) ln else none) = R)) :
    Calls Try.prog 55 #[.agg (sq zs), scV v0 ⟨cs, fr, to, 0, lo⟩, .slice bo ln lc] w fun e w' => (∃ ys, e = .returned (.tuple #[.agg (sq ys), .bool R.isSome]) ∧ ys.length = 64 ∧ (∀ z, R = some z → ys = unzigged z)) ∧ w.grownBy w' none := by
  obtain ⟨k0, k1, l0, rfl, rfl, rfl, h1, h2, h3, _⟩ := pass_in hp
  rw [Int.toNat_natCast, Int.toNat_natCast, ← step_first] at HR
  refine withTold zs (lev_at hz).1 (lev_zz hz) v0 cs k0 k1 0 l0 h1 h2 _ 0 75 (.agg #[.int .i64 l0]) (fFirst l0) (fun W => putTable W v0 cs k0 k1 0 l0) (fun W => kindOfPass W v0 ⟨cs, k0, k1, 0, l0⟩ 0 rfl) (fun w => by kernel_rfl)
    (enters_of Try.func75 (by kernel_rfl) rfl) (fFirst_lev l0) (fun x t hx W => (firstPut x t l0 h3 _ rfl W).mono ?_) bo ln lc ls w hr hln R HR
  rintro e W' ⟨y, ⟨rfl, hy⟩, g⟩
  unfold fFirst
  cases hb : (inLev t && inLev (t * 2 ^ l0)) with
  | false => exact ⟨y, ⟨rfl, fun h => by cases h⟩, g⟩
  | true => exact ⟨y, ⟨rfl, fun _ => by rw [hy hb]; rfl⟩, g⟩

theorem withRefine (zs : List Int) (hz : levB (-16383) 16383 zs = true) (v0 : Value) (cs : List Int) (fr to hi lo : Int) (h0 : hi ≠ 0) (hp : passB ⟨cs, fr, to, hi, lo⟩ = true) (bo : Option Addr) (ln lc : Nat) (ls : List Int) (w : World) (hr : Rd .i64 w bo ln ls) (hln : ln ≤ 1048576) (R : Option (List Int)) (HR : Hid ((if (ln : Int) = to - fr + 1 then putT (stepR lo.toNat) fr.toNat ls (zigged zs) ln else none) = R)) :
    Calls Try.prog 55 #[.agg (sq zs), scV v0 ⟨cs, fr, to, hi, lo⟩, .slice bo ln lc] w fun e w' => (∃ ys, e = .returned (.tuple #[.agg (sq ys), .bool R.isSome]) ∧ ys.length = 64 ∧ (∀ z, R = some z → ys = unzigged z)) ∧ w.grownBy w' none := by
  obtain ⟨k0, k1, l0, rfl, rfl, rfl, h1, h2, h3, h4⟩ := pass_in hp
  obtain rfl : hi = ((l0 + 1 : Nat) : Int) := by
    rcases h4 with h4 | h4
    · exact absurd h4 h0
    · exact h4
  rw [Int.toNat_natCast, Int.toNat_natCast, ← step_ref] at HR
  refine withTold zs (lev_at hz).1 (lev_zz hz) v0 cs k0 k1 _ l0 h1 h2 _ 1 76 (.agg #[.int .i64 ((l0 + 1 : Nat) : Int), .int .i64 l0]) (fRef l0) (fun W => putTable W v0 cs k0 k1 _ l0) (fun W => kindOfPass W v0 ⟨cs, k0, k1, _, l0⟩ 1 (if_neg h0)) (fun w => by kernel_rfl)
    (enters_of Try.func76 (by kernel_rfl) rfl) (fRef_lev l0) (fun x t hx W => (refPut x t (l0 + 1) l0 hx h3 _ rfl W).mono ?_) bo ln lc ls w hr hln R HR
  rintro e W' ⟨y, ⟨rfl, hy⟩, g⟩
  unfold fRef
  cases hb : refB l0 x t with
  | false => exact ⟨y, ⟨rfl, fun h => by cases h⟩, g⟩
  | true => exact ⟨y, ⟨rfl, fun _ => by rw [hy hb]; rfl⟩, g⟩

set_option maxRecDepth 20000 in
set_option maxHeartbeats 3200000 in
theorem putPass (ao : Option Addr) (n cap : Nat) (zs : List Int) (w : World) (hr : Rd .i64 w ao n zs) (vo : Option Addr) (vn vc : Nat) (cs : List Int) (fr to hi lo kind : Int) (bo : Option Addr) (ln lc : Nat) (ls : List Int) (hl : Rd .i64 w bo ln ls) (b1 b2 : Bool) (k : Int) (HB1 : Hid (levB (-16383) 16383 zs = b1)) (HB2 : Hid (passB ⟨cs, fr, to, hi, lo⟩ = b2)) (HK : Hid ((if hi = 0 then 0 else 1) = k)) (R : Option (List Int))
    (HY : Hid ((b1 && b2 && (k == kind)) = true → ∀ W, Rd .i64 W bo ln ls → Calls Try.prog 55 #[.agg (sq zs), scV (.slice vo vn vc) ⟨cs, fr, to, hi, lo⟩, .slice bo ln lc] W fun e w' => (∃ ys, e = .returned (.tuple #[.agg (sq ys), .bool R.isSome]) ∧ ys.length = 64 ∧ (∀ z, R = some z → ys = unzigged z)) ∧ W.grownBy w' none)) (L : List Int) (HL : Hid ((if (b1 && b2 && (k == kind)) = true then ofO R else []) = L)) :
    Calls Try.prog 41 #[.slice ao n cap, scV (.slice vo vn vc) ⟨cs, fr, to, hi, lo⟩, .slice bo ln lc, .int .i64 kind] w (Row13 w L) := by
  obtain ⟨t, HT⟩ : ∃ t, Hid ((b1 && b2 && (k == kind)) = t) := ⟨_, rfl⟩
  have HG0 : Hid (w.grownBy (w.alloc (.cells #[.slice vo vn vc, .int .i64 fr, .int .i64 to, .int .i64 hi, .int .i64 lo] 26)) none) := World.grownBy_alloc _ _ _
  have HB0 := hide (heap_alloc_new w (.cells #[.slice vo vn vc, .int .i64 fr, .int .i64 to, .int .i64 hi, .int .i64 lo] 26))
  have HFP := hide (forPass ao n cap zs _ (hr.grown (unhide HG0)) (.slice vo vn vc) cs fr to hi lo kind b1 b2 k HB1 HB2 HK t HT)
  have h64 : t = true → n = 64 ∧ zs.length = 64 := fun e => by
    have h := unhide HT
    rw [e] at h
    simp only [Bool.and_eq_true] at h
    have h2 := unhide HB1
    rw [h.1.1] at h2
    have h3 := (lev_at h2).1
    exact ⟨hr.1.symm.trans h3, h3⟩
  have H64 := hide h64
  have HLS := hide hl
  rw [unhide HT] at HY HL
  unfold scV at HFP HY ⊢
  dsimp only at HFP HY ⊢
  have c0 := scanCells (unhide HB0)
  clear hr hl h64 HB1 HB2 HK HT
  go_enter Try.func41, Try.ntmps41
  go_wp2_with fail
  refine (unhide HFP).mono ?_
  rintro e w1 ⟨⟨ys, rfl, hyl, hye⟩, g1⟩
  have HYS : Hid ((sq ys).size = 64) := by unfold Hid; rw [sq_size]; exact hyl
  have HYE := hide hye
  have HG1 := hide (grown_trans (unhide HG0) g1)
  have HB1 := hide (grown_atT g1 (unhide HB0) (by simp))
  have hs1 := (Array.getElem?_eq_some_iff.1 (unhide HB1)).1
  clear hyl hye g1 c0 HG0 HB0 HFP
  cases t with
  | false =>
    have HL0 : Hid (L = []) := (unhide HL).symm
    clear HY H64 HL
    go_wp2_with (refine store_row rfl 73 _ _ rfl w1.heap.size rfl (sq ys) rfl #[.int .i64 0, .int .i64 0, .int .i64 0, .int .i64 0, .int .i64 0, .int .i64 0, .int .i64 0, .int .i64 0, .int .i64 0, .int .i64 0, .int .i64 0, .int .i64 0, .int .i64 0, .int .i64 0, .int .i64 0, .int .i64 0, .int .i64 0, .int .i64 0, .int .i64 0, .int .i64 0, .int .i64 0, .int .i64 0, .int .i64 0, .int .i64 0, .int .i64 0, .int .i64 0, .int .i64 0, .int .i64 0, .int .i64 0, .int .i64 0, .int .i64 0, .int .i64 0, .int .i64 0, .int .i64 0, .int .i64 0, .int .i64 0, .int .i64 0, .int .i64 0, .int .i64 0, .int .i64 0, .int .i64 0, .int .i64 0, .int .i64 0, .int .i64 0, .int .i64 0, .int .i64 0, .int .i64 0, .int .i64 0, .int .i64 0, .int .i64 0, .int .i64 0, .int .i64 0, .int .i64 0, .int .i64 0, .int .i64 0, .int .i64 0, .int .i64 0, .int .i64 0, .int .i64 0, .int .i64 0, .int .i64 0, .int .i64 0, .int .i64 0, .int .i64 0] 73 (heap_alloc_new _ _) (by rw [unhide HYS]; rfl) (by rw [unhide HYS]; kernel_rfl) (sq_one _) ?_; intro w2 hB2 g2)
    have HE := hide (nil13 (show w.grownBy w2 none from grown_new (grown_alloc (unhide HG1) _) g2 (fun x e => by simp at e; omega)) (unhide HL0))
    clear hB2 g2
    go_ret
    exact unhide HE
  | true =>
    obtain ⟨e64, hz64⟩ := unhide H64 rfl
    obtain rfl : ys = zs := unhide HYE e64
    have HTL := hide (unhide HY rfl)
    have HL0 : Hid (ofO R = L) := unhide HL
    clear e64 hz64 HY HL H64 HYE
    go_wp2_with (first | (refine store_row rfl 73 _ _ rfl w1.heap.size rfl (sq ys) rfl #[.int .i64 0, .int .i64 0, .int .i64 0, .int .i64 0, .int .i64 0, .int .i64 0, .int .i64 0, .int .i64 0, .int .i64 0, .int .i64 0, .int .i64 0, .int .i64 0, .int .i64 0, .int .i64 0, .int .i64 0, .int .i64 0, .int .i64 0, .int .i64 0, .int .i64 0, .int .i64 0, .int .i64 0, .int .i64 0, .int .i64 0, .int .i64 0, .int .i64 0, .int .i64 0, .int .i64 0, .int .i64 0, .int .i64 0, .int .i64 0, .int .i64 0, .int .i64 0, .int .i64 0, .int .i64 0, .int .i64 0, .int .i64 0, .int .i64 0, .int .i64 0, .int .i64 0, .int .i64 0, .int .i64 0, .int .i64 0, .int .i64 0, .int .i64 0, .int .i64 0, .int .i64 0, .int .i64 0, .int .i64 0, .int .i64 0, .int .i64 0, .int .i64 0, .int .i64 0, .int .i64 0, .int .i64 0, .int .i64 0, .int .i64 0, .int .i64 0, .int .i64 0, .int .i64 0, .int .i64 0, .int .i64 0, .int .i64 0, .int .i64 0, .int .i64 0] 73 (heap_alloc_new _ _) (by rw [unhide HYS]; rfl) (by rw [unhide HYS]; kernel_rfl) (sq_one _) ?_; intro w2 hB2 g2; have HQ2 := hide hB2; have HB2 := hide (grown_atT g2 (grown_atT (World.grownBy_alloc _ _ none) (unhide HB1) (by simp)) (by simp; omega)); have HG2 : Hid (w.grownBy w2 none) := grown_new (grown_alloc (unhide HG1) _) g2 (fun x e => by simp at e; omega); have c0 := scanCells (unhide HB2); clear hB2 g2) | (refine load_row rfl 73 _ rfl w1.heap.size rfl (sq ys) 73 (unhide HQ2) _ Try.underlying73 rfl (by rw [unhide HYS]; kernel_rfl) ?_))
    refine (unhide HTL w2 ((unhide HLS).grown (unhide HG2))).mono ?_
    rintro e w3 ⟨⟨xs, rfl, hxl, hxe⟩, g3⟩
    have HXS : Hid ((sq xs).size = 64) := by unfold Hid; rw [sq_size]; exact hxl
    have HXL := hide hxl
    have HXE := hide hxe
    have HG3 := hide (grown_trans (unhide HG2) g3)
    have HQ3 := hide (grown_atT g3 (unhide HQ2) (by simp))
    clear hxl hxe g3 c0 HTL HG2 HQ2 HB2
    cases R with
    | none =>
      have HL1 : Hid (L = []) := (unhide HL0).symm
      go_wp2_with (refine store_row rfl 73 _ _ rfl w1.heap.size rfl (sq xs) rfl (sq ys) 73 (unhide HQ3) (by rw [unhide HXS, unhide HYS]) (by rw [unhide HXS]; kernel_rfl) (sq_one _) ?_; intro w4 hB4 g4)
      have HE := hide (nil13 (show w.grownBy w4 none from grown_new (unhide HG3) g4 (fun x e => by simp at e; omega)) (unhide HL1))
      clear hB4 g4
      go_ret
      exact unhide HE
    | some z =>
      have HL1 : Hid (xs = L) := (unhide HXE z rfl).trans (unhide HL0)
      have HLI := hide (list xs (unhide HXL))
      go_wp2_with (first | (refine store_row rfl 73 _ _ rfl w1.heap.size rfl (sq xs) rfl (sq ys) 73 (unhide HQ3) (by rw [unhide HXS, unhide HYS]) (by rw [unhide HXS]; kernel_rfl) (sq_one _) ?_; intro w4 hB4 g4; have HQ4 := hide hB4; have HG4 : Hid (w.grownBy w4 none) := grown_new (unhide HG3) g4 (fun x e => by simp at e; omega); clear hB4 g4) | (refine load_row rfl 73 _ rfl w1.heap.size rfl (sq xs) 73 (unhide HQ4) _ Try.underlying73 rfl (by rw [unhide HXS]; kernel_rfl) ?_))
      refine (unhide HLI w4).mono ?_
      rintro e w5 ⟨v, rfl, o5, g5⟩
      obtain ⟨so, sc, rfl⟩ := own_form o5
      have HE : Hid (Row13 w L (.returned (.slice so 64 sc)) w5) := by
        have hl := unhide HXL
        rw [unhide HL1] at o5 hl
        refine ⟨so, sc, by rw [hl], ?_, grown_trans (unhide HG4) g5⟩
        rw [hl]
        exact own_base o5 (unhide HG4).size
      clear o5 g5 HLI
      go_wp2
      go_ret
      exact unhide HE

theorem givePutF : ImplPutF := by
  rintro ao n cap zs w hr - vo vn vc ⟨cs, fr, to, hi, lo⟩ - - bo ln lc ls hl hln L HL
  have HG0 : Hid (w.grownBy (w.alloc (.cells #[.slice vo vn vc, .int .i64 fr, .int .i64 to, .int .i64 hi, .int .i64 lo] 26)) none) := World.grownBy_alloc _ _ _
  have hp := unhide HL
  unfold putFirstG at hp
  dsimp only at hp
  have e0 : ((if hi = 0 then 0 else 1) == (0 : Int)) = decide (hi = 0) := by by_cases h : hi = 0 <;> simp [h]
  have epl : placesOf ⟨cs, fr, to, hi, lo⟩ = (to - fr + 1).toNat := rfl
  rw [epl, hl.1] at hp
  have HPP := hide (putPass ao n cap zs _ (hr.grown (unhide HG0)) vo vn vc cs fr to hi lo 0 bo ln lc ls (hl.grown (unhide HG0)) _ _ _ rfl rfl rfl (if (ln : Int) = to - fr + 1 then putT (stepF lo.toNat) fr.toNat ls (zigged zs) ln else none) (fun h W hW => by
      rw [e0] at h
      simp only [Bool.and_eq_true, decide_eq_true_eq] at h
      obtain ⟨⟨h1, h2⟩, rfl⟩ := h
      exact withFirst zs h1 _ cs fr to lo h2 bo ln lc ls W hW hln _ rfl) L (by
      unfold Hid
      rw [e0, ← hp]
      by_cases h : (levB (-16383) 16383 zs && passB ⟨cs, fr, to, hi, lo⟩ && decide (hi = 0)) = true
      · rw [if_pos h, h, Bool.true_and]
        by_cases h2 : (ln : Int) = to - fr + 1
        · rw [if_pos h2, decide_eq_true h2, if_pos rfl]
          have em : (to - fr + 1).toNat = ln := by omega
          rw [em]
        · rw [if_neg h2, decide_eq_false h2, if_neg (by decide)]
          rfl
      · rw [if_neg h, Bool.eq_false_iff.2 h, Bool.false_and, if_neg (by decide)]))
  unfold scV at HPP
  dsimp only at HPP ⊢
  have c0 := scanCells (heap_alloc_new w (.cells #[.slice vo vn vc, .int .i64 fr, .int .i64 to, .int .i64 hi, .int .i64 lo] 26))
  clear hr hl hp e0 epl HL
  go_enter Try.func15, Try.ntmps15
  go_wp2_with fail
  refine (unhide HPP).mono ?_
  rintro e w3 ⟨so, sc, rfl, o3, g3⟩
  have HE : Hid (Row13 w L (.returned (.slice so L.length sc)) w3) := ⟨so, sc, rfl, own_base o3 (unhide HG0).size, grown_trans (unhide HG0) g3⟩
  clear o3 g3 c0 HPP
  go_wp2
  go_ret
  exact unhide HE

theorem givePutR : ImplPutR := by
  rintro ao n cap zs w hr - vo vn vc ⟨cs, fr, to, hi, lo⟩ - - bo ln lc ls hl hln L HL
  have HG0 : Hid (w.grownBy (w.alloc (.cells #[.slice vo vn vc, .int .i64 fr, .int .i64 to, .int .i64 hi, .int .i64 lo] 26)) none) := World.grownBy_alloc _ _ _
  have hp := unhide HL
  unfold putRefineG at hp
  dsimp only at hp
  have e0 : ((if hi = 0 then 0 else 1) == (1 : Int)) = !decide (hi = 0) := by by_cases h : hi = 0 <;> simp [h]
  have epl : placesOf ⟨cs, fr, to, hi, lo⟩ = (to - fr + 1).toNat := rfl
  rw [epl, hl.1] at hp
  have HPP := hide (putPass ao n cap zs _ (hr.grown (unhide HG0)) vo vn vc cs fr to hi lo 1 bo ln lc ls (hl.grown (unhide HG0)) _ _ _ rfl rfl rfl (if (ln : Int) = to - fr + 1 then putT (stepR lo.toNat) fr.toNat ls (zigged zs) ln else none) (fun h W hW => by
      rw [e0] at h
      simp only [Bool.and_eq_true, Bool.not_eq_true', decide_eq_false_iff_not] at h
      obtain ⟨⟨h1, h2⟩, h3⟩ := h
      exact withRefine zs h1 _ cs fr to hi lo h3 h2 bo ln lc ls W hW hln _ rfl) L (by
      unfold Hid
      rw [e0, ← hp]
      by_cases h : (levB (-16383) 16383 zs && passB ⟨cs, fr, to, hi, lo⟩ && !decide (hi = 0)) = true
      · rw [if_pos h, h, Bool.true_and]
        by_cases h2 : (ln : Int) = to - fr + 1
        · rw [if_pos h2, decide_eq_true h2, if_pos rfl]
          have em : (to - fr + 1).toNat = ln := by omega
          rw [em]
        · rw [if_neg h2, decide_eq_false h2, if_neg (by decide)]
          rfl
      · rw [if_neg h, Bool.eq_false_iff.2 h, Bool.false_and, if_neg (by decide)]))
  unfold scV at HPP
  dsimp only at HPP ⊢
  have c0 := scanCells (heap_alloc_new w (.cells #[.slice vo vn vc, .int .i64 fr, .int .i64 to, .int .i64 hi, .int .i64 lo] 26))
  clear hr hl hp e0 epl HL
  go_enter Try.func18, Try.ntmps18
  go_wp2_with fail
  refine (unhide HPP).mono ?_
  rintro e w3 ⟨so, sc, rfl, o3, g3⟩
  have HE : Hid (Row13 w L (.returned (.slice so L.length sc)) w3) := ⟨so, sc, rfl, own_base o3 (unhide HG0).size, grown_trans (unhide HG0) g3⟩
  clear o3 g3 c0 HPP
  go_wp2
  go_ret
  exact unhide HE

end Go.Proofs.Ytfgglainjaplgaa
