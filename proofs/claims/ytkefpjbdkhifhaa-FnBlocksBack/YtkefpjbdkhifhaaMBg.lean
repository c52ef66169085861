/-
  PadSpec, Cur, CurOnce, CurOdd, AppRdI, CodeDraw, SampDraw, SampDraw2, LawAid, SameInts, IntSSD, DeepI2, SameDeep0, LawBlocksBack.
-/
import Derived.Test.YtkefpjbdkhifhaaRows
import Derived.Deep.QuietTactic
import Derived.BigQuiet
import Derived.Outline
import Derived.Deep.AppendLies
import Derived.Laws.AppendOwnNone
import Derived.Maps.AppendAt
import Derived.Deep.RegionHeld3
import Derived.Test.YtkefpjbdkhifhaaMBf

namespace Go.Proofs.Ytkefpjbdkhifhaa
open Go.RowKit

theorem specLeast (a b u : Int) (HU : Hid ((if a < b then a else b) = u)) (W : World) :
    Calls Try.prog 66 #[.int .i64 a, .int .i64 b] W fun e W' => e = .returned (.int .i64 u) ∧ W' = W := by
  by_cases h : a < b
  · obtain rfl : u = a := by rw [← unhide HU, if_pos h]
    have d : decide (u < b) = true := decide_eq_true h
    go_enter Try.func66, Try.ntmps66
    go_wp2
    go_ret
    exact ⟨rfl, rfl⟩
  · obtain rfl : u = b := by rw [← unhide HU, if_neg h]
    have d : decide (a < u) = false := decide_eq_false h
    go_enter Try.func66, Try.ntmps66
    go_wp2
    go_ret
    exact ⟨rfl, rfl⟩

set_option maxRecDepth 20000 in
set_option maxHeartbeats 3200000 in
theorem specPad (ao : Option Addr) (n cap : Nat) (zs : List Int) (w h nw nh : Int) (W : World) (hr : Rd .i64 W ao n zs) (hn : n ≤ 9223372036854775807) (L : List Int) (HL : Hid (padG zs w h nw nh = L)) :
    Calls Try.prog 28 #[.slice ao n cap, .int .i64 w, .int .i64 h, .int .i64 nw, .int .i64 nh] W fun e W' => ∃ so sc, e = .returned (.slice so L.length sc) ∧ W'.ownsRow W.heap.size 3 1 (.slice so L.length sc) L.length (L.map (Value.int .i64)) ∧ W.grownBy W' none := by
  have HO : Hid ((W.alloc (.cells #[] 3)).ownsRow W.heap.size 3 1 (.slice (some ⟨W.heap.size, 0, none⟩) 0 0) 0 []) := World.ownsRow_lit W #[] 0 (Nat.le_refl _) (by unfold maxLen; omega) rfl
  have HR0 := hide hr
  have HR := hide (hr.grown (World.grownBy_alloc W (.cells #[] 3) none))
  have HN := hide hr.1
  clear hr
  obtain ⟨pb, HP⟩ : ∃ y, Hid (planeB zs w h = y) := ⟨_, rfl⟩
  go_enter Try.func28, Try.ntmps28
  go_wp2_with fail
  refine (specPlaneOk ao n cap zs w h _ (unhide HR) hn pb HP).mono ?_
  rintro e w1 ⟨rfl, g1⟩
  have HGW : Hid (W.grownBy w1 none) := grown_trans (World.grownBy_alloc _ _ _) g1
  have HOWN := hide (own_grown (unhide HO) g1)
  clear g1 HO HR
  cases pb with
  | false =>
    obtain rfl : L = [] := by rw [← unhide HL, padG, unhide HP]; rfl
    go_wp2
    go_ret
    exact ⟨_, _, rfl, unhide HOWN, unhide HGW⟩
  | true =>
    have hpl := plane_of (unhide HP)
    obtain ⟨t1, HT1⟩ : ∃ y, Hid (sidesB nw nh = y) := ⟨_, rfl⟩
    have HLP := hide hpl
    clear hpl
    go_wp2_with fail
    refine (specSides nw nh t1 HT1 w1).mono ?_
    rintro e w1 ⟨rfl, rfl⟩
    by_cases h1 : ¬ t1 = true
    · obtain rfl : t1 = false := by simpa using h1
      obtain rfl : L = [] := by rw [← unhide HL, padG, unhide HT1]; simp
      go_wp2
      go_ret
      exact ⟨_, _, rfl, unhide HOWN, unhide HGW⟩
    obtain rfl : t1 = true := by simpa using h1
    by_cases c1 : nw < w
    · obtain rfl : L = [] := by rw [← unhide HL, padG, decide_eq_false (by omega : ¬ w ≤ nw)]; simp
      have d1 : decide (nw < w) = true := decide_eq_true c1
      go_wp2
      go_ret
      exact ⟨_, _, rfl, unhide HOWN, unhide HGW⟩
    have d1 : decide (nw < w) = false := decide_eq_false c1
    by_cases c2 : nh < h
    · obtain rfl : L = [] := by rw [← unhide HL, padG, decide_eq_false (by omega : ¬ h ≤ nh)]; simp
      have d2 : decide (nh < h) = true := decide_eq_true c2
      go_wp2
      go_ret
      exact ⟨_, _, rfl, unhide HOWN, unhide HGW⟩
    have d2 : decide (nh < h) = false := decide_eq_false c2
    have HT2 : Hid (decide (w ≤ nw) = true) := decide_eq_true (by omega)
    have HT3 : Hid (decide (h ≤ nh) = true) := decide_eq_true (by omega)
    have hpl := unhide HLP
    obtain ⟨b1, b2, b3⟩ := sides_of (unhide HT1)
    clear h1 HLP
    have hbd : nw.toNat * nh.toNat ≤ 131072 := by
      have h3 : ((nw.toNat * nh.toNat : Nat) : Int) = nw * nh := by push_cast; rw [Int.toNat_of_nonneg (by omega), Int.toNat_of_nonneg (by omega)]
      omega
    obtain ⟨wN, rfl⟩ : ∃ k : Nat, w = (k : Int) := ⟨w.toNat, by omega⟩
    obtain ⟨hN, rfl⟩ : ∃ k : Nat, h = (k : Int) := ⟨h.toNat, by omega⟩
    obtain ⟨nwN, rfl⟩ : ∃ k : Nat, nw = (k : Int) := ⟨nw.toNat, by omega⟩
    obtain ⟨nhN, rfl⟩ : ∃ k : Nat, nh = (k : Int) := ⟨nh.toNat, by omega⟩
    have d3 : decide (nwN < wN) = false := decide_eq_false (by omega)
    have d4 : decide (nhN < hN) = false := decide_eq_false (by omega)
    clear c1 c2
    have HLG : Hid (padL zs wN hN nwN nhN = L) := by
      unfold Hid
      rw [← unhide HL, padG, unhide HP, unhide HT1, unhide HT2, unhide HT3]
      rfl
    have hlen : zs.length = wN * hN := by have := hpl.2.2.1; exact_mod_cast this
    have HLL : Hid (L.length = nwN * nhN) := by unfold Hid; rw [← unhide HLG]; exact gridL_len _ _ _
    simp only [Int.toNat_natCast] at hbd
    have HBD := hide hbd
    have hb1 : wN ≤ 1024 ∧ hN ≤ 1024 ∧ nwN ≤ 1024 ∧ nhN ≤ 1024 ∧ 1 ≤ wN ∧ 1 ≤ hN ∧ 1 ≤ nwN ∧ 1 ≤ nhN := by omega
    have HLEN := hide hlen
    have HRW := hide ((unhide HR0).grown (unhide HGW))
    have HRA : Hid (Rd .i64 W ao n zs) := HR0
    clear hpl hlen hbd HP HL HRW
    go_wp2
    go_loopw [11, 12] (fun ov yv wr => ∃ (y c : Nat), y ≤ nhN ∧ yv = .int .i64 y ∧ Hid (y * nwN = c) ∧ Hid (wr.ownsRow W.heap.size 3 1 ov c ((L.take c).map (Value.int .i64))) ∧ Hid (W.grownBy wr none)) (fun _ yv _ => nhN - (intOf yv).toNat)
    case atStart => exact ⟨0, 0, by omega, by go_num, by simp [Hid], HOWN, HGW⟩
    case round =>
      clear HOWN HGW
      obtain ⟨y, c0, hy, rfl, HC0, HOV, HGV⟩ := hrel
      by_cases hyl : y < nhN
      · have hyI : (y : Int) < (nhN : Int) := by omega
        have y1 := i64_in ((y : Int) + 1) (by omega)
        go_wp2
        go_loopw [11, 13] (fun ov xv wr => ∃ (x c : Nat), x ≤ nwN ∧ xv = .int .i64 x ∧ Hid (y * nwN + x = c) ∧ Hid (wr.ownsRow W.heap.size 3 1 ov c ((L.take c).map (Value.int .i64))) ∧ Hid (W.grownBy wr none)) (fun _ xv _ => nwN - (intOf xv).toNat)
        case atStart => exact ⟨0, c0, by omega, by go_num, HC0, HOV, HGV⟩
        case round =>
          clear HOV HGV HC0
          obtain ⟨x, c, hx, rfl, HC, HOV, HGV⟩ := hrel
          by_cases hxl : x < nwN
          · have hxI : (x : Int) < (nwN : Int) := by omega
            have x1 := i64_in ((x : Int) + 1) (by omega)
            have hcl : c < nwN * nhN := by
              rw [← unhide HC]
              have : (y + 1) * nwN ≤ nhN * nwN := Nat.mul_le_mul_right _ hyl
              rw [Nat.add_mul, Nat.one_mul] at this
              rw [Nat.mul_comm nwN nhN]
              omega
            have hcb : c + 1 ≤ 1000000 := by have := unhide HBD; omega
            obtain ⟨h1, HH1⟩ : ∃ a : Nat, Hid (hN - 1 = a) := ⟨_, rfl⟩
            obtain ⟨w1', HW1⟩ : ∃ a : Nat, Hid (wN - 1 = a) := ⟨_, rfl⟩
            obtain ⟨m1, HM1⟩ : ∃ a : Nat, Hid (min y h1 = a) := ⟨_, rfl⟩
            obtain ⟨m2, HM2⟩ : ∃ a : Nat, Hid (min x w1' = a) := ⟨_, rfl⟩
            have k0 : IntKind.i64.wrap ((hN : Int) - 1) = (h1 : Int) := by have := unhide HH1; rw [i64_in _ (by omega)]; omega
            have k3 : IntKind.i64.wrap ((wN : Int) - 1) = (w1' : Int) := by have := unhide HW1; rw [i64_in _ (by omega)]; omega
            have HU1 : Hid ((if (y : Int) < (h1 : Int) then (y : Int) else (h1 : Int)) = (m1 : Int)) := by have := unhide HM1; unfold Hid; split <;> omega
            have HU2 : Hid ((if (x : Int) < (w1' : Int) then (x : Int) else (w1' : Int)) = (m2 : Int)) := by have := unhide HM2; unfold Hid; split <;> omega
            have hm1 : m1 < hN := by have := unhide HM1; have := unhide HH1; omega
            have hm2 : m2 < wN := by have := unhide HM2; have := unhide HW1; omega
            obtain ⟨a1, HA1⟩ : ∃ a : Nat, Hid (m1 * wN = a) := ⟨_, rfl⟩
            have hya : m1 * wN + wN ≤ hN * wN := by
              have : (m1 + 1) * wN ≤ hN * wN := Nat.mul_le_mul_right _ (by omega)
              rw [Nat.add_mul, Nat.one_mul] at this
              exact this
            have hwh : hN * wN ≤ 1048576 := Nat.mul_le_mul (by omega : hN ≤ 1024) (by omega : wN ≤ 1024)
            rw [unhide HA1] at hya
            obtain ⟨ix, HIXE⟩ : ∃ i : Nat, Hid (a1 + m2 = i) := ⟨_, rfl⟩
            have k1 : IntKind.i64.wrap ((m1 : Int) * (wN : Int)) = (a1 : Int) := by
              have e : (m1 : Int) * (wN : Int) = (a1 : Int) := by have := unhide HA1; exact_mod_cast this
              rw [e, i64_in _ (by omega)]
            have k2 : IntKind.i64.wrap ((a1 : Int) + (m2 : Int)) = (ix : Int) := by
              have := unhide HIXE
              rw [i64_in _ (by omega)]
              omega
            have hixl : ix < n := by
              have h1 := unhide HN
              have h2 := unhide HLEN
              have h3 : ix < wN * hN := by have := unhide HIXE; rw [Nat.mul_comm wN hN]; omega
              omega
            obtain ⟨bb, off, HAO, hc⟩ : ∃ bb off, Hid (ao = some ⟨bb, off, none⟩) ∧ W.cell? ⟨bb, off + ix, none⟩ = some (.int .i64 (zs.getD ix 0)) := by
              obtain ⟨bb, off, e, hc⟩ := (unhide HRA).2 ix hixl
              exact ⟨bb, off, e, hc⟩
            have hbb : W.heap.size ≠ bb := by
              have := (unhide HRA).lt (by omega) bb off (unhide HAO)
              omega
            have hcell := (unhide HGV).cell hc (by simp)
            obtain ⟨z, HZ⟩ : ∃ z, Hid (zs.getD ix 0 = z) := ⟨_, rfl⟩
            have HNX : Hid (L.take c ++ [z] = L.take (c + 1)) := by
              unfold Hid
              rw [← unhide HLG]
              have h1 : c / nwN = y := by rw [← unhide HC, Nat.add_comm, Nat.add_mul_div_right _ _ (by omega), Nat.div_eq_of_lt hxl, Nat.zero_add]
              have h2 : c % nwN = x := by rw [← unhide HC, Nat.add_comm, Nat.add_mul_mod_self_right, Nat.mod_eq_of_lt hxl]
              unfold padL
              rw [gridL_take _ _ _ c hcl, h1, h2, ← unhide HZ, unhide HH1, unhide HW1, unhide HM1, unhide HM2, ← unhide HIXE, ← unhide HA1]
            rw [unhide HZ] at hcell
            have hixI : (ix : Int) < (n : Int) := by omega
            have HIX : Hid (ix < n) := hixl
            clear hc hcl hixl
            rw [unhide HAO]
            go_wp2_with fail
            refine (specLeast y h1 m1 HU1 wr).mono ?_
            rintro e wr ⟨rfl, rfl⟩
            go_wp2_with fail
            refine (specLeast x w1' m2 HU2 wr).mono ?_
            rintro e wr ⟨rfl, rfl⟩
            go_wp2_with ((at_builtin; refine append_i16 rfl _ _ rfl W _ c (L.take c) rfl (unhide HOV) z rfl hcb (unhide HGV) ?_; intro v' w' ho hg))
            have HO' := hide ho
            rw [unhide HNX] at HO'
            have HG' := hide hg
            clear ho hg
            go_roundw
            case rel => exact ⟨x + 1, c + 1, by omega, by go_num, by unfold Hid; rw [← unhide HC]; omega, HO', HG'⟩
            case measure => simp [intOf]; omega
          · obtain rfl : x = nwN := by omega
            have hxd : decide ((x : Int) < (x : Int)) = false := decide_eq_false (by omega)
            have HC' : Hid ((y + 1) * x = c) := by unfold Hid; rw [← unhide HC, Nat.add_mul, Nat.one_mul]
            go_wp2
            go_roundw
            case rel => exact ⟨y + 1, c, by omega, by go_num, HC', HOV, HGV⟩
            case measure => simp [intOf]; omega
      · obtain rfl : y = nhN := by omega
        have hyd : decide ((y : Int) < (y : Int)) = false := decide_eq_false (by omega)
        have HCL : Hid (c0 = L.length) := by unfold Hid; rw [unhide HLL, ← unhide HC0, Nat.mul_comm]
        rw [unhide HCL, List.take_length] at HOV
        obtain ⟨so, sc, rfl⟩ := own_form (unhide HOV)
        go_wp2
        go_ret
        exact ⟨_, _, rfl, unhide HOV, unhide HGV⟩
end Go.Proofs.Ytkefpjbdkhifhaa

namespace Go.Proofs.Ytkefpjbdkhifhaa
open Go.RowKit

/-- The cursor, as it lies in memory. -/
def Cu (w : World) (tb : Nat) (ao : Option Addr) (n cap p s : Nat) : Prop := w.heap[tb]? = some (.cells #[.slice ao n cap, .int .i64 p, .int .i64 s] 83 (0, 0))

section
variable {w : World} {tb : Nat} {ao : Option Addr} {n cap p s : Nat}
theorem Cu.c0 (h : Cu w tb ao n cap p s) : w.cell? ⟨tb, 0, none⟩ = some (.slice ao n cap) := by rw [cell_of_row w tb 0 _ _ (0, 0) h]; rfl
theorem Cu.c1 (h : Cu w tb ao n cap p s) : w.cell? ⟨tb, 1, none⟩ = some (.int .i64 p) := by rw [cell_of_row w tb 1 _ _ (0, 0) h]; rfl
theorem Cu.c2 (h : Cu w tb ao n cap p s) : w.cell? ⟨tb, 2, none⟩ = some (.int .i64 s) := by rw [cell_of_row w tb 2 _ _ (0, 0) h]; rfl
theorem Cu.fz (h : Cu w tb ao n cap p s) (j : Nat) : w.frozen? ⟨tb, j, none⟩ = false := frozen_of_row w tb j _ _ h
theorem Cu.lt (h : Cu w tb ao n cap p s) : tb < w.heap.size := by obtain ⟨h, _⟩ := Array.getElem?_eq_some_iff.1 h; exact h
theorem Cu.at (h : Cu w tb ao n cap p s) (q : Nat) : Cu (w.setCell ⟨tb, 1, none⟩ (.int .i64 q)) tb ao n cap q s := heap_setCell_same w tb 1 _ _ _ h
theorem Cu.seed (h : Cu w tb ao n cap p s) (q : Nat) : Cu (w.setCell ⟨tb, 2, none⟩ (.int .i64 q)) tb ao n cap p q := heap_setCell_same w tb 2 _ _ _ h
theorem Cu.grown {w' : World} (h : Cu w tb ao n cap p s) (hg : w.grownBy w' none) : Cu w' tb ao n cap p s := (hg.block tb h.lt (by simp)).trans h
theorem Cu.beside {w' : World} {row : Option Nat} (h : Cu w tb ao n cap p s) (hg : w.grownBy w' row) (hne : row ≠ some tb) : Cu w' tb ao n cap p s := (hg.block tb h.lt (fun e => hne e.symm)).trans h
end
/-- What a pick leaves. -/
def Picked (w : World) (tb : Nat) (ao : Option Addr) (n cap p : Nat) (k : Int) (e : Ending) (w' : World) : Prop :=
  ∃ (x : Int) (p' s' : Nat), e = .returned (.int .i64 x) ∧ 0 ≤ x ∧ x < k ∧ Cu w' tb ao n cap p' s' ∧ p' ≤ p + 2 ∧ s' < 65521 ∧ w.grownBy w' (some tb)

theorem picked_of {w w' : World} {tb : Nat} {ao : Option Addr} {n cap p p' s' : Nat} {k y : Int} {v : Value} (hv : v = .int .i64 (y % k)) (hk : 2 ≤ k) (hc : Cu w' tb ao n cap p' s') (hp : p' ≤ p + 2) (hs : s' < 65521) (hg : w.grownBy w' (some tb)) :
    Picked w tb ao n cap p k (.returned v) w' :=
  ⟨y % k, p', s', by rw [hv], Int.emod_nonneg _ (by omega), Int.emod_lt_of_pos _ (by omega), hc, hp, hs, hg⟩

set_option maxHeartbeats 1600000 in
theorem curPick_in (tb : Nat) (ao : Option Addr) (n cap p s : Nat) (k : Int) (zs : List Int) (w : World) (ht : Cu w tb ao n cap p s) (hr : Rd .u8 w ao n zs) (hne : 0 < n → ∀ b off, ao = some ⟨b, off, none⟩ → b ≠ tb)
    (hb : ∀ i, 0 ≤ zs.getD i 0 ∧ zs.getD i 0 ≤ 255) (hn : n ≤ 1048576) (hs : s < 65521) (hk : 2 ≤ k) (hk2 : k ≤ 256) (hpn : p < n) :
    Calls Try.prog 52 #[.pointer (some ⟨tb, 0, none⟩), .int .i64 k] w (Picked w tb ao n cap p k) := by
  obtain ⟨hl, hc⟩ := hr
  obtain ⟨b, off, rfl, hcb⟩ := hc p hpn
  have hbt : ¬ b = tb := hne (by omega) b off rfl
  have hbb := hb p
  have c0 := ht.c0
  have c1 := ht.c1
  have f1 := ht.fz 1
  clear hc hb hne
  generalize zs.getD p 0 = x at hcb hbb
  obtain ⟨hx0, hx1⟩ := hbb
  have hlt2 : decide (k < 2) = false := by simp; omega
  have hgt : decide (256 < k) = false := by simp; omega
  have hik : (p : Int) < (n : Int) := by omega
  go_enter Try.func52, Try.ntmps52
  go_wp2
  go_quiet (fail)
  go_wp2
  go_quiet (fail)
  go_wp2
  go_quiet (fail)
  go_wp2
  go_ret
  exact picked_of (y := x) rfl hk (Cu.at (w := w.drewN _) ht (p + 1)) (by omega) hs (grown_set' _ _ _ _ _)

set_option maxHeartbeats 1600000 in
theorem curPick_in3 (tb : Nat) (ao : Option Addr) (n cap p s : Nat) (k : Int) (zs : List Int) (w : World) (ht : Cu w tb ao n cap p s) (hr : Rd .u8 w ao n zs) (hne : 0 < n → ∀ b off, ao = some ⟨b, off, none⟩ → b ≠ tb)
    (hb : ∀ i, 0 ≤ zs.getD i 0 ∧ zs.getD i 0 ≤ 255) (hn : n ≤ 1048576) (hs : s < 65521) (hk : 2 ≤ k) (hk2 : 256 < k) (hk3 : k ≤ 2147483648) (hpn : p < n) (hp1 : n ≤ p + 1) :
    Calls Try.prog 52 #[.pointer (some ⟨tb, 0, none⟩), .int .i64 k] w (Picked w tb ao n cap p k) := by
  obtain ⟨hl, hc⟩ := hr
  obtain ⟨b, off, rfl, hcb⟩ := hc p hpn
  have hbt : ¬ b = tb := hne (by omega) b off rfl
  have hbb := hb p
  have c0 := ht.c0
  have c1 := ht.c1
  have f1 := ht.fz 1
  clear hc hb hne
  generalize zs.getD p 0 = x at hcb hbb
  obtain ⟨hx0, hx1⟩ := hbb
  have hlt2 : decide (k < 2) = false := by simp; omega
  have hgt : decide (256 < k) = true := by simp; omega
  have hge : decide ((p : Int) + 1 < (n : Int)) = false := by simp; omega
  have hik : (p : Int) < (n : Int) := by omega
  go_enter Try.func52, Try.ntmps52
  go_wp2
  go_quiet (fail)
  go_wp2
  go_quiet (fail)
  go_wp2
  go_quiet (fail)
  go_wp2
  go_ret
  exact picked_of (y := x) rfl hk (Cu.at (w := w.drewN _) ht (p + 1)) (by omega) hs (grown_set' _ _ _ _ _)

set_option maxHeartbeats 1600000 in
theorem curPick_in2 (tb : Nat) (ao : Option Addr) (n cap p s : Nat) (k : Int) (zs : List Int) (w : World) (ht : Cu w tb ao n cap p s) (hr : Rd .u8 w ao n zs) (hne : 0 < n → ∀ b off, ao = some ⟨b, off, none⟩ → b ≠ tb)
    (hb : ∀ i, 0 ≤ zs.getD i 0 ∧ zs.getD i 0 ≤ 255) (hn : n ≤ 1048576) (hs : s < 65521) (hk : 2 ≤ k) (hk2 : 256 < k) (hk3 : k ≤ 2147483648) (hp1 : p + 1 < n) :
    Calls Try.prog 52 #[.pointer (some ⟨tb, 0, none⟩), .int .i64 k] w (Picked w tb ao n cap p k) := by
  obtain ⟨hl, hc⟩ := hr
  obtain ⟨b, off, rfl, hcb⟩ := hc p (by omega)
  obtain ⟨b', off', hao, hcb'⟩ := hc (p + 1) hp1
  simp at hao
  obtain ⟨rfl, rfl⟩ := hao
  have hbb' := hb (p + 1)
  have hbt : ¬ b = tb := hne (by omega) b off rfl
  have hbb := hb p
  have c0 := ht.c0
  have c1 := ht.c1
  have f1 := ht.fz 1
  clear hc hb hne
  generalize zs.getD (p + 1) 0 = x' at hcb' hbb'
  obtain ⟨hx0', hx1'⟩ := hbb'
  generalize zs.getD p 0 = x at hcb hbb
  obtain ⟨hx0, hx1⟩ := hbb
  have hlt2 : decide (k < 2) = false := by simp; omega
  have hgt : decide (256 < k) = true := by simp; omega
  have hge : decide ((p : Int) + 1 < (n : Int)) = true := by simp; omega
  have hik1 : (p : Int) + 1 < (n : Int) := by omega
  have hik : (p : Int) < (n : Int) := by omega
  go_enter Try.func52, Try.ntmps52
  go_wp2
  go_quiet (fail)
  go_wp2
  go_quiet (fail)
  go_wp2
  go_quiet (fail)
  go_wp2
  go_quiet (fail)
  go_wp2
  go_ret
  exact picked_of (y := 256 * x + x') rfl hk (Cu.at (w := World.drewN (World.setCell (w.drewN _) _ _) _) (Cu.at (w := w.drewN _) ht (p + 1)) (p + 1 + 1)) (by omega) hs (grown_trans (grown_set' _ _ _ _ _) (grown_set' _ _ _ _ _))

set_option maxHeartbeats 1600000 in
theorem curPick_none (tb : Nat) (ao : Option Addr) (cap p s : Nat) (k : Int) (w : World) (ht : Cu w tb ao 0 cap p s) (hp : p ≤ 1000000000000) (hs : s < 65521) (hk : 2 ≤ k) (hk3 : k ≤ 2147483648) :
    Calls Try.prog 52 #[.pointer (some ⟨tb, 0, none⟩), .int .i64 k] w (Picked w tb ao 0 cap p k) := by
  have c0 := ht.c0
  have c1 := ht.c1
  have c2 := ht.c2
  have f1 := ht.fz 1
  have f2 := ht.fz 2
  have hlt2 : decide (k < 2) = false := by simp; omega
  have hpn : decide ((p : Int) < 0) = false := by simp
  go_enter Try.func52, Try.ntmps52
  go_wp2
  go_quiet (fail)
  go_wp2
  go_ret
  have e : ((s : Int) * 1103 + 12345) % 65521 = (((s * 1103 + 12345) % 65521 : Nat) : Int) := by omega
  rw [e]
  exact picked_of (y := (((s * 1103 + 12345) % 65521 : Nat) : Int) / 3) (by rw [← e]; rfl) hk (Cu.at (Cu.seed (w := w.drewN _) ht ((s * 1103 + 12345) % 65521)) (p + 1)) (by omega) (Nat.mod_lt _ (by omega)) (grown_trans (grown_set' _ _ _ _ _) (grown_set _ _ _ _))

set_option maxHeartbeats 1600000 in
theorem curPick_out (tb : Nat) (ao : Option Addr) (n cap p s : Nat) (k : Int) (zs : List Int) (w : World) (ht : Cu w tb ao n cap p s) (hr : Rd .u8 w ao n zs) (hne : 0 < n → ∀ b off, ao = some ⟨b, off, none⟩ → b ≠ tb)
    (hb : ∀ i, 0 ≤ zs.getD i 0 ∧ zs.getD i 0 ≤ 255) (hn : n ≤ 1048576) (hp : p ≤ 1000000000000) (hs : s < 65521) (hk : 2 ≤ k) (hk3 : k ≤ 2147483648) (hn0 : 0 < n) (hpn : n ≤ p) :
    Calls Try.prog 52 #[.pointer (some ⟨tb, 0, none⟩), .int .i64 k] w (Picked w tb ao n cap p k) := by
  obtain ⟨hl, hc⟩ := hr
  have hm : p % n < n := Nat.mod_lt _ hn0
  obtain ⟨b, off, rfl, hcb⟩ := hc (p % n) hm
  have hbt : ¬ b = tb := hne (by omega) b off rfl
  have hbb := hb (p % n)
  have c0 := ht.c0
  have c1 := ht.c1
  have c2 := ht.c2
  have f1 := ht.fz 1
  have f2 := ht.fz 2
  clear hc hb hne
  generalize zs.getD (p % n) 0 = x at hcb hbb
  obtain ⟨hx0, hx1⟩ := hbb
  have hlt2 : decide (k < 2) = false := by simp; omega
  have hge : decide ((p : Int) < (n : Int)) = false := by simp; omega
  have hpos : decide ((0 : Int) < (n : Int)) = true := by simp; omega
  have hmi : ((p : Int) % (n : Int)) < (n : Int) := Int.emod_lt_of_pos _ (by omega)
  have hmi0 : 0 ≤ ((p : Int) % (n : Int)) := Int.emod_nonneg _ (by omega)
  go_enter Try.func52, Try.ntmps52
  go_wp2
  go_quiet (fail)
  go_wp2
  go_quiet (fail)
  go_wp2
  go_ret
  have e : ((s : Int) * 1103 + 12345) % 65521 = (((s * 1103 + 12345) % 65521 : Nat) : Int) := by omega
  rw [e]
  exact picked_of (y := (((s * 1103 + 12345) % 65521 : Nat) : Int) / 3 + x) (by rw [← e]; rfl) hk (Cu.at (w := World.drewN (World.setCell (w.drewN _) _ _) _) (Cu.seed (w := w.drewN _) ht ((s * 1103 + 12345) % 65521)) (p + 1)) (by omega) (Nat.mod_lt _ (by omega)) (grown_trans (grown_set' _ _ _ _ _) (grown_set' _ _ _ _ _))

/-- A pick of two or more. -/
theorem curPick (tb : Nat) (ao : Option Addr) (n cap p s : Nat) (k : Int) (zs : List Int) (w : World) (ht : Cu w tb ao n cap p s) (hr : Rd .u8 w ao n zs) (hne : 0 < n → ∀ b off, ao = some ⟨b, off, none⟩ → b ≠ tb)
    (hb : ∀ i, 0 ≤ zs.getD i 0 ∧ zs.getD i 0 ≤ 255) (hn : n ≤ 1048576) (hp : p ≤ 1000000000000) (hs : s < 65521) (hk : 2 ≤ k) (hk3 : k ≤ 2147483648) :
    Calls Try.prog 52 #[.pointer (some ⟨tb, 0, none⟩), .int .i64 k] w (Picked w tb ao n cap p k) := by
  by_cases hpn : p < n
  · by_cases hk2 : k ≤ 256
    · exact curPick_in tb ao n cap p s k zs w ht hr hne hb hn hs hk hk2 hpn
    · by_cases hp1 : p + 1 < n
      · exact curPick_in2 tb ao n cap p s k zs w ht hr hne hb hn hs hk (by omega) hk3 hp1
      · exact curPick_in3 tb ao n cap p s k zs w ht hr hne hb hn hs hk (by omega) hk3 hpn (by omega)
  · by_cases hn0 : 0 < n
    · exact curPick_out tb ao n cap p s k zs w ht hr hne hb hn hp hs hk hk3 hn0 (by omega)
    · obtain rfl : n = 0 := by omega
      exact curPick_none tb ao cap p s k w ht hp hs hk hk3

/-- All that a call with a cursor wants of it, told in one. -/
structure Cur (w : World) (tb : Nat) (ao : Option Addr) (n cap : Nat) (zs : List Int) (p : Nat) : Prop where
  cu : ∃ s, Cu w tb ao n cap p s ∧ s < 65521
  rd : Rd .u8 w ao n zs
  ne : 0 < n → ∀ b off, ao = some ⟨b, off, none⟩ → b ≠ tb
  byte : ∀ i, 0 ≤ zs.getD i 0 ∧ zs.getD i 0 ≤ 255
  len : n ≤ 1048576

theorem Cur.lt {w : World} {tb : Nat} {ao : Option Addr} {n cap p : Nat} {zs : List Int} (h : Cur w tb ao n cap zs p) : tb < w.heap.size := by obtain ⟨s, h, _⟩ := h.cu; exact h.lt
theorem Cur.grown {w w' : World} {tb : Nat} {ao : Option Addr} {n cap p : Nat} {zs : List Int} (h : Cur w tb ao n cap zs p) (hg : w.grownBy w' none) : Cur w' tb ao n cap zs p :=
  ⟨by obtain ⟨s, h1, h2⟩ := h.cu; exact ⟨s, h1.grown hg, h2⟩, h.rd.grown hg, h.ne, h.byte, h.len⟩
/-- A row that is written, neither the cursor nor its code. -/
theorem Cur.beside {w w' : World} {tb : Nat} {ao : Option Addr} {n cap p : Nat} {zs : List Int} {row : Option Nat} (h : Cur w tb ao n cap zs p) (hg : w.grownBy w' row) (hrow : ∀ g, row = some g → g ≠ tb ∧ (0 < n → ∀ b off, ao = some ⟨b, off, none⟩ → b ≠ g)) : Cur w' tb ao n cap zs p := by
  cases row with
  | none => exact h.grown hg
  | some g =>
    have h1 := hrow g rfl
    exact ⟨by obtain ⟨s, h2, h3⟩ := h.cu; exact ⟨s, h2.beside hg (by simp; exact h1.1), h3⟩, h.rd.beside hg h1.2, h.ne, h.byte, h.len⟩

theorem pick_of (tb : Nat) (ao : Option Addr) (n cap p : Nat) (k : Int) (zs : List Int) (w : World) (h : Cur w tb ao n cap zs p) (hp : p ≤ 1000000000000) (hk : 2 ≤ k) (hk3 : k ≤ 2147483648) :
    Calls Try.prog 52 #[.pointer (some ⟨tb, 0, none⟩), .int .i64 k] w fun e w' => ∃ (x : Int) (p' : Nat), e = .returned (.int .i64 x) ∧ 0 ≤ x ∧ x < k ∧ Cur w' tb ao n cap zs p' ∧ p' ≤ p + 2 ∧ w.grownBy w' (some tb) := by
  obtain ⟨s, h1, h2⟩ := h.cu
  refine (curPick tb ao n cap p s k zs w h1 h.rd h.ne h.byte h.len hp h2 hk hk3).mono ?_
  rintro e w' ⟨x, p', s', he, hx0, hx1, hc, hp', hs', hg⟩
  exact ⟨x, p', he, hx0, hx1, ⟨⟨s', hc, hs'⟩, h.rd.beside hg h.ne, h.ne, h.byte, h.len⟩, hp', hg⟩

theorem pick_small (tb : Nat) (k : Int) (w : World) (hk : k < 2) :
    Calls Try.prog 52 #[.pointer (some ⟨tb, 0, none⟩), .int .i64 k] w fun e w' => e = .returned (.int .i64 0) ∧ w = w' := by
  have hlt2 : decide (k < 2) = true := by simp; omega
  go_enter Try.func52, Try.ntmps52
  go_wp2
  go_ret
  exact ⟨rfl, rfl⟩

theorem open_of (ao : Option Addr) (n cap : Nat) (zs : List Int) (w : World) (hr : Rd .u8 w ao n zs) (hb : ∀ i, 0 ≤ zs.getD i 0 ∧ zs.getD i 0 ≤ 255) (hn : n ≤ 1048576) :
    Calls Try.prog 42 #[.slice ao n cap] w fun e w' => e = .returned (.pointer (some ⟨w.heap.size, 0, none⟩)) ∧ Cur w' w.heap.size ao n cap zs 0 ∧ w.grownBy w' none := by
  have hlt := hr.lt
  have HR := hide hr
  have HB := hide hb
  clear hr hb
  go_enter Try.func42, Try.ntmps42
  go_wp2
  go_ret
  have e : 13 + (n : Int) % 1000 = ((13 + n % 1000 : Nat) : Int) := by omega
  rw [e]
  exact ⟨rfl, ⟨⟨13 + n % 1000, heap_alloc_new w _, by omega⟩, (unhide HR).grown (World.grownBy_alloc _ _ _), fun h b off e => by have := hlt h b off e; omega, unhide HB, hn⟩, World.grownBy_alloc _ _ _⟩

end Go.Proofs.Ytkefpjbdkhifhaa

namespace Go.Proofs.Ytkefpjbdkhifhaa
open Go.RowKit

set_option maxHeartbeats 800000 in
theorem once_of (tb : Nat) (ao : Option Addr) (n cap p : Nat) (k : Int) (zs : List Int) (w : World) (h : Cur w tb ao n cap zs p) (hp : p ≤ 1000000000000) (hk : 2 ≤ k) (hk3 : k ≤ 2147483648) :
    Calls Try.prog 54 #[.pointer (some ⟨tb, 0, none⟩), .int .i64 k] w fun e w' => ∃ (t : Bool) (p' : Nat), e = .returned (.bool t) ∧ Cur w' tb ao n cap zs p' ∧ p' ≤ p + 2 ∧ w.grownBy w' (some tb) := by
  have H := hide h
  clear h
  go_enter Try.func54, Try.ntmps54
  go_wp2_with fail
  refine (pick_of tb ao n cap p k zs w (unhide H) hp hk hk3).mono ?_
  rintro e w1 ⟨x, p', rfl, hx0, hx1, hc, hp', hg⟩
  go_wp2
  go_ret
  exact ⟨_, p', rfl, hc, hp', hg⟩

/-- A pick, whatever it is asked. -/
theorem pick_any (tb : Nat) (ao : Option Addr) (n cap p : Nat) (k : Int) (zs : List Int) (w : World) (h : Cur w tb ao n cap zs p) (hp : p ≤ 1000000000000) (hk : 1 ≤ k) (hk3 : k ≤ 2147483648) :
    Calls Try.prog 52 #[.pointer (some ⟨tb, 0, none⟩), .int .i64 k] w fun e w' => ∃ (x : Int) (p' : Nat), e = .returned (.int .i64 x) ∧ 0 ≤ x ∧ x < k ∧ Cur w' tb ao n cap zs p' ∧ p' ≤ p + 2 ∧ w.grownBy w' (some tb) := by
  by_cases h2 : 2 ≤ k
  · exact pick_of tb ao n cap p k zs w h hp h2 hk3
  · refine (pick_small tb k w (by omega)).mono ?_
    rintro e w' ⟨rfl, rfl⟩
    exact ⟨0, p, rfl, by omega, by omega, h, by omega, World.grownBy.refl _ _⟩

end Go.Proofs.Ytkefpjbdkhifhaa

namespace Go.Proofs.Ytkefpjbdkhifhaa
open Go.RowKit

set_option maxHeartbeats 800000 in
theorem odd_of (tb : Nat) (ao : Option Addr) (n cap p : Nat) (zs : List Int) (w : World) (h : Cur w tb ao n cap zs p) (hp : p ≤ 1000000000) :
    Calls Try.prog 80 #[.pointer (some ⟨tb, 0, none⟩)] w fun e w' => ∃ (y : Int) (p' : Nat), e = .returned (.int .i64 y) ∧ Cur w' tb ao n cap zs p' ∧ p' ≤ p + 2 ∧ w.grownBy w' (some tb) := by
  have H := hide h
  have htb := h.lt
  clear h
  go_enter Try.func80, Try.ntmps80
  go_wp2_with fail
  obtain ⟨cs, hcs, hlen⟩ : ∃ cs : List Int, (#[.int .i64 (-1), .int .i64 0, .int .i64 1, .int .i64 2, .int .i64 255, .int .i64 256, .int .i64 65535, .int .i64 9223372036854775807, .int .i64 (-9223372036854775808), .int .i64 17, .int .i64 8, .int .i64 12] : Array Value) = (cs.map (Value.int .i64)).toArray ∧ cs.length = 12 :=
    ⟨[-1, 0, 1, 2, 255, 256, 65535, 9223372036854775807, -9223372036854775808, 17, 8, 12], rfl, rfl⟩
  rw [hcs]
  clear hcs
  have hc1 := (unhide H).grown (World.grownBy_alloc w (.cells (cs.map (Value.int .i64)).toArray 3) none)
  refine (pick_of tb ao n cap p 12 zs _ hc1 (by omega) (by omega) (by omega)).mono ?_
  rintro e w1 ⟨x, p', rfl, hx0, hx1, hc, hp', hg⟩
  obtain ⟨i, rfl⟩ := Int.eq_ofNat_of_zero_le hx0
  have hblk : w1.heap[w.heap.size]? = some (.cells (cs.map (Value.int .i64)).toArray 3 (0, 0)) :=
    (hg.block w.heap.size (by simp) (by simp; omega)).trans (heap_alloc_new w _)
  have hcell : w1.cell? ⟨w.heap.size, i, none⟩ = some (.int .i64 (cs.getD i 0)) := by
    rw [cell_of_row w1 _ i _ _ (0, 0) hblk]
    simp [show i < cs.length by omega]
  have G := grown_trans (World.grownBy_alloc w (.cells (cs.map (Value.int .i64)).toArray 3) (some tb)) hg
  generalize cs.getD i 0 = y at hcell
  clear hblk hc1 hx0 hlen
  go_wp2
  go_ret
  exact ⟨y, p', rfl, hc, hp', G⟩

end Go.Proofs.Ytkefpjbdkhifhaa

namespace Go.Proofs.Ytkefpjbdkhifhaa
open Go.RowKit

theorem info_i9 : (Try.prog.info? 3).map (fun i => (i.zero, i.size, i.bytes)) = some (some (.int .i64 0), 1, 8) := by kernel_rfl

theorem rd_newsI {w : World} {x : Addr} {m : Nat} {zs : List Int} (h : Rd .i64 w (some x) m zs) : ∀ j u, (zs.map (Value.int .i64))[j]? = some u → w.cell? (x.add j) = some u := by
  intro j u hj
  have hl := h.1
  have hjl : j < m := by
    have := (List.getElem?_eq_some_iff.1 hj).1
    simp at this; omega
  obtain ⟨b, off, e, hc⟩ := h.2 j hjl
  simp only [Option.some.injEq] at e
  subst e
  rw [Addr.add_lit, hc]
  rw [List.getElem?_map] at hj
  have hj2 : j < zs.length := by omega
  simp [hj2] at hj ⊢
  exact hj

theorem append_rdI {w : World} {ops : Array Oper} {rest : List Oper} {o : Oper} {a : Act} {Q : Exit → Act → World → Prop} (hgd : o.guard = none) (s x : Operand)
    (ho : o.op = .call { callee := .builtin .append, args := #[s, x], argTypes := #[24, 24] })
    (base : Nat) (v : Value) (xs : List Int) (hs : a.eval s = v) (hown : w.ownsRow base 3 1 v xs.length (xs.map (Value.int .i64)))
    (ad : Addr) (m c : Nat) (zs : List Int) (hx : a.eval x = .slice (some ad) m c) (hr : Rd .i64 w (some ad) m zs)
    (hb : xs.length + m ≤ 1000000) (hbase : base ≤ w.heap.size) (R : List Int) (hR : xs ++ zs = R)
    (h : ∀ v' w', w'.ownsRow base 3 1 v' R.length (R.map (Value.int .i64)) → w.grownBy w' v.ownBlock → wpList Try.prog ops Q rest (a.put o.dst v') w') :
    wpList Try.prog ops Q (o :: rest) a w := by
  subst hR
  obtain ⟨i0, hi, hz0, hz1, hz2⟩ := info_parts info_i9
  refine wpList_append_own _ hgd s x 24 ho base 3 i0 (.int .i64 0) 1 8 Try.underlying24 hi hz0 hz1 hz2 rfl (by decide) v xs.length _ hs hown ad m c (zs.map (Value.int .i64)) hx (by simp [hr.1]) (rd_newsI hr) ?_ (by unfold maxLen; omega) (by omega) hbase (fun v' w' h1 h2 _ => h v' w' (by rw [List.map_append, List.length_append, hr.1]; exact h1) h2)
  intro u hu
  obtain ⟨y, _, rfl⟩ := List.mem_map.1 hu
  rfl

end Go.Proofs.Ytkefpjbdkhifhaa

namespace Go.Proofs.Ytkefpjbdkhifhaa
open Go.RowKit

/-- A row that is being drawn: whose it is, where the drawer is, and what else has changed. -/
structure Dw (w : World) (tb : Nat) (ao : Option Addr) (n cap : Nat) (zs : List Int) (q : Nat) (W : World) (v : Value) (ys : List Int) : Prop where
  own : W.ownsRow w.heap.size 3 1 v ys.length (ys.map (Value.int .i64))
  cur : Cur W tb ao n cap zs q
  grown : w.grownBy W (some tb)

section
variable {w : World} {tb : Nat} {ao : Option Addr} {n cap : Nat} {zs : List Int} {q : Nat} {W : World} {v : Value} {ys : List Int}
theorem Dw.pick {W' : World} {q' : Nat} (h : Dw w tb ao n cap zs q W v ys) (ht : tb < w.heap.size) (hc : Cur W' tb ao n cap zs q') (hg : W.grownBy W' (some tb)) : Dw w tb ao n cap zs q' W' v ys :=
  ⟨own_beneath h.own hg (fun a b e1 e2 => by have := (h.own.lt a e1).1; simp at e2; omega), hc, grown_trans h.grown hg⟩
theorem Dw.new {W' : World} (h : Dw w tb ao n cap zs q W v ys) (hg : W.grownBy W' none) : Dw w tb ao n cap zs q W' v ys :=
  ⟨own_beneath h.own hg (fun a b _ e2 => by simp at e2), h.cur.grown hg, grown_trans h.grown (grown_any hg)⟩
theorem Dw.row {W' : World} {v' : Value} {ys' : List Int} (h : Dw w tb ao n cap zs q W v ys) (ht : tb < w.heap.size) (hcode : 0 < n → ∀ b off, ao = some ⟨b, off, none⟩ → b < w.heap.size) (hg : W.grownBy W' v.ownBlock) (ho : W'.ownsRow w.heap.size 3 1 v' ys'.length (ys'.map (Value.int .i64))) : Dw w tb ao n cap zs q W' v' ys' :=
  ⟨ho, h.cur.beside hg (fun g e => by have := (h.own.lt g e).1; exact ⟨by omega, fun h0 b off e2 => by have := hcode h0 b off e2; omega⟩),
   ⟨hg.os.trans h.grown.os, hg.tape.trans h.grown.tape, hg.output.trans h.grown.output, Nat.le_trans h.grown.size hg.size, fun k hk hr => (hg.block k (Nat.lt_of_lt_of_le hk h.grown.size) (by intro e; have := (h.own.lt k e.symm).1; omega)).trans (h.grown.block k hk hr)⟩⟩
end

/-- A row of none, behind what has been drawn. -/
theorem Dw.nil {w : World} {tb : Nat} {ao : Option Addr} {n cap : Nat} {zs : List Int} {q : Nat} {W : World} (hc : Cur W tb ao n cap zs q) (hg : w.grownBy W (some tb)) : Dw w tb ao n cap zs q (W.alloc (.cells #[] 3)) (.slice (some ⟨W.heap.size, 0, none⟩) 0 0) [] :=
  ⟨own_base (World.ownsRow_lit W #[] 0 (Nat.le_refl _) (by unfold maxLen; omega) rfl) hg.size, hc.grown (World.grownBy_alloc _ _ _), grown_trans hg (World.grownBy_alloc _ _ _)⟩

theorem append_dw {w : World} {ops : Array Oper} {rest : List Oper} {o : Oper} {a : Act} {Q : Exit → Act → World → Prop} (hgd : o.guard = none) (s x : Operand)
    (ho : o.op = .call { callee := .builtin .append, args := #[s, x], argTypes := #[24, 24] })
    (B : World) (tb : Nat) (ao : Option Addr) (n cap : Nat) (zs : List Int) (q : Nat) (v : Value) (X : List Int) (hs : a.eval s = v) (hd : Dw B tb ao n cap zs q w v X) (p : Int) (hx : a.eval x = .slice (some ⟨w.heap.size, 0, none⟩) 1 1)
    (hb : X.length ≤ 1000000) (ht : tb < B.heap.size) (hcode : 0 < n → ∀ b off, ao = some ⟨b, off, none⟩ → b < B.heap.size) (R : List Int) (hR : X ++ [p] = R)
    (h : ∀ v' w', Dw B tb ao n cap zs q w' v' R → wpList Try.prog ops Q rest (a.put o.dst v') w') :
    wpList Try.prog ops Q (o :: rest) a (w.alloc (.cells #[.int .i64 p] 3)) := by
  subst hR
  obtain ⟨i0, hi, hz0, hz1, hz2⟩ := info_parts info_i9
  have hd2 := hd.new (World.grownBy_alloc w (.cells #[.int .i64 p] 3) none)
  refine wpList_append_own _ hgd s x 24 ho B.heap.size 3 i0 _ 1 8 Try.underlying24 hi hz0 hz1 hz2 rfl (by decide) v X.length _ hs hd2.own ⟨w.heap.size, 0, none⟩ 1 1 [.int .i64 p] hx rfl (World.news_of_block (cs := #[.int .i64 p]) (t := 3) (fr := (0, 0)) (heap_alloc_new w _)) (by intro u hu; simp at hu; subst hu; rfl) (by unfold maxLen; omega) (by omega) (by have := hd.grown.size; simp; omega) ?_
  intro v' w' h1 h2 _
  refine h v' w' (hd2.row ht hcode h2 ?_)
  rw [List.map_append, List.length_append]
  exact h1

end Go.Proofs.Ytkefpjbdkhifhaa

namespace Go.Proofs.Ytkefpjbdkhifhaa
open Go.RowKit

def six16 (a b c d e f : Int) (i : Nat) : Int := [a, b, c, d, e, f].getD i 0
theorem six16_at (t : TypeId) {W : World} {i : Nat} (hi : i < 6) (a b c d e f : Int) : (W.alloc (.cells #[.int .i64 a, .int .i64 b, .int .i64 c, .int .i64 d, .int .i64 e, .int .i64 f] t)).cell? ⟨W.heap.size, i, none⟩ = some (.int .i64 (six16 a b c d e f i)) := by
  rw [cell_of_row _ _ i _ _ (0, 0) (heap_alloc_new W _)]
  rcases i with _ | _ | _ | _ | _ | _ | i <;> first | rfl | omega
def four16 (a b c d : Int) (i : Nat) : Int := [a, b, c, d].getD i 0
theorem four16_at (t : TypeId) {W : World} {i : Nat} (hi : i < 4) (a b c d : Int) : (W.alloc (.cells #[.int .i64 a, .int .i64 b, .int .i64 c, .int .i64 d] t)).cell? ⟨W.heap.size, i, none⟩ = some (.int .i64 (four16 a b c d i)) := by
  rw [cell_of_row _ _ i _ _ (0, 0) (heap_alloc_new W _)]
  rcases i with _ | _ | _ | _ | i <;> first | rfl | omega

section
variable {w : World} {tb : Nat} {ao : Option Addr} {n cap : Nat} {zs : List Int} {q : Nat} {W : World} {ys : List Int} {g c k : Nat}
theorem Dw.at16 {m : Nat} (h : Dw w tb ao n cap zs q W (.slice (some ⟨g, 0, none⟩) m c) ys) (hm : ys.length = m) (hk : k < m) : (∃ v, W.cell? ⟨g, k, none⟩ = some v) ∧ W.frozen? ⟨g, k, none⟩ = false := by
  have h1 := h.own
  rw [hm] at h1
  exact ⟨by rw [h1.cellAt k (by omega)]; exact ⟨_, List.getElem?_eq_getElem (by rw [h1.1]; omega)⟩, h1.frozenAt k⟩
theorem Dw.put16 {m : Nat} (h : Dw w tb ao n cap zs q W (.slice (some ⟨g, 0, none⟩) m c) ys) (ht : tb < w.heap.size) (hcode : 0 < n → ∀ b off, ao = some ⟨b, off, none⟩ → b < w.heap.size) (hm : ys.length = m) (k : Nat) (u : Int) : Dw w tb ao n cap zs q (W.setCell ⟨g, k, none⟩ (.int .i64 u)) (.slice (some ⟨g, 0, none⟩) m c) (ys.set k u) := by
  have h1 := h.own
  rw [hm] at h1
  have st := h1.stored k (.int .i64 u)
  refine h.row ht hcode st.2 ?_
  rw [List.length_set, List.map_set, hm]
  exact st.1
end

set_option maxRecDepth 20000 in
set_option maxHeartbeats 3200000 in
theorem drawPlane16 (tb : Nat) (ao : Option Addr) (n cap p : Nat) (zs : List Int) (wN hN : Nat) (k : Int) (w : World) (h : Cur w tb ao n cap zs p) (hp : p ≤ 800000) (hcode : 0 < n → ∀ b off, ao = some ⟨b, off, none⟩ → b < w.heap.size) (hw : 1 ≤ wN ∧ wN ≤ 32) (hh : 1 ≤ hN ∧ hN ≤ 32) (hk : 2 ≤ k ∧ k ≤ 1000) :
    Calls Try.prog 53 #[.pointer (some ⟨tb, 0, none⟩), .int .i64 (wN : Int), .int .i64 (hN : Int), .int .i64 k] w fun e w' => ∃ (v : Value) (ys : List Int) (q : Nat), e = .returned v ∧ ys.length ≤ 2000 ∧ q ≤ p + 7000 ∧ Dw w tb ao n cap zs q w' v ys := by
  have hlt := h.lt
  have HAL := hide hcode
  have HD0 := hide (Dw.nil (w := w) h (World.grownBy.refl _ _))
  obtain ⟨N, HN⟩ : ∃ N : Nat, Hid (wN * hN = N) := ⟨_, rfl⟩
  have hN1 : 1 ≤ N ∧ N ≤ 1024 := by rw [← unhide HN]; exact ⟨Nat.mul_le_mul hw.1 hh.1, Nat.mul_le_mul hw.2 hh.2⟩
  have k1 : IntKind.i64.wrap ((wN : Int) * (hN : Int)) = (N : Int) := by
    have e : (wN : Int) * (hN : Int) = (N : Int) := by have := unhide HN; exact_mod_cast this
    rw [e, i64_in _ (by omega)]
  clear h hcode
  go_enter Try.func53, Try.ntmps53
  go_wp2_with fail
  refine (pick_of tb ao n cap p 256 zs _ (unhide HD0).cur (by omega) (by omega) (by omega)).mono ?_
  rintro e w1 ⟨x, q1, rfl, hx0, hx1, c1, hq1, g1⟩
  have HD1 := hide ((unhide HD0).pick hlt c1 g1)
  have e0 : IntKind.i64.wrap (x.tdiv 2) = x / 2 := by rw [Int.tdiv_eq_ediv_of_nonneg hx0, i64_in _ (by omega)]
  have e0' : x.tdiv 2 = x / 2 := Int.tdiv_eq_ediv_of_nonneg hx0
  have e0'' := i64_in (x / 2) (by omega)
  clear c1 g1 HD0 e0
  go_wp2
  go_loopw [9, 11] (fun v i wr => ∃ (j q : Nat) (Y : List Int), i = .int .i64 j ∧ j ≤ N ∧ Hid (Y.length = j) ∧ q ≤ p + 2 + 6 * j ∧ Hid (Dw w tb ao n cap zs q wr v Y)) (fun _ i _ => N - (intOf i).toNat)
  case atStart => exact ⟨0, q1, [], by go_num, by omega, rfl, by omega, HD1⟩
  case round =>
    clear HD1
    obtain ⟨j, q, Y, rfl, hj, HY, hq, hD⟩ := hrel
    obtain ⟨so, sc, rfl⟩ := own_form (unhide hD).own
    by_cases hj0 : j < N
    · have hjI : (j : Int) < (N : Int) := by omega
      have e2 := i64_in ((j : Int) + 1) (by omega)
      go_wp2_with fail
      refine (pick_of tb ao n cap q 256 zs wr (unhide hD).cur (by omega) (by omega) (by omega)).mono ?_
      rintro e w2 ⟨y2, q2, rfl, hy20, hy21, c2, hq2, g2⟩
      have HD2 := hide ((unhide hD).pick hlt c2 g2)
      clear c2 g2 hD
      go_wp2_with fail
      refine (pick_of tb ao n cap q2 4096 zs w2 (unhide HD2).cur (by omega) (by omega) (by omega)).mono ?_
      rintro e w3 ⟨y3, q3, rfl, hy30, hy31, c3, hq3, g3⟩
      have HD3 := hide ((unhide HD2).pick hlt c3 g3)
      clear c3 g3 HD2
      have HD4 := hide ((unhide HD3).new (World.grownBy_alloc w3 (.cells #[.int .i64 x, .int .i64 y2, .int .i64 (x / 2), .int .i64 y3] 3) none))
      go_wp2_with fail
      refine (pick_of tb ao n cap q3 4 zs _ (unhide HD4).cur (by omega) (by omega) (by omega)).mono ?_
      rintro e w5 ⟨y5, q5, rfl, hy50, hy51, c5, hq5, g5⟩
      obtain ⟨i, rfl⟩ := Int.eq_ofNat_of_zero_le hy50
      have hs3 := (unhide HD3).cur.lt
      have hu := g5.cell (four16_at 3 (W := w3) (i := i) (by omega) x y2 (x / 2) y3) (by simp; omega)
      generalize four16 x y2 (x / 2) y3 i = u at hu
      have HD5 := hide ((unhide HD4).pick hlt c5 g5)
      have hiI : (i : Int) < 4 := by omega
      obtain ⟨R, HR⟩ : ∃ R, Hid (Y ++ [u] = R) := ⟨_, rfl⟩
      have HRL : Hid (R.length = j + 1) := by unfold Hid; rw [← unhide HR, List.length_append, unhide HY]; rfl
      have HYB : Hid (Y.length ≤ 1000000) := by unfold Hid; rw [unhide HY]; omega
      clear c5 g5 HD3 HD4 hy50
      go_wp2_with (at_builtin; refine append_dw rfl _ _ rfl w tb ao n cap zs q5 (.slice so Y.length sc) Y rfl (unhide HD5) u rfl (unhide HYB) hlt (unhide HAL) R (unhide HR) ?_)
      intro v6 w6 d6
      obtain ⟨so6, sc6, rfl⟩ := own_form d6.own
      have HD6 := hide d6
      clear d6 HD5 hu
      go_wp2
      go_roundw
      case rel => exact ⟨j + 1, q5, R, by go_num, by omega, HRL, by omega, HD6⟩
      case measure => simp [intOf]; omega
    · obtain rfl : j = N := by omega
      have hd : decide ((j : Int) < (j : Int)) = false := decide_eq_false (by omega)
      go_wp2_with fail
      refine (once_of tb ao n cap q k zs wr (unhide hD).cur (by omega) hk.1 (by omega)).mono ?_
      rintro e w2 ⟨t, q2, rfl, c2, hq2, g2⟩
      have HD2 := hide ((unhide hD).pick hlt c2 g2)
      have HYL : Hid (Y.length ≤ 2000) := by unfold Hid; rw [unhide HY]; omega
      clear c2 g2 hD
      cases t with
      | false =>
        go_wp2
        go_ret
        exact ⟨_, Y, q2, rfl, unhide HYL, by omega, unhide HD2⟩
      | true =>
        go_wp2_with fail
        refine (pick_of tb ao n cap q2 2 zs w2 (unhide HD2).cur (by omega) (by omega) (by omega)).mono ?_
        rintro e w3 ⟨y3, q3, rfl, hy30, hy31, c3, hq3, g3⟩
        have HD3 := hide ((unhide HD2).pick hlt c3 g3)
        clear c3 g3 HD2
        rcases (show y3 = 0 ∨ y3 = 1 by omega) with rfl | rfl
        · obtain ⟨g, rfl, hg1, hg2⟩ := own_at (unhide HD3).own (by rw [unhide HY]; omega)
          obtain ⟨yl, HYY⟩ : ∃ l, Hid (Y.length = l) := ⟨_, rfl⟩
          have hyl : 1 ≤ yl ∧ yl ≤ 1024 := by have := unhide HY; have := unhide HYY; omega
          rw [unhide HYY] at HD3
          go_wp2_with fail
          refine (pick_any tb ao n cap q3 (Y.length : Int) zs w3 (unhide HD3).cur (by omega) (by have := unhide HYY; omega) (by have := unhide HYY; omega)).mono ?_
          rintro e w4 ⟨y4, q4, rfl, hy40, hy41, c4, hq4, g4⟩
          obtain ⟨ki, rfl⟩ := Int.eq_ofNat_of_zero_le hy40
          rw [unhide HYY] at hy41
          have HD4 := hide ((unhide HD3).pick hlt c4 g4)
          clear c4 g4 HD3
          go_wp2_with fail
          refine (odd_of tb ao n cap q4 zs w4 (unhide HD4).cur (by omega)).mono ?_
          rintro e w5 ⟨y5, q5, rfl, c5, hq5, g5⟩
          have HD5 := hide ((unhide HD4).pick hlt c5 g5)
          clear c5 g5 HD4
          have HD6 := hide ((unhide HD5).new (World.grownBy_alloc w5 (.cells #[.int .i64 (-1), .int .i64 4095, .int .i64 4096, .int .i64 y5] 3) none))
          go_wp2_with fail
          refine (pick_of tb ao n cap q5 4 zs _ (unhide HD6).cur (by omega) (by omega) (by omega)).mono ?_
          rintro e w7 ⟨y7, q7, rfl, hy70, hy71, c7, hq7, g7⟩
          obtain ⟨i, rfl⟩ := Int.eq_ofNat_of_zero_le hy70
          have hs3 := (unhide HD5).cur.lt
          have hu := g7.cell (four16_at 3 (W := w5) (i := i) (by omega) (-1) 4095 4096 y5) (by simp; omega)
          generalize four16 (-1) 4095 4096 y5 i = u at hu
          have HD7 := hide ((unhide HD6).pick hlt c7 g7)
          have hiI : (i : Int) < 4 := by omega
          have hat := (unhide HD7).at16 (k := ki) (unhide HYY) (by omega)
          obtain ⟨⟨ov, hov⟩, hfz⟩ := hat
          have HD8 := hide ((unhide HD7).put16 hlt (unhide HAL) (unhide HYY) ki u)
          have hkI : (ki : Int) < (yl : Int) := by omega
          have HSL : Hid ((Y.set ki u).length ≤ 2000) := by unfold Hid; rw [List.length_set]; exact unhide HYL
          clear c7 g7 HD5 HD6 HD7 hy70 hy40
          rw [unhide HYY]
          go_wp2
          go_ret
          exact ⟨_, Y.set ki u, q7, rfl, unhide HSL, by omega, unhide HD8⟩
        · obtain ⟨R, HR⟩ : ∃ R : List Int, Hid (Y ++ [(1 : Int)] = R) := ⟨_, hide rfl⟩
          have HRL : Hid (R.length ≤ 2000) := by unfold Hid; rw [← unhide HR, List.length_append, unhide HY]; simp; omega
          have HYB : Hid (Y.length ≤ 1000000) := by unfold Hid; rw [unhide HY]; omega
          go_wp2_with (at_builtin; refine append_dw rfl _ _ rfl w tb ao n cap zs q3 (.slice so Y.length sc) Y rfl (unhide HD3) 1 rfl (unhide HYB) hlt (unhide HAL) R (unhide HR) ?_)
          intro v6 w6 d6
          obtain ⟨so6, sc6, rfl⟩ := own_form d6.own
          have HD6 := hide d6
          clear d6 HD3
          go_wp2
          go_ret
          exact ⟨_, R, q3, rfl, unhide HRL, by omega, unhide HD6⟩

set_option maxRecDepth 20000 in
set_option maxHeartbeats 1600000 in
theorem drawSide16 (tb : Nat) (ao : Option Addr) (n cap p : Nat) (zs : List Int) (wN up : Nat) (w : World) (h : Cur w tb ao n cap zs p) (hp : p ≤ 900000) (hw : 1 ≤ wN ∧ wN ≤ 32) (hu : up = 0 ∨ (2 ≤ up ∧ up ≤ 100)) :
    Calls Try.prog 70 #[.pointer (some ⟨tb, 0, none⟩), .int .i64 (wN : Int), .int .i64 (up : Int)] w fun e w' => ∃ (x : Int) (q : Nat), e = .returned (.int .i64 x) ∧ Cur w' tb ao n cap zs q ∧ q ≤ p + 10 ∧ w.grownBy w' (some tb) := by
  have HC := hide h
  have hlt := h.lt
  clear h
  go_enter Try.func70, Try.ntmps70
  go_wp2_with fail
  refine (pick_any tb ao n cap p (wN : Int) zs w (unhide HC) (by omega) (by omega) (by omega)).mono ?_
  rintro e w1 ⟨x, q1, rfl, hx0, hx1, c1, hq1, g1⟩
  have HC1 := hide c1
  have HG1 := hide g1
  have e0 := i64_in (1 + x) (by omega)
  clear c1 g1 HC
  rcases hu with rfl | hu
  · have hd : decide ((0 : Int) < ((0 : Nat) : Int)) = false := by decide
    go_wp2_with fail
    refine (once_of tb ao n cap q1 20 zs w1 (unhide HC1) (by omega) (by omega) (by omega)).mono ?_
    rintro e w3 ⟨t, q3, rfl, c3, hq3, g3⟩
    have HC3 := hide c3
    have HG3 := hide (grown_trans (unhide HG1) g3)
    clear c3 g3 HC1 HG1
    cases t with
    | false =>
      go_wp2
      go_ret
      exact ⟨_, q3, rfl, unhide HC3, by omega, unhide HG3⟩
    | true =>
      have f1 := i64_in ((wN : Int) + 1) (by omega)
      have f2 := i64_in ((wN : Int) - 1) (by omega)
      go_wp2_with fail
      refine (odd_of tb ao n cap q3 zs w3 (unhide HC3) (by omega)).mono ?_
      rintro e w5 ⟨y5, q5, rfl, c5, hq5, g5⟩
      have HC5 := hide (c5.grown (World.grownBy_alloc w5 (.cells #[.int .i64 0, .int .i64 (-1), .int .i64 ((wN : Int) + 1), .int .i64 ((wN : Int) - 1), .int .i64 1024, .int .i64 y5] 3) none))
      have HG5 := hide (grown_trans (unhide HG3) (grown_trans g5 (grown_any (World.grownBy_alloc w5 (.cells #[.int .i64 0, .int .i64 (-1), .int .i64 ((wN : Int) + 1), .int .i64 ((wN : Int) - 1), .int .i64 1024, .int .i64 y5] 3) none))))
      have hs5 := c5.lt
      clear c5 g5 HC3 HG3
      go_wp2_with fail
      refine (pick_of tb ao n cap q5 6 zs _ (unhide HC5) (by omega) (by omega) (by omega)).mono ?_
      rintro e w7 ⟨y7, q7, rfl, hy70, hy71, c7, hq7, g7⟩
      obtain ⟨i, rfl⟩ := Int.eq_ofNat_of_zero_le hy70
      have hu6 := g7.cell (six16_at 3 (W := w5) (i := i) (by omega) 0 (-1) ((wN : Int) + 1) ((wN : Int) - 1) 1024 y5) (by simp; omega)
      generalize six16 0 (-1) ((wN : Int) + 1) ((wN : Int) - 1) 1024 y5 i = u at hu6
      have HC7 := hide c7
      have HG7 := hide (grown_trans (unhide HG5) g7)
      have hiI : (i : Int) < 6 := by omega
      clear c7 g7 HC5 HG5 hy70
      go_wp2
      go_ret
      exact ⟨_, q7, rfl, unhide HC7, by omega, unhide HG7⟩
  · have hd : decide ((0 : Int) < (up : Int)) = true := by simp; omega
    go_wp2_with fail
    refine (pick_of tb ao n cap q1 (up : Int) zs w1 (unhide HC1) (by omega) (by omega) (by omega)).mono ?_
    rintro e w4 ⟨x4, q4, rfl, hx40, hx41, c4, hq4, g4⟩
    have HC4 := hide c4
    have HG4 := hide (grown_trans (unhide HG1) g4)
    have e4 := i64_in ((wN : Int) + x4) (by omega)
    clear c4 g4 HC1 HG1
    go_wp2_with fail
    refine (once_of tb ao n cap q4 20 zs w4 (unhide HC4) (by omega) (by omega) (by omega)).mono ?_
    rintro e w3 ⟨t, q3, rfl, c3, hq3, g3⟩
    have HC3 := hide c3
    have HG3 := hide (grown_trans (unhide HG4) g3)
    clear c3 g3 HC4 HG4
    cases t with
    | false =>
      go_wp2
      go_ret
      exact ⟨_, q3, rfl, unhide HC3, by omega, unhide HG3⟩
    | true =>
      have f1 := i64_in ((wN : Int) + 1) (by omega)
      have f2 := i64_in ((wN : Int) - 1) (by omega)
      go_wp2_with fail
      refine (odd_of tb ao n cap q3 zs w3 (unhide HC3) (by omega)).mono ?_
      rintro e w5 ⟨y5, q5, rfl, c5, hq5, g5⟩
      have HC5 := hide (c5.grown (World.grownBy_alloc w5 (.cells #[.int .i64 0, .int .i64 (-1), .int .i64 ((wN : Int) + 1), .int .i64 ((wN : Int) - 1), .int .i64 1024, .int .i64 y5] 3) none))
      have HG5 := hide (grown_trans (unhide HG3) (grown_trans g5 (grown_any (World.grownBy_alloc w5 (.cells #[.int .i64 0, .int .i64 (-1), .int .i64 ((wN : Int) + 1), .int .i64 ((wN : Int) - 1), .int .i64 1024, .int .i64 y5] 3) none))))
      have hs5 := c5.lt
      clear c5 g5 HC3 HG3
      go_wp2_with fail
      refine (pick_of tb ao n cap q5 6 zs _ (unhide HC5) (by omega) (by omega) (by omega)).mono ?_
      rintro e w7 ⟨y7, q7, rfl, hy70, hy71, c7, hq7, g7⟩
      obtain ⟨i, rfl⟩ := Int.eq_ofNat_of_zero_le hy70
      have hu6 := g7.cell (six16_at 3 (W := w5) (i := i) (by omega) 0 (-1) ((wN : Int) + 1) ((wN : Int) - 1) 1024 y5) (by simp; omega)
      generalize six16 0 (-1) ((wN : Int) + 1) ((wN : Int) - 1) 1024 y5 i = u at hu6
      have HC7 := hide c7
      have HG7 := hide (grown_trans (unhide HG5) g7)
      have hiI : (i : Int) < 6 := by omega
      clear c7 g7 HC5 HG5 hy70
      go_wp2
      go_ret
      exact ⟨_, q7, rfl, unhide HC7, by omega, unhide HG7⟩

end Go.Proofs.Ytkefpjbdkhifhaa

namespace Go.Proofs.Ytkefpjbdkhifhaa
open Go.RowKit

set_option maxRecDepth 20000 in
set_option maxHeartbeats 1600000 in
theorem draw16 (tb : Nat) (ao : Option Addr) (n cap p : Nat) (zs : List Int) (up : Nat) (w : World) (h : Cur w tb ao n cap zs p) (hp : p ≤ 1000) (hcode : 0 < n → ∀ b off, ao = some ⟨b, off, none⟩ → b < w.heap.size) (hu : up = 0 ∨ (2 ≤ up ∧ up ≤ 100)) :
    Calls Try.prog 43 #[.pointer (some ⟨tb, 0, none⟩), .int .i64 (up : Int)] w fun e w' => ∃ (so : Option Addr) (sc : Nat) (ys : List Int) (wN hN : Nat) (nw nh : Int) (q : Nat), e = .returned (.tuple #[.slice so ys.length sc, .int .i64 (wN : Int), .int .i64 (hN : Int), .int .i64 nw, .int .i64 nh]) ∧ ys.length ≤ 2000 ∧ (1 ≤ wN ∧ wN ≤ 14) ∧ (1 ≤ hN ∧ hN ≤ 14) ∧ Dw w tb ao n cap zs q w' (.slice so ys.length sc) ys := by
  have hlt := h.lt
  have HC := hide h
  have HAL := hide hcode
  clear h hcode
  go_enter Try.func43, Try.ntmps43
  go_wp2_with fail
  refine (pick_of tb ao n cap p 14 zs w (unhide HC) (by omega) (by omega) (by omega)).mono ?_
  rintro e w1 ⟨x1, q1, rfl, hx10, hx11, c1, hq1, g1⟩
  obtain ⟨a, rfl⟩ := Int.eq_ofNat_of_zero_le hx10
  obtain ⟨wN, HWN⟩ : ∃ k : Nat, Hid (a + 1 = k) := ⟨_, rfl⟩
  have e1 : IntKind.i64.wrap (1 + (a : Int)) = (wN : Int) := by have := unhide HWN; rw [i64_in _ (by omega)]; omega
  have hwN : 1 ≤ wN ∧ wN ≤ 14 := by have := unhide HWN; omega
  have HC1 := hide c1
  have HG1 := hide g1
  clear c1 g1 HC hx10
  go_wp2_with fail
  refine (pick_of tb ao n cap q1 14 zs w1 (unhide HC1) (by omega) (by omega) (by omega)).mono ?_
  rintro e w2 ⟨x2, q2, rfl, hx20, hx21, c2, hq2, g2⟩
  obtain ⟨b, rfl⟩ := Int.eq_ofNat_of_zero_le hx20
  obtain ⟨hN, HHN⟩ : ∃ k : Nat, Hid (b + 1 = k) := ⟨_, rfl⟩
  have e2 : IntKind.i64.wrap (1 + (b : Int)) = (hN : Int) := by have := unhide HHN; rw [i64_in _ (by omega)]; omega
  have hhN : 1 ≤ hN ∧ hN ≤ 14 := by have := unhide HHN; omega
  have HC2 := hide c2
  have HG2 := hide (grown_trans (unhide HG1) g2)
  clear c2 g2 HC1 HG1 hx20
  go_wp2_with fail
  refine (drawPlane16 tb ao n cap q2 zs wN hN 14 w2 (unhide HC2) (by omega) (fun h0 b off e => Nat.lt_of_lt_of_le (unhide HAL h0 b off e) (unhide HG2).size) (by omega) (by omega) (by omega)).mono ?_
  rintro e w3 ⟨v3, ys, q3, rfl, hy3, hq3, d3⟩
  obtain ⟨so, sc, rfl⟩ := own_form d3.own
  have HD3 : Hid (Dw w tb ao n cap zs q3 w3 (.slice so ys.length sc) ys) := ⟨own_base d3.own (unhide HG2).size, d3.cur, grown_trans (unhide HG2) d3.grown⟩
  have HY3 := hide hy3
  clear d3 HC2 HG2 hy3
  go_wp2_with fail
  refine (drawSide16 tb ao n cap q3 zs wN up w3 (unhide HD3).cur (by omega) (by omega) hu).mono ?_
  rintro e w4 ⟨nw, q4, rfl, c4, hq4, g4⟩
  have HD4 := hide ((unhide HD3).pick hlt c4 g4)
  clear c4 g4 HD3
  go_wp2_with fail
  refine (drawSide16 tb ao n cap q4 zs hN up w4 (unhide HD4).cur (by omega) (by omega) hu).mono ?_
  rintro e w5 ⟨nh, q5, rfl, c5, hq5, g5⟩
  have HD5 := hide ((unhide HD4).pick hlt c5 g5)
  clear c5 g5 HD4
  go_wp2
  exact bodyPost_ret (v := .tuple #[.slice so ys.length sc, .int .i64 (wN : Int), .int .i64 (hN : Int), .int .i64 nw, .int .i64 nh]) (by simp [results, Try.results43, go_sem]) rfl ⟨so, sc, ys, wN, hN, nw, nh, q5, rfl, unhide HY3, hwN, hhN, unhide HD5⟩

set_option maxRecDepth 20000 in
set_option maxHeartbeats 1600000 in
theorem drawShrink16 (ao : Option Addr) (n cap : Nat) (zs : List Int) (w : World) (hr : Rd .u8 w ao n zs) (hb : ∀ i, 0 ≤ zs.getD i 0 ∧ zs.getD i 0 ≤ 255) (hn : n ≤ 1048576) :
    Calls Try.prog 13 #[.slice ao n cap] w fun e w' => ∃ (so : Option Addr) (sc : Nat) (ys : List Int) (wN hN : Nat) (nw nh : Int), e = .returned (.tuple #[.slice so ys.length sc, .int .i64 (wN : Int), .int .i64 (hN : Int), .int .i64 nw, .int .i64 nh]) ∧ ys.length ≤ 2000 ∧ (1 ≤ wN ∧ wN ≤ 14) ∧ (1 ≤ hN ∧ hN ≤ 14) ∧ Rd .i64 w' so ys.length ys ∧ w.grownBy w' none := by
  have hcl := hr.lt
  have HR := hide hr
  have HB := hide hb
  clear hr hb
  go_enter Try.func13, Try.ntmps13
  go_wp2_with fail
  refine (open_of ao n cap zs w (unhide HR) (unhide HB) hn).mono ?_
  rintro e w1 ⟨rfl, c1, g1⟩
  obtain ⟨tb, HTB⟩ : ∃ tb, Hid (w.heap.size = tb) := ⟨_, rfl⟩
  rw [unhide HTB] at c1 ⊢
  have HCO : Hid (0 < n → ∀ b off, ao = some ⟨b, off, none⟩ → b < w1.heap.size) := fun h0 b off e => Nat.lt_of_lt_of_le (hcl h0 b off e) g1.size
  have HC1 := hide c1
  have HG1 := hide g1
  clear c1 g1 hcl
  go_wp2_with fail
  refine (draw16 tb ao n cap 0 zs 0 w1 (unhide HC1) (by omega) (unhide HCO) (by omega)).mono ?_
  rintro e w2 ⟨so, sc, ys, wN, hN, nw, nh, q2, rfl, hy, hwN, hhN, d2⟩
  have HD2 := hide d2
  have HY := hide hy
  have HGF : Hid (w.grownBy w2 none) := grown_new (unhide HG1) d2.grown (fun g e => by simp at e; have := unhide HTB; omega)
  clear d2 hy HC1
  go_wp2
  exact bodyPost_ret (v := .tuple #[.slice so ys.length sc, .int .i64 (wN : Int), .int .i64 (hN : Int), .int .i64 nw, .int .i64 nh]) (by simp [results, Try.results13, go_sem]) rfl ⟨so, sc, ys, wN, hN, nw, nh, rfl, unhide HY, hwN, hhN, own_rd (unhide HD2).own, unhide HGF⟩

set_option maxRecDepth 20000 in
set_option maxHeartbeats 1600000 in
theorem drawPad16 (ao : Option Addr) (n cap : Nat) (zs : List Int) (w : World) (hr : Rd .u8 w ao n zs) (hb : ∀ i, 0 ≤ zs.getD i 0 ∧ zs.getD i 0 ≤ 255) (hn : n ≤ 1048576) :
    Calls Try.prog 26 #[.slice ao n cap] w fun e w' => ∃ (so : Option Addr) (sc : Nat) (ys : List Int) (wN hN : Nat) (nw nh : Int), e = .returned (.tuple #[.slice so ys.length sc, .int .i64 (wN : Int), .int .i64 (hN : Int), .int .i64 nw, .int .i64 nh]) ∧ ys.length ≤ 2000 ∧ (1 ≤ wN ∧ wN ≤ 14) ∧ (1 ≤ hN ∧ hN ≤ 14) ∧ Rd .i64 w' so ys.length ys ∧ w.grownBy w' none := by
  have hcl := hr.lt
  have HR := hide hr
  have HB := hide hb
  clear hr hb
  go_enter Try.func26, Try.ntmps26
  go_wp2_with fail
  refine (open_of ao n cap zs w (unhide HR) (unhide HB) hn).mono ?_
  rintro e w1 ⟨rfl, c1, g1⟩
  obtain ⟨tb, HTB⟩ : ∃ tb, Hid (w.heap.size = tb) := ⟨_, rfl⟩
  rw [unhide HTB] at c1 ⊢
  have HCO : Hid (0 < n → ∀ b off, ao = some ⟨b, off, none⟩ → b < w1.heap.size) := fun h0 b off e => Nat.lt_of_lt_of_le (hcl h0 b off e) g1.size
  have HC1 := hide c1
  have HG1 := hide g1
  clear c1 g1 hcl
  go_wp2_with fail
  refine (draw16 tb ao n cap 0 zs 20 w1 (unhide HC1) (by omega) (unhide HCO) (by omega)).mono ?_
  rintro e w2 ⟨so, sc, ys, wN, hN, nw, nh, q2, rfl, hy, hwN, hhN, d2⟩
  have HD2 := hide d2
  have HY := hide hy
  have HGF : Hid (w.grownBy w2 none) := grown_new (unhide HG1) d2.grown (fun g e => by simp at e; have := unhide HTB; omega)
  clear d2 hy HC1
  go_wp2
  exact bodyPost_ret (v := .tuple #[.slice so ys.length sc, .int .i64 (wN : Int), .int .i64 (hN : Int), .int .i64 nw, .int .i64 nh]) (by simp [results, Try.results26, go_sem]) rfl ⟨so, sc, ys, wN, hN, nw, nh, rfl, unhide HY, hwN, hhN, own_rd (unhide HD2).own, unhide HGF⟩

set_option maxRecDepth 20000 in
set_option maxHeartbeats 1600000 in
theorem drawCutBlocks (ao : Option Addr) (n cap : Nat) (zs : List Int) (w : World) (hr : Rd .u8 w ao n zs) (hb : ∀ i, 0 ≤ zs.getD i 0 ∧ zs.getD i 0 ≤ 255) (hn : n ≤ 1048576) :
    Calls Try.prog 21 #[.slice ao n cap] w fun e w' => ∃ (so : Option Addr) (sc : Nat) (ys : List Int) (wN hN : Nat), e = .returned (.tuple #[.slice so ys.length sc, .int .i64 (wN : Int), .int .i64 (hN : Int)]) ∧ ys.length ≤ 2000 ∧ (1 ≤ wN ∧ wN ≤ 24) ∧ (1 ≤ hN ∧ hN ≤ 24) ∧ Rd .i64 w' so ys.length ys ∧ w.grownBy w' none := by
  have hcl := hr.lt
  have HR := hide hr
  have HB := hide hb
  clear hr hb
  go_enter Try.func21, Try.ntmps21
  go_wp2_with fail
  refine (open_of ao n cap zs w (unhide HR) (unhide HB) hn).mono ?_
  rintro e w0 ⟨rfl, c0, g0⟩
  obtain ⟨tb, HTB⟩ : ∃ tb, Hid (w.heap.size = tb) := ⟨_, rfl⟩
  rw [unhide HTB] at c0 ⊢
  have hlt := c0.lt
  have HCO : Hid (0 < n → ∀ b off, ao = some ⟨b, off, none⟩ → b < w0.heap.size) := fun h0 b off e => Nat.lt_of_lt_of_le (hcl h0 b off e) g0.size
  have HC0 := hide c0
  have HG0 := hide g0
  clear c0 g0 hcl
  go_wp2_with fail
  refine (pick_of tb ao n cap 0 3 zs w0 (unhide HC0) (by omega) (by omega) (by omega)).mono ?_
  rintro e w1 ⟨x1, q1, rfl, hx10, hx11, c1, hq1, g1⟩
  obtain ⟨a, rfl⟩ := Int.eq_ofNat_of_zero_le hx10
  obtain ⟨wN, HWN⟩ : ∃ k : Nat, Hid (8 * (a + 1) = k) := ⟨_, rfl⟩
  have e0 := i64_in (1 + (a : Int)) (by omega)
  have e1 : IntKind.i64.wrap (8 * (1 + (a : Int))) = (wN : Int) := by have := unhide HWN; rw [i64_in _ (by omega)]; omega
  have hwN : 8 ≤ wN ∧ wN ≤ 24 := by have := unhide HWN; omega
  have HC1 := hide c1
  have HG1 := hide g1
  clear c1 g1 HC0 hx10
  go_wp2_with fail
  refine (pick_of tb ao n cap q1 3 zs w1 (unhide HC1) (by omega) (by omega) (by omega)).mono ?_
  rintro e w2 ⟨x2, q2, rfl, hx20, hx21, c2, hq2, g2⟩
  obtain ⟨b, rfl⟩ := Int.eq_ofNat_of_zero_le hx20
  obtain ⟨hN, HHN⟩ : ∃ k : Nat, Hid (8 * (b + 1) = k) := ⟨_, rfl⟩
  have e2 := i64_in (1 + (b : Int)) (by omega)
  have e3 : IntKind.i64.wrap (8 * (1 + (b : Int))) = (hN : Int) := by have := unhide HHN; rw [i64_in _ (by omega)]; omega
  have hhN : 8 ≤ hN ∧ hN ≤ 24 := by have := unhide HHN; omega
  have HC2 := hide c2
  have HG2 := hide (grown_trans (unhide HG1) g2)
  clear c2 g2 HC1 HG1 hx20
  go_wp2_with fail
  refine (drawPlane16 tb ao n cap q2 zs wN hN 10 w2 (unhide HC2) (by omega) (fun h0 b off e => Nat.lt_of_lt_of_le (unhide HCO h0 b off e) (unhide HG2).size) (by omega) (by omega) (by omega)).mono ?_
  rintro e w3 ⟨v3, ys, q3, rfl, hy3, hq3, d3⟩
  obtain ⟨so, sc, rfl⟩ := own_form d3.own
  have HD3 : Hid (Dw w0 tb ao n cap zs q3 w3 (.slice so ys.length sc) ys) := ⟨own_base d3.own (unhide HG2).size, d3.cur, grown_trans (unhide HG2) d3.grown⟩
  have HY3 := hide hy3
  clear d3 HC2 HG2 hy3
  go_wp2_with fail
  refine (once_of tb ao n cap q3 8 zs w3 (unhide HD3).cur (by omega) (by omega) (by omega)).mono ?_
  rintro e w4 ⟨t, q4, rfl, c4, hq4, g4⟩
  have HD4 := hide ((unhide HD3).pick hlt c4 g4)
  clear c4 g4 HD3
  cases t with
  | false =>
    have HGF : Hid (w.grownBy w4 none) := grown_new (unhide HG0) (unhide HD4).grown (fun g e => by simp at e; have := unhide HTB; omega)
    go_wp2
    exact bodyPost_ret (v := .tuple #[.slice so ys.length sc, .int .i64 (wN : Int), .int .i64 (hN : Int)]) (by simp [results, Try.results21, go_sem]) rfl ⟨so, sc, ys, wN, hN, rfl, unhide HY3, by omega, by omega, own_rd (unhide HD4).own, unhide HGF⟩
  | true =>
    obtain ⟨vN, HVN⟩ : ∃ k : Nat, Hid (wN - 1 = k) := ⟨_, rfl⟩
    have e4 : IntKind.i64.wrap ((wN : Int) - 1) = (vN : Int) := by have := unhide HVN; rw [i64_in _ (by omega)]; omega
    have hvN : 7 ≤ vN ∧ vN ≤ 23 := by have := unhide HVN; omega
    have HC4 := hide (unhide HD4).cur
    have HG4 := hide (unhide HD4).grown
    clear HD4
    go_wp2_with fail
    refine (drawPlane16 tb ao n cap q4 zs vN hN 10 w4 (unhide HC4) (by omega) (fun h0 b off e => Nat.lt_of_lt_of_le (unhide HCO h0 b off e) (unhide HG4).size) (by omega) (by omega) (by omega)).mono ?_
    rintro e w5 ⟨v5, y5, q5, rfl, hy5, hq5, d5⟩
    obtain ⟨so5, sc5, rfl⟩ := own_form d5.own
    have HD5 := hide d5
    have HY5 := hide hy5
    have HGF : Hid (w.grownBy w5 none) := grown_new (unhide HG0) (grown_trans (unhide HG4) d5.grown) (fun g e => by simp at e; have := unhide HTB; omega)
    clear d5 hy5
    go_wp2
    exact bodyPost_ret (v := .tuple #[.slice so5 y5.length sc5, .int .i64 (vN : Int), .int .i64 (hN : Int)]) (by simp [results, Try.results21, go_sem]) rfl ⟨so5, sc5, y5, vN, hN, rfl, unhide HY5, by omega, by omega, own_rd (unhide HD5).own, unhide HGF⟩

end Go.Proofs.Ytkefpjbdkhifhaa

namespace Go.Proofs.Ytkefpjbdkhifhaa
open Go.RowKit

theorem lawBig (ao : Option Addr) (n cap : Nat) (t : Bool) (w : World) (h : Hid (decide ((1048576 : Int) < (n : Int)) = t)) :
    Calls Try.prog 12 #[.slice ao n cap] w fun e w' => e = .returned (.bool t) ∧ w = w' := by
  go_enter Try.func12, Try.ntmps12
  go_wp2
  go_ret
  exact ⟨ret_bool (by rw [← unhide h]), rfl⟩

set_option maxHeartbeats 800000 in
theorem lawPick (ao : Option Addr) (n cap a : Nat) (k : Int) (zs : List Int) (w : World) (hr : Rd .u8 w ao n zs) (hb : ∀ i, 0 ≤ zs.getD i 0 ∧ zs.getD i 0 ≤ 255) (hn : n ≤ 1048576) (ha : a ≤ 1000000) (hk : 2 ≤ k) (hk3 : k ≤ 2147483648) :
    Calls Try.prog 18 #[.slice ao n cap, .int .i64 a, .int .i64 k] w fun e w' => (∃ x : Int, e = .returned (.int .i64 x) ∧ 0 ≤ x ∧ x < k) ∧ w = w' := by
  obtain ⟨hl, hc⟩ := hr
  by_cases hn0 : n = 0
  · subst hn0
    go_enter Try.func18, Try.ntmps18
    go_wp2
    go_ret
    exact ⟨⟨0, rfl, by omega, by omega⟩, rfl⟩
  · have h0 : ((n : Int) == 0) = false := by simp; omega
    have h2 : decide (k < 2) = false := by simp; omega
    go_enter Try.func18, Try.ntmps18
    go_wp2
    go_loop [7, 8] (fun v i => ∃ (x : Int) (j : Nat), j ≤ 3 ∧ i = .int .i64 j ∧ v = .int .i64 x ∧ 0 ≤ x ∧ x ≤ 253215 ∧ (j ≤ 2 → x ≤ 8160) ∧ (j ≤ 1 → x ≤ 255) ∧ (j ≤ 0 → x ≤ 0)) (fun _ i => 3 - (intOf i).toNat)
    case atStart => exact ⟨0, 0, by omega, rfl, rfl, by omega, by omega, by omega, by omega, by omega⟩
    case round =>
      obtain ⟨x, j, hj, rfl, rfl, hx0, hx1, hx2, hx3, hx4⟩ := hrel
      by_cases hlt : j < 3
      · have hm : (a + j) % n < n := Nat.mod_lt _ (by omega)
        obtain ⟨b, off, rfl, hcb⟩ := hc ((a + j) % n) hm
        have hbb := hb ((a + j) % n)
        generalize zs.getD ((a + j) % n) 0 = y at hcb hbb
        obtain ⟨hy0, hy1⟩ := hbb
        have hmi : (((a : Int) + (j : Int)) % (n : Int)) < (n : Int) := Int.emod_lt_of_pos _ (by omega)
        have hmi0 : 0 ≤ (((a : Int) + (j : Int)) % (n : Int)) := Int.emod_nonneg _ (by omega)
        have H2 := hide hx2
        have H3 := hide hx3
        have H4 := hide hx4
        have hx8 : x ≤ 8160 := hx2 (by omega)
        clear hc hb hx2 hx3 hx4
        go_wp2
        go_round
        case rel => exact ⟨31 * x + y, j + 1, by omega, by go_num, rfl, by omega, by omega, by have := unhide H3; omega, by have := unhide H4; omega, by omega⟩
        case measure => simp [intOf]; omega
      · go_wp2
        go_ret
        exact ⟨⟨(x + (a : Int)) % k, rfl, Int.emod_nonneg _ (by omega), Int.emod_lt_of_pos _ (by omega)⟩, rfl⟩

/-- What a new row of cells holds. -/
theorem cells_new (w : World) (cs : List Value) (t : TypeId) : ∀ j u, cs[j]? = some u → (w.alloc (.cells cs.toArray t)).cell? ((⟨w.heap.size, 0, none⟩ : Addr).add j) = some u := by
  intro j u h
  rw [Addr.add_lit, Nat.zero_add, cell_of_row _ w.heap.size j _ _ (0, 0) (heap_alloc_new w _)]
  simpa using h

end Go.Proofs.Ytkefpjbdkhifhaa

namespace Go.Proofs.Ytkefpjbdkhifhaa
open Go.RowKit

set_option maxHeartbeats 400000 in
theorem sameIntsQ (ao bo : Option Addr) (n cap cap' : Nat) (zs : List Int) (w : World) (hx : Rd .i64 w ao n zs) (hy : Rd .i64 w bo n zs) (hn : n ≤ 4194304) :
    Calls Try.prog 15 #[.slice ao n cap, .slice bo n cap'] w fun e w' => e = .returned (.bool true) ∧ ∃ q, w' = w.drewN q := by
  obtain ⟨hl, hc⟩ := hx
  obtain ⟨_, hd⟩ := hy
  have hne : ((n : Int) != n) = false := by simp
  go_enter Try.func15, Try.ntmps15
  go_wp2
  go_loopw [5] (fun i wr => ∃ k q : Nat, k ≤ n ∧ i = .int .i64 k ∧ wr = w.drewN q) (fun i _ => n - (intOf i).toNat)
  case atStart => exact ⟨0, 0, Nat.zero_le _, rfl, rfl⟩
  case round =>
    obtain ⟨k, q, hk, rfl, rfl⟩ := hrel
    by_cases hlt : k < n
    · obtain ⟨b, off, rfl, hcb⟩ := hc k hlt
      obtain ⟨b', off', rfl, hcd⟩ := hd k hlt
      generalize zs.getD k 0 = x at hcb hcd
      have hik : (k : Int) < (n : Int) := by omega
      clear hc hd
      go_wp2
      go_quiet (fail)
      go_wp2
      go_roundw
      case rel => exact ⟨k + 1, _, by omega, by go_num, rfl⟩
      case measure => simp [intOf]; omega
    · go_wp2
      go_ret
      exact ⟨rfl, _, rfl⟩
theorem sameInts (ao bo : Option Addr) (n cap cap' : Nat) (zs : List Int) (w : World) (hx : Rd .i64 w ao n zs) (hy : Rd .i64 w bo n zs) (hn : n ≤ 4194304) :
    Calls Try.prog 15 #[.slice ao n cap, .slice bo n cap'] w fun e w' => e = .returned (.bool true) ∧ w.grownBy w' none := by
  refine (sameIntsQ ao bo n cap cap' zs w hx hy hn).mono ?_
  rintro e w' ⟨rfl, q, rfl⟩
  exact ⟨rfl, grown_drewN (World.grownBy.refl _ _) _⟩

end Go.Proofs.Ytkefpjbdkhifhaa

namespace Go.Proofs.Ytkefpjbdkhifhaa
open Go.RowKit

theorem fillIntSS (a : List (List Int)) (i : Nat) (h : i < a.length) : (a.take i ++ List.replicate (a.length - i) []).set i a[i] = a.take (i + 1) ++ List.replicate (a.length - (i + 1)) [] := by
  have hl : (a.take i).length = i := by rw [List.length_take]; omega
  rw [List.set_append_right _ _ (by omega), hl, Nat.sub_self, show a.length - i = (a.length - (i + 1)) + 1 by omega, List.replicate_succ, List.set_cons_zero, List.take_succ_eq_append_getElem h, List.append_assoc]
  rfl

set_option maxRecDepth 20000 in
set_option maxHeartbeats 1600000 in
theorem toIntSSD (HE : ToC 30 (RdI .i64) (OwI .i64 3) (lenI)) (hQ : StR (RdI .i64)) (hP : OwOk (OwI .i64 3)) (hN : ∀ w, (OwI .i64 3) w (.slice none 0 0) [] []) : ToC 41 (RdR (RdI .i64)) (OwR 24 (OwI .i64 3)) (szR (lenI)) := by
  intro w u a hq hs
  obtain ⟨ao, cap, rfl, hel⟩ := hq
  obtain ⟨i0, hi, hz0, hz1, hz2⟩ := info_parts infoIntSS
  have HEL := hide hel
  have HEE := hide HE
  have hlen := szR_len (lenI) a
  have HSE := hide (fun i h => (szR_el (lenI) a i h).2)
  obtain ⟨n, HN⟩ : ∃ n, Hid (a.length = n) := ⟨_, rfl⟩
  have hn : n ≤ 1048576 := by have := unhide HN; omega
  have HS := hide hs
  rw [unhide HN]
  clear hel HE hs hlen
  go_enter Try.func41, Try.ntmps41
  go_wp2_with (at_make; refine wpList_make_full _ rfl _ _ 33 rfl w.heap.size 24 i0 (.slice none 0 0) 1 Try.underlying33 hi hz0 hz1 .i64 .i64 _ _ n rfl rfl rfl rfl (by rw [hz2]; omega) (by unfold maxLen; omega) (Nat.le_refl _) ?_)
  intro w1 hown hgrow
  rw [toList_madeCells_one] at hown
  have HO1 : Hid (OwR 24 (OwI .i64 3) w1 (.slice (some ⟨w.heap.size, 0, none⟩) n n) (a.take 0 ++ List.replicate (a.length - 0) []) (blk (.slice (some ⟨w.heap.size, 0, none⟩) n n))) := by
    have h := OwR.made hN hown
    rw [List.take_zero, List.nil_append, Nat.sub_zero, unhide HN]
    exact h
  have HG1 := hide hgrow
  have HF1 : Hid (∀ g ∈ blk (.slice (some ⟨w.heap.size, 0, none⟩) n n), w.heap.size ≤ g) := fun g hg => by have : w.heap.size = g := Option.some.inj (mem_blk.1 hg); omega
  clear hown hgrow hi hz0 hz1 hz2
  go_wp2
  go_loopw [4] (fun iv wr => ∃ (i : Nat) (F : List Nat), i ≤ n ∧ iv = .int .i64 i ∧ Hid (OwR 24 (OwI .i64 3) wr (.slice (some ⟨w.heap.size, 0, none⟩) n n) (a.take i ++ List.replicate (a.length - i) []) F) ∧ Hid F.Nodup ∧ Hid (∀ g ∈ F, w.heap.size ≤ g) ∧ Hid (w.grownBy wr none)) (fun iv _ => n - (intOf iv).toNat)
  case atStart => exact ⟨0, _, Nat.zero_le _, rfl, HO1, blk_nodup _, HF1, HG1⟩
  case round =>
    clear HO1 HG1 HF1
    obtain ⟨i, F, hin, rfl, ho, hnd, hF, hg⟩ := hrel
    by_cases hlt : i < n
    · have hia : i < a.length := by rw [unhide HN]; exact hlt
      obtain ⟨b, off, u, rfl, c0, q0⟩ := unhide HEL i hia
      have c1 := (unhide hg).cell c0 (by simp)
      have HT := hide (unhide HEE wr u a[i] (hQ _ _ _ _ q0 (unhide hg)) (Nat.le_trans (unhide HSE i hia) (unhide HS)))
      have hiI : (i : Int) < (n : Int) := by omega
      clear c0 q0
      go_wp2_with fail
      refine (unhide HT).mono ?_
      rintro e w2 ⟨u', F', rfl, p2, n2, b2, g2⟩
      obtain ⟨uo, un, uc, rfl⟩ := hP.form _ _ _ _ p2
      have ho2 := (OwR.ok hP).keep (unhide ho) g2
      have hll : i < (a.take i ++ List.replicate (a.length - i) ([] : List Int)).length := by simp; omega
      obtain ⟨g0, cap0, u0, e0, c2, f2⟩ := ho2.slot i hll
      obtain rfl : g0 = w.heap.size := by simp at e0; exact e0.1.symm
      obtain ⟨F3, o3, n3, m3⟩ := ho2.put hP (unhide hnd) i hll (g := w.heap.size) rfl p2 n2 (fun x hx hx2 => by
        have h1 := b2 x hx
        have h2 := (OwR.ok hP).lt _ _ _ _ (unhide ho) x hx2
        omega)
      rw [fillIntSS a i hia] at o3
      have HO3 := hide o3
      have HF3 : Hid (∀ g ∈ F3, w.heap.size ≤ g) := fun g hg3 => by
        rcases m3 g hg3 with h | h
        · exact unhide hF g h
        · exact Nat.le_trans (unhide hg).size (b2 g h)
      have HG3 : Hid (w.grownBy (w2.setCell ⟨w.heap.size, i, none⟩ (.slice uo un uc)) none) := grown_new (grown_trans (unhide hg) g2) (grown_set w2 w.heap.size i (.slice uo un uc)) (fun k e => by have := Option.some.inj e; omega)
      have HN3 := hide n3
      clear ho2 o3 n3 m3 p2 n2 b2 g2 HT ho hnd hF hg e0 c1
      go_wp2
      go_roundw
      case rel => exact ⟨i + 1, F3, by omega, by go_num, HO3, HN3, HF3, HG3⟩
      case measure => simp [intOf]; omega
    · obtain rfl : i = n := by omega
      have HO4 : Hid (OwR 24 (OwI .i64 3) wr (.slice (some ⟨w.heap.size, 0, none⟩) i i) a F) := by
        have h := unhide ho
        rw [← unhide HN, List.take_length, Nat.sub_self, List.replicate_zero, List.append_nil, unhide HN] at h
        exact h
      clear ho
      go_wp2
      go_ret
      exact ⟨_, F, rfl, unhide HO4, unhide hnd, unhide hF, unhide hg⟩

set_option maxRecDepth 20000 in
set_option maxHeartbeats 1600000 in
theorem eqIntSSD (HE : EqC 32 (RdI .i64) (lenI)) (hQ : StR (RdI .i64)) : EqC 36 (RdR (RdI .i64)) (szR (lenI)) := by
  intro w u u' a hq hq' hs
  obtain ⟨ao, cap, rfl, hel⟩ := hq
  obtain ⟨bo, cap', rfl, hel'⟩ := hq'
  have HEL := hide hel
  have HEM := hide hel'
  have HEE := hide HE
  have hlen := szR_len (lenI) a
  have HSE := hide (fun i h => (szR_el (lenI) a i h).2)
  obtain ⟨n, HN⟩ : ∃ n, Hid (a.length = n) := ⟨_, rfl⟩
  have hn : n ≤ 1048576 := by have := unhide HN; omega
  have HS := hide hs
  rw [unhide HN]
  have hne : ((n : Int) != n) = false := by simp
  clear hel hel' HE hs hlen
  go_enter Try.func36, Try.ntmps36
  go_wp2
  go_loopw [5] (fun iv wr => ∃ i : Nat, i ≤ n ∧ iv = .int .i64 i ∧ Hid (w.grownBy wr none)) (fun iv _ => n - (intOf iv).toNat)
  case atStart => exact ⟨0, Nat.zero_le _, rfl, World.grownBy.refl _ _⟩
  case round =>
    obtain ⟨i, hin, rfl, hg⟩ := hrel
    by_cases hlt : i < n
    · have hia : i < a.length := by rw [unhide HN]; exact hlt
      obtain ⟨b, off, u, rfl, c0, q0⟩ := unhide HEL i hia
      obtain ⟨b', off', u', rfl, c0', q0'⟩ := unhide HEM i hia
      have d0 := (unhide hg).cell c0 (by simp)
      have d1 := (unhide hg).cell c0' (by simp)
      have HD := hide (And.intro d0 d1)
      have HT : Hid (∀ W, wr.grownBy W none → Calls Try.prog 32 #[u, u'] W fun e w' => e = .returned (.bool true) ∧ W.grownBy w' none) := fun W gW => unhide HEE W u u' a[i] (hQ _ _ _ _ q0 (grown_trans (unhide hg) gW)) (hQ _ _ _ _ q0' (grown_trans (unhide hg) gW)) (Nat.le_trans (unhide HSE i hia) (unhide HS))
      have hiI : (i : Int) < (n : Int) := by omega
      clear c0 q0 c0' q0'
      go_wp2
      refine wp_region_noPanic ?_
      refine wp_region_tailL 20 (fun w' => w'.cell? ⟨b, off + i, none⟩ = some u ∧ w'.cell? ⟨b', off' + i, none⟩ = some u') [true, true, true, true, true, true, true, true, false, false] (by kernel_rfl) (fun _ _ _ _ _ h => h) rfl (by decide) (by kernel_rfl) (unhide HD) ?_
      iterate 8
        refine heldF_take (v := ?_) (Or.inl ⟨by rfl, ?_⟩) ?_
        rotate_left 1
        · intro w' hSw
          try dsimp only at hSw
          obtain ⟨z0, z1⟩ := hSw
          go_simp
          try with_reducible rfl
        simp only [Act.put, List.setIfInBounds_toArray, List.set_cons_zero, List.set_cons_succ]
      iterate 2 refine heldF_skip ?_
      refine heldF_nil ?_
      iterate 8 refine tailL_skip ?_
      refine tailL_step (fun K hK => ?_)
      go_simp
      refine (unhide HT _ (grown_drew (World.grownBy.refl _ _))).mono ?_
      rintro e w2 ⟨rfl, g2⟩
      have g3 := grown_trans (grown_drew (World.grownBy.refl wr none)) g2
      have HD2 := hide (And.intro (g3.cell d0 (by simp)) (g3.cell d1 (by simp)))
      have HG3 := hide (grown_trans (unhide hg) g3)
      clear g2 g3 hg HT d0 d1 HD
      go_simp
      refine hK.out _ _ (.inr (unhide HD2)) ?_
      clear hK K
      refine tailL_step (fun K hK => ?_)
      go_simp
      refine hK.out _ _ (.inl rfl) ?_
      clear hK K HD2
      refine tailL_nil (NoPanic.normal ?_)
      go_wp2
      go_roundw
      case rel => exact ⟨i + 1, by omega, by go_num, HG3⟩
      case measure => simp [intOf]; omega
    · obtain rfl : i = n := by omega
      go_wp2
      go_ret
      exact ⟨rfl, unhide hg⟩

set_option maxRecDepth 20000 in
set_option maxHeartbeats 1600000 in
theorem markIntSSD (HE : MarkC 33 (OwI .i64 3) (mkI) (lenI) (lenI)) (hP : OwOk (OwI .i64 3)) : MarkC 37 (OwR 24 (OwI .i64 3)) (mkR (mkI) (lenI)) (cntR (lenI)) (szR (lenI)) := by
  intro w u a F k hp hnd hs hk0 hk1
  obtain ⟨ao, cap, rfl⟩ := hp.form
  have HEE := hide HE
  have HND := hide hnd
  have hlen := szR_len (lenI) a
  have HSE := hide (fun i h => (szR_el (lenI) a i h).2)
  have H0 : Hid (OwR 24 (OwI .i64 3) w (.slice ao a.length cap) (overR (mkI) (lenI) a k 0) F) := hp
  obtain ⟨n, HN⟩ : ∃ n, Hid (a.length = n) := ⟨_, rfl⟩
  have hn : n ≤ 1048576 := by have := unhide HN; omega
  have HS := hide hs
  obtain ⟨tot, HTOT⟩ : ∃ tot, Hid (cntR (lenI) a = tot) := ⟨_, rfl⟩
  rw [unhide HTOT] at hk1 ⊢
  rw [unhide HN] at H0 ⊢
  obtain ⟨A2, HA2⟩ : ∃ A2, Hid (mkR (mkI) (lenI) a k = A2) := ⟨_, rfl⟩
  rw [unhide HA2]
  clear hp HE hs hlen hnd
  go_enter Try.func37, Try.ntmps37
  go_wp2
  go_loopw [1, 5] (fun kv iv wr => ∃ (i c : Nat), i ≤ n ∧ iv = .int .i64 i ∧ kv = .int .i64 (k + (c : Int)) ∧ Hid (cntR (lenI) (a.take i) = c) ∧ Hid (OwR 24 (OwI .i64 3) wr (.slice ao n cap) (overR (mkI) (lenI) a k i) F) ∧ Hid (Wr F w wr)) (fun _ iv _ => n - (intOf iv).toNat)
  case atStart => exact ⟨0, 0, Nat.zero_le _, rfl, by simp, rfl, H0, Wr.refl _ _⟩
  case round =>
    clear H0
    obtain ⟨i, c, hin, rfl, rfl, hc, ho, hw⟩ := hrel
    by_cases hlt : i < n
    · have hia : i < a.length := by rw [unhide HN]; exact hlt
      have hol : i < (overR (mkI) (lenI) a k i).length := by rw [overR_len _ _ _ _ _ (by omega)]; exact hia
      have hnx := cntR_next (lenI) a i hia
      have hle := cntR_le (lenI) a (i + 1)
      rw [unhide hc] at hnx
      rw [hnx, unhide HTOT] at hle
      obtain ⟨g, cap0, u, Fi, e0, hgF, c0, p0, nd0, _, sub0, back⟩ := (unhide ho).at hP (unhide HND) i hol
      rw [overR_at (mkI) (lenI) a k i hia] at p0
      obtain ⟨rfl, rfl⟩ : ao = some ⟨g, 0, none⟩ ∧ cap = cap0 := by simp at e0; exact ⟨e0.1, e0.2.2⟩
      have HT := hide (unhide HEE wr u a[i] Fi (k + (c : Int)) p0 nd0 (Nat.le_trans (unhide HSE i hia) (unhide HS)) (by omega) (by omega))
      obtain ⟨ce, HCE⟩ : ∃ ce, Hid ((lenI) a[i] = ce) := ⟨_, hide rfl⟩
      rw [unhide HCE] at HT hnx hle
      have HBK := hide back
      have HSB := hide sub0
      have HNX := hide hnx
      have hiI : (i : Int) < (n : Int) := by omega
      clear p0 nd0 back sub0 e0 hgF hnx
      go_wp2_with fail
      refine (unhide HT).mono ?_
      rintro e w2 ⟨rfl, p2, g2⟩
      have h2 := unhide HBK w2 _ g2 p2
      rw [← unhide hc, overR_set (mkI) (lenI) a k i hia] at h2
      have HO2 := hide h2
      have HW2 := hide ((unhide hw).trans (g2.mono (unhide HSB)))
      clear p2 g2 h2 HT HBK HSB ho hw c0
      have e5 : k + (c : Int) + (ce : Int) = k + ((c + ce : Nat) : Int) := by omega
      rw [e5]
      go_wp2
      go_roundw
      case rel => exact ⟨i + 1, c + ce, by omega, by go_num, rfl, HNX, HO2, HW2⟩
      case measure => simp [intOf]; omega
    · obtain rfl : i = n := by omega
      have HO4 : Hid (OwR 24 (OwI .i64 3) wr (.slice ao i cap) A2 F) := by
        have h := unhide ho
        have e9 : overR (mkI) (lenI) a k i = A2 := by rw [← unhide HN, overR_all]; exact unhide HA2
        rw [e9] at h
        exact h
      have hct : c = tot := by rw [← unhide hc, ← unhide HN, cntR_all]; exact unhide HTOT
      subst hct
      clear ho hc
      go_wp2
      go_ret
      exact ⟨rfl, unhide HO4, unhide hw⟩

set_option maxRecDepth 20000 in
set_option maxHeartbeats 1600000 in
theorem heldIntSSD (HE : HeldC 34 (RdI .i64) (mkI) (lenI) (lenI)) (hQ : StR (RdI .i64)) : HeldC 38 (RdR (RdI .i64)) (mkR (mkI) (lenI)) (cntR (lenI)) (szR (lenI)) := by
  intro w u a k hq hs hk0 hk1
  obtain ⟨ao, cap, rfl, hel⟩ := hq
  have HEL := hide hel
  have HEE := hide HE
  have hlen := szR_len (lenI) a
  have HSE := hide (fun i h => (szR_el (lenI) a i h).2)
  rw [mkR_len]
  obtain ⟨n, HN⟩ : ∃ n, Hid (a.length = n) := ⟨_, rfl⟩
  have hn : n ≤ 1048576 := by have := unhide HN; omega
  have HS := hide hs
  obtain ⟨tot, HTOT⟩ : ∃ tot, Hid (cntR (lenI) a = tot) := ⟨_, rfl⟩
  rw [unhide HTOT] at hk1 ⊢
  rw [unhide HN]
  clear hel HE hs hlen
  go_enter Try.func38, Try.ntmps38
  go_wp2
  go_loopw [1, 5] (fun kv iv wr => ∃ (i c : Nat), i ≤ n ∧ iv = .int .i64 i ∧ kv = .int .i64 (k + (c : Int)) ∧ Hid (cntR (lenI) (a.take i) = c) ∧ Hid (w.grownBy wr none)) (fun _ iv _ => n - (intOf iv).toNat)
  case atStart => exact ⟨0, 0, Nat.zero_le _, rfl, by simp, rfl, World.grownBy.refl _ _⟩
  case round =>
    obtain ⟨i, c, hin, rfl, rfl, hc, hg⟩ := hrel
    by_cases hlt : i < n
    · have hia : i < a.length := by rw [unhide HN]; exact hlt
      have hnx := cntR_next (lenI) a i hia
      have hle := cntR_le (lenI) a (i + 1)
      rw [unhide hc] at hnx
      rw [hnx, unhide HTOT] at hle
      obtain ⟨b, off, u, rfl, c0, q0⟩ := unhide HEL i (by rw [mkR_len]; exact hia)
      rw [mkR_at (mkI) (lenI) a k i hia, unhide hc] at q0
      have c1 := (unhide hg).cell c0 (by simp)
      have HT := hide (unhide HEE wr u a[i] (k + (c : Int)) (hQ _ _ _ _ q0 (unhide hg)) (Nat.le_trans (unhide HSE i hia) (unhide HS)) (by omega) (by omega))
      obtain ⟨ce, HCE⟩ : ∃ ce, Hid ((lenI) a[i] = ce) := ⟨_, hide rfl⟩
      rw [unhide HCE] at HT hnx hle
      have HNX := hide hnx
      have hiI : (i : Int) < (n : Int) := by omega
      clear c0 q0 hnx
      go_wp2_with fail
      refine (unhide HT).mono ?_
      rintro e w2 ⟨rfl, g2⟩
      have HG2 := hide (grown_trans (unhide hg) g2)
      clear g2 HT hg c1
      have e5 : k + (c : Int) + (ce : Int) = k + ((c + ce : Nat) : Int) := by omega
      rw [e5]
      have hneg : decide (k + ((c + ce : Nat) : Int) < 0) = false := decide_eq_false (by omega)
      obtain ⟨kk, HKK⟩ : ∃ kk : Int, Hid (k + ((c + ce : Nat) : Int) = kk) := ⟨_, hide rfl⟩
      rw [unhide HKK] at hneg ⊢
      go_wp2
      go_roundw
      case rel => exact ⟨i + 1, c + ce, by omega, by go_num, by rw [unhide HKK], HNX, HG2⟩
      case measure => simp [intOf]; omega
    · obtain rfl : i = n := by omega
      have hct : c = tot := by rw [← unhide hc, ← unhide HN, cntR_all]; exact unhide HTOT
      subst hct
      clear hc
      go_wp2
      go_ret
      exact ⟨rfl, unhide hg⟩

set_option maxRecDepth 20000 in
set_option maxHeartbeats 1600000 in
theorem szIntSSD (HE : SzC 68 (RdZ (RdI .i64)) (lenI)) : SzC 39 (RdZ (RdR (RdZ (RdI .i64)))) (szR (lenI)) := by
  intro w u a left hq hl
  obtain ⟨⟨ao, cap, rfl, hel⟩, hmx⟩ := hq
  unfold maxLen at hmx
  have HEL := hide hel
  have HEE := hide HE
  obtain ⟨n, HN⟩ : ∃ n, Hid (a.length = n) := ⟨_, rfl⟩
  have HSZ : Hid (szR (lenI) a = n + cntR (lenI) a) := by unfold Hid szR; rw [unhide HN]; rfl
  obtain ⟨res, HRES⟩ : ∃ res : Int, Hid ((if szR (lenI) a ≤ left then (left : Int) - szR (lenI) a else -1) = res) := ⟨_, rfl⟩
  rw [unhide HRES]
  rw [unhide HN] at hmx ⊢
  have e1 := i64_in ((left : Int) - (n : Int)) (by omega)
  clear hel HE
  by_cases hnl : n ≤ left
  · have hd : decide ((left : Int) - (n : Int) < 0) = false := decide_eq_false (by omega)
    go_enter Try.func39, Try.ntmps39
    go_wp2
    go_loopw [1, 5] (fun kv iv wr => ∃ (i c : Nat), i ≤ n ∧ iv = .int .i64 i ∧ kv = .int .i64 ((left : Int) - (n : Int) - (c : Int)) ∧ n + c ≤ left ∧ Hid (cntR (lenI) (a.take i) = c) ∧ wr = w) (fun _ iv _ => n - (intOf iv).toNat)
    case atStart => exact ⟨0, 0, Nat.zero_le _, rfl, by simp, by omega, rfl, rfl⟩
    case round =>
      obtain ⟨i, c, hin, rfl, rfl, hcl, hc, rfl⟩ := hrel
      by_cases hlt : i < n
      · have hia : i < a.length := by rw [unhide HN]; exact hlt
        have hnx := cntR_next (lenI) a i hia
        have hle := cntR_le (lenI) a (i + 1)
        rw [unhide hc] at hnx
        obtain ⟨b, off, u, rfl, c0, q0⟩ := unhide HEL i hia
        obtain ⟨lf, hlf⟩ : ∃ lf : Nat, left - n - c = lf := ⟨_, rfl⟩
        have e2 : (left : Int) - (n : Int) - (c : Int) = (lf : Int) := by omega
        have HT := hide (unhide HEE wr u a[i] lf q0 (by omega))
        obtain ⟨ce, HCE⟩ : ∃ ce, Hid ((lenI) a[i] = ce) := ⟨_, hide rfl⟩
        rw [unhide HCE] at HT hnx
        have hiI : (i : Int) < (n : Int) := by omega
        rw [e2]
        by_cases hce : ce ≤ lf
        · have hi1 : (if ce ≤ lf then (lf : Int) - (ce : Int) else -1) = (left : Int) - (n : Int) - ((c + ce : Nat) : Int) := by rw [if_pos hce]; omega
          rw [hi1] at HT
          have HNX := hide hnx
          have hneg : decide ((left : Int) - (n : Int) - ((c + ce : Nat) : Int) < 0) = false := decide_eq_false (by omega)
          obtain ⟨kk, HKK⟩ : ∃ kk : Int, Hid ((left : Int) - (n : Int) - ((c + ce : Nat) : Int) = kk) := ⟨_, hide rfl⟩
          rw [unhide HKK] at hneg HT
          clear q0 hnx hle hi1
          go_wp2_with fail
          refine (unhide HT).mono ?_
          rintro e w2 ⟨rfl, rfl⟩
          clear HT
          go_wp2
          go_roundw
          case rel => exact ⟨i + 1, c + ce, by omega, by go_num, by rw [unhide HKK], by omega, HNX, trivial⟩
          case measure => simp [intOf]; omega
        · rw [if_neg hce] at HT
          have hres : res = -1 := by
            rw [← unhide HRES, if_neg]
            rw [unhide HSZ]
            omega
          subst hres
          clear q0 hnx hle
          go_wp2_with fail
          refine (unhide HT).mono ?_
          rintro e w2 ⟨rfl, rfl⟩
          clear HT
          go_wp2
          go_ret
          exact ⟨rfl, rfl⟩
      · obtain rfl : i = n := by omega
        have hct : cntR (lenI) a = c := by rw [← unhide hc, ← unhide HN, cntR_all]
        have hres : res = (left : Int) - (i : Int) - (c : Int) := by
          rw [← unhide HRES, unhide HSZ, hct, if_pos (by omega)]
          omega
        subst hres
        clear hc hct
        go_wp2
        go_ret
        exact ⟨rfl, rfl⟩
  · have hd : decide ((left : Int) - (n : Int) < 0) = true := decide_eq_true (by omega)
    have hres : res = -1 := by
      rw [← unhide HRES, if_neg]
      rw [unhide HSZ]
      omega
    subst hres
    go_enter Try.func39, Try.ntmps39
    go_wp2
    go_ret
    exact ⟨rfl, rfl⟩

end Go.Proofs.Ytkefpjbdkhifhaa

namespace Go.Proofs.Ytkefpjbdkhifhaa
open Go.RowKit

theorem toIntSSC : ToC 41 Rd2 Ow2 (szR lenI) := toIntSSD toIntSC (RdI.st .i64) ok1 (OwI.nil .i64 3)

theorem eqIntSSC : EqC 36 Rd2 (szR lenI) := eqIntSSD eqIntSC (RdI.st .i64)

theorem markIntSSC : MarkC 37 Ow2 (mkR mkI lenI) (cntR lenI) (szR lenI) := markIntSSD markIntSC ok1

theorem heldIntSSC : HeldC 38 Rd2 (mkR mkI lenI) (cntR lenI) (szR lenI) := heldIntSSD heldIntSC (RdI.st .i64)

theorem szIntSSC : SzC 39 (RdZ (RdR (RdZ (RdI .i64)))) (szR lenI) := szIntSSD szIntSC

end Go.Proofs.Ytkefpjbdkhifhaa

namespace Go.Proofs.Ytkefpjbdkhifhaa
open Go.RowKit

theorem sameIntsC : EqC 15 (RdI .i64) lenI := by
  rintro w u u' a ⟨ao, cap, rfl, hr⟩ ⟨bo, cap', rfl, hr'⟩ hs
  exact sameInts ao bo a.length cap cap' a w hr hr' (by unfold lenI at hs; omega)

set_option maxRecDepth 20000 in
set_option maxHeartbeats 1600000 in
theorem sameListsD (HE : EqC 15 (RdI .i64) lenI) (hQ : StR (RdI .i64)) : EqC 23 Rd2 (szR lenI) := by
  intro w u u' a hq hq' hs
  obtain ⟨ao, cap, rfl, hel⟩ := hq
  obtain ⟨bo, cap', rfl, hel'⟩ := hq'
  have HEL := hide hel
  have HEM := hide hel'
  have HEE := hide HE
  have hlen := szR_len (lenI) a
  have HSE := hide (fun i h => (szR_el (lenI) a i h).2)
  obtain ⟨n, HN⟩ : ∃ n, Hid (a.length = n) := ⟨_, rfl⟩
  have hn : n ≤ 1048576 := by have := unhide HN; omega
  have HS := hide hs
  rw [unhide HN]
  have hne : ((n : Int) != n) = false := by simp
  clear hel hel' HE hs hlen
  go_enter Try.func23, Try.ntmps23
  go_wp2
  go_loopw [5] (fun iv wr => ∃ i : Nat, i ≤ n ∧ iv = .int .i64 i ∧ Hid (w.grownBy wr none)) (fun iv _ => n - (intOf iv).toNat)
  case atStart => exact ⟨0, Nat.zero_le _, rfl, World.grownBy.refl _ _⟩
  case round =>
    obtain ⟨i, hin, rfl, hg⟩ := hrel
    by_cases hlt : i < n
    · have hia : i < a.length := by rw [unhide HN]; exact hlt
      obtain ⟨b, off, u, rfl, c0, q0⟩ := unhide HEL i hia
      obtain ⟨b', off', u', rfl, c0', q0'⟩ := unhide HEM i hia
      have d0 := (unhide hg).cell c0 (by simp)
      have d1 := (unhide hg).cell c0' (by simp)
      have HD := hide (And.intro d0 d1)
      have HT : Hid (∀ W, wr.grownBy W none → Calls Try.prog 15 #[u, u'] W fun e w' => e = .returned (.bool true) ∧ W.grownBy w' none) := fun W gW => unhide HEE W u u' a[i] (hQ _ _ _ _ q0 (grown_trans (unhide hg) gW)) (hQ _ _ _ _ q0' (grown_trans (unhide hg) gW)) (Nat.le_trans (unhide HSE i hia) (unhide HS))
      have hiI : (i : Int) < (n : Int) := by omega
      clear c0 q0 c0' q0'
      go_wp2
      refine wp_region_noPanic ?_
      refine wp_region_tailL 20 (fun w' => w'.cell? ⟨b, off + i, none⟩ = some u ∧ w'.cell? ⟨b', off' + i, none⟩ = some u') [true, true, true, true, true, true, true, true, false, false] (by kernel_rfl) (fun _ _ _ _ _ h => h) rfl (by decide) (by kernel_rfl) (unhide HD) ?_
      iterate 8
        refine heldF_take (v := ?_) (Or.inl ⟨by rfl, ?_⟩) ?_
        rotate_left 1
        · intro w' hSw
          try dsimp only at hSw
          obtain ⟨z0, z1⟩ := hSw
          go_simp
          try with_reducible rfl
        simp only [Act.put, List.setIfInBounds_toArray, List.set_cons_zero, List.set_cons_succ]
      iterate 2 refine heldF_skip ?_
      refine heldF_nil ?_
      iterate 8 refine tailL_skip ?_
      refine tailL_step (fun K hK => ?_)
      go_simp
      refine (unhide HT _ (grown_drew (World.grownBy.refl _ _))).mono ?_
      rintro e w2 ⟨rfl, g2⟩
      have g3 := grown_trans (grown_drew (World.grownBy.refl wr none)) g2
      have HD2 := hide (And.intro (g3.cell d0 (by simp)) (g3.cell d1 (by simp)))
      have HG3 := hide (grown_trans (unhide hg) g3)
      clear g2 g3 hg HT d0 d1 HD
      go_simp
      refine hK.out _ _ (.inr (unhide HD2)) ?_
      clear hK K
      refine tailL_step (fun K hK => ?_)
      go_simp
      refine hK.out _ _ (.inl rfl) ?_
      clear hK K HD2
      refine tailL_nil (NoPanic.normal ?_)
      go_wp2
      go_roundw
      case rel => exact ⟨i + 1, by omega, by go_num, HG3⟩
      case measure => simp [intOf]; omega
    · obtain rfl : i = n := by omega
      go_wp2
      go_ret
      exact ⟨rfl, unhide hg⟩

theorem sameListsC : EqC 23 Rd2 (szR lenI) := sameListsD sameIntsC (RdI.st .i64)

end Go.Proofs.Ytkefpjbdkhifhaa

namespace Go.Proofs.Ytkefpjbdkhifhaa
open Go.RowKit

set_option maxRecDepth 100000 in
set_option maxHeartbeats 6400000 in
theorem lawBlocksBack (ao bo : Option Addr) (n cap m cap2 : Nat) (zs xs : List Int) (w : World) (hr : Rd .u8 w ao n zs) (hb : ∀ i, 0 ≤ zs.getD i 0 ∧ zs.getD i 0 ≤ 255) (hr2 : Rd .u8 w bo m xs) (hb2 : ∀ i, 0 ≤ xs.getD i 0 ∧ xs.getD i 0 ≤ 255) :
    Calls Try.prog 4 #[.slice ao n cap, .slice bo m cap2] w fun e w' => e = .returned (.bool true) ∧ Below w.heap.size w w' := by
  have HR := hide hr
  have HB := hide hb
  have HR2 := hide hr2
  have HB2 := hide hb2
  clear hr hb hr2 hb2
  obtain ⟨bg, HBG⟩ : ∃ t, Hid (decide ((1048576 : Int) < (n : Int)) = t) := ⟨_, rfl⟩
  obtain ⟨bh, HBH⟩ : ∃ t, Hid (decide ((1048576 : Int) < (m : Int)) = t) := ⟨_, rfl⟩
  go_enter Try.func4, Try.ntmps4
  go_wp2_with fail
  refine (lawBig ao n cap bg w HBG).mono ?_
  rintro e w ⟨rfl, rfl⟩
  cases bg with
  | true =>
    go_wp2
    go_ret
    exact ⟨rfl, Below.refl _ _⟩
  | false =>
  have hn : n ≤ 1048576 := by have := of_decide_eq_false (unhide HBG); omega
  go_wp2_with fail
  refine (lawBig bo m cap2 bh w HBH).mono ?_
  rintro e w ⟨rfl, rfl⟩
  cases bh with
  | true =>
    go_wp2
    go_ret
    exact ⟨rfl, Below.refl _ _⟩
  | false =>
  have hm : m ≤ 1048576 := by have := of_decide_eq_false (unhide HBH); omega
  go_wp2_with fail
  refine (drawCutBlocks ao n cap zs w (unhide HR) (unhide HB) hn).mono ?_
  rintro e w1 ⟨so, sc, ys, wN, hN, rfl, hy, hwN, hhN, r1, g1⟩
  obtain ⟨yl, HYL⟩ : ∃ k, Hid (ys.length = k) := ⟨_, rfl⟩
  rw [unhide HYL] at r1 hy ⊢
  have RY := hide r1
  have G1 := hide g1
  clear r1 g1
  obtain ⟨L, HL⟩ : ∃ L, Hid (cutG ys (wN : Int) (hN : Int) = L) := ⟨_, rfl⟩
  have hL : szR lenI L ≤ 1048576 := by rw [← unhide HL]; exact (cut_few ys _ _).1
  obtain ⟨ll, HLL⟩ : ∃ k, Hid (L.length = k) := ⟨_, rfl⟩
  go_wp2_with fail
  refine (implCutBlocks so yl sc ys (wN : Int) (hN : Int) w1 (unhide RY) (by omega) L HL).mono ?_
  rintro e w2 ⟨⟨u2, F2, rfl, o2, _, _⟩, g2⟩
  obtain ⟨so2, sc2, rfl⟩ := OwR.form o2
  rw [unhide HLL] at o2 ⊢
  have OB2 := hide o2
  have G2 := hide (grown_trans (unhide G1) g2)
  have RY2 := hide ((unhide RY).grown g2)
  clear o2 g2 RY
  go_wp2_with fail
  refine (specCutBlocks so yl sc ys (wN : Int) (hN : Int) w2 (unhide RY2) (by omega) L HL).mono ?_
  rintro e w3 ⟨⟨u3, F3, rfl, o3, _, _⟩, g3⟩
  obtain ⟨so3, sc3, rfl⟩ := OwR.form o3
  rw [unhide HLL] at o3 ⊢
  have OS3 := hide o3
  have G3 := hide (grown_trans (unhide G2) g3)
  have OB3 := hide (ok2.keep (unhide OB2) g3)
  have RY3 := hide ((unhide RY2).grown g3)
  clear o3 g3 OB2 RY2
  go_wp2_with fail
  refine (sameListsC w3 _ _ L (Ow2.rd (unhide OB3)) (Ow2.rd (unhide OS3)) hL).mono ?_
  rintro e w4 ⟨rfl, g4⟩
  have G4 := hide (grown_trans (unhide G3) g4)
  have OB4 := hide (ok2.keep (unhide OB3) g4)
  have RY4 := hide ((unhide RY3).grown g4)
  clear g4 OB3 OS3 RY3
  by_cases hb0 : ll = 0
  · subst hb0
    clear OB4 RY4
    go_wp2_with fail
    refine (drawPad16 bo m cap2 xs w4 ((unhide HR2).grown (unhide G4)) (unhide HB2) hm).mono ?_
    rintro e v1 ⟨po, pc, ps, pw, ph, px, py, rfl, hpy, hpw, hph, r1, g1⟩
    obtain ⟨pl, HPL⟩ : ∃ k, Hid (ps.length = k) := ⟨_, rfl⟩
    rw [unhide HPL] at r1 hpy ⊢
    have RP := hide r1
    have GV1 := hide (grown_trans (unhide G4) g1)
    clear r1 g1
    obtain ⟨Q, HQ⟩ : ∃ Q, Hid (padG ps (pw : Int) (ph : Int) px py = Q) := ⟨_, rfl⟩
    have HQF : Hid (Q.length ≤ 131072) := by rw [← unhide HQ]; exact pad_few _ _ _ _ _
    go_wp2_with fail
    refine (implPad po pl pc ps (pw : Int) (ph : Int) px py v1 (unhide RP) (by omega) Q HQ).mono ?_
    rintro e v2 ⟨qo, qc, rfl, o2, g2⟩
    obtain ⟨ql, HQL⟩ : ∃ k, Hid (Q.length = k) := ⟨_, rfl⟩
    have RQ2 := own_rd o2
    rw [unhide HQL] at RQ2 HQF ⊢
    have RQ := hide RQ2
    have hql : ql ≤ 131072 := unhide HQF
    have GV2 := hide (grown_trans (unhide GV1) g2)
    have RP2 := hide ((unhide RP).grown g2)
    clear o2 g2 RQ2
    go_wp2_with fail
    refine (specPad po pl pc ps (pw : Int) (ph : Int) px py v2 (unhide RP2) (by omega) Q HQ).mono ?_
    rintro e v3 ⟨uo, uc, rfl, o3, g3⟩
    have RU2 := own_rd o3
    rw [unhide HQL] at RU2 ⊢
    have RU := hide RU2
    have GV3 := hide (grown_trans (unhide GV2) g3)
    have RQ3 := hide ((unhide RQ).grown g3)
    have RP3 := hide ((unhide RP2).grown g3)
    clear o3 g3 RU2
    go_wp2_with fail
    refine (sameInts qo uo ql qc uc Q v3 (unhide RQ3) (unhide RU) (by omega)).mono ?_
    rintro e v4 ⟨rfl, g4⟩
    have GV4 := hide (grown_trans (unhide GV3) g4)
    have RQ4 := hide ((unhide RQ3).grown g4)
    have RP4 := hide ((unhide RP3).grown g4)
    clear g4 RU RQ3 RP3
    by_cases hq0 : ql = 0
    · subst hq0
      go_wp2
      go_ret
      exact ⟨rfl, grown_below (unhide GV4)⟩
    · have em : ((ql : Int) == 0) = false := by simp; omega
      have em2 : ¬ (ql : Int) = 0 := by omega
      have HCB : Hid (cropG Q px py (pw : Int) (ph : Int) = ps) := by
        have h1 := pads_back (L := ps) (w := (pw : Int)) (h := (ph : Int)) (nw := px) (nh := py) (by
          rw [unhide HQ]
          intro e
          exact hq0 (by rw [← unhide HQL, e]; rfl))
        rw [unhide HQ] at h1
        exact h1
      go_wp2_with fail
      refine (implCrop qo ql qc Q px py (pw : Int) (ph : Int) v4 (unhide RQ4) (by omega) ps HCB).mono ?_
      rintro e v5 ⟨to, tc, rfl, o5, g5⟩
      have RT2 := own_rd o5
      rw [unhide HPL] at RT2 ⊢
      have RT := hide RT2
      have GV5 := hide (grown_trans (unhide GV4) g5)
      have RP5 := hide ((unhide RP4).grown g5)
      clear o5 g5 RT2
      go_wp2_with fail
      refine (sameInts to po pl tc pc ps v5 (unhide RT) (unhide RP5) (by omega)).mono ?_
      rintro e v6 ⟨rfl, g6⟩
      have GV6 := hide (grown_trans (unhide GV5) g6)
      go_wp2
      go_ret
      exact ⟨rfl, grown_below (unhide GV6)⟩
  · have hpos : (0 : Int) < (ll : Int) := by omega
    have HJB : Hid (joinG L (wN : Int) (hN : Int) = ys) := by
      have h1 := cuts_back (L := ys) (w := (wN : Int)) (h := (hN : Int)) (by
        rw [unhide HL]
        intro e
        exact hb0 (by rw [← unhide HLL, e]; rfl))
      rw [unhide HL] at h1
      exact h1
    go_wp2_with fail
    refine (implJoinBlocks so2 ll sc2 L (wN : Int) (hN : Int) w4 (Ow2.rd (unhide OB4)) ys HJB).mono ?_
    rintro e w5 ⟨jo, jc, rfl, o5, g5⟩
    have RJ2 := own_rd o5
    rw [unhide HYL] at RJ2 ⊢
    have RJ := hide RJ2
    have G5 := hide (grown_trans (unhide G4) g5)
    have RY5 := hide ((unhide RY4).grown g5)
    clear o5 g5 RJ2 OB4 RY4
    go_wp2_with fail
    refine (sameInts jo so yl jc sc ys w5 (unhide RJ) (unhide RY5) (by omega)).mono ?_
    rintro e w6 ⟨rfl, g6⟩
    have G6 := hide (grown_trans (unhide G5) g6)
    clear g6 RJ RY5
    go_wp2_with fail
    refine (drawPad16 bo m cap2 xs w6 ((unhide HR2).grown (unhide G6)) (unhide HB2) hm).mono ?_
    rintro e v1 ⟨po, pc, ps, pw, ph, px, py, rfl, hpy, hpw, hph, r1, g1⟩
    obtain ⟨pl, HPL⟩ : ∃ k, Hid (ps.length = k) := ⟨_, rfl⟩
    rw [unhide HPL] at r1 hpy ⊢
    have RP := hide r1
    have GV1 := hide (grown_trans (unhide G6) g1)
    clear r1 g1
    obtain ⟨Q, HQ⟩ : ∃ Q, Hid (padG ps (pw : Int) (ph : Int) px py = Q) := ⟨_, rfl⟩
    have HQF : Hid (Q.length ≤ 131072) := by rw [← unhide HQ]; exact pad_few _ _ _ _ _
    go_wp2_with fail
    refine (implPad po pl pc ps (pw : Int) (ph : Int) px py v1 (unhide RP) (by omega) Q HQ).mono ?_
    rintro e v2 ⟨qo, qc, rfl, o2, g2⟩
    obtain ⟨ql, HQL⟩ : ∃ k, Hid (Q.length = k) := ⟨_, rfl⟩
    have RQ2 := own_rd o2
    rw [unhide HQL] at RQ2 HQF ⊢
    have RQ := hide RQ2
    have hql : ql ≤ 131072 := unhide HQF
    have GV2 := hide (grown_trans (unhide GV1) g2)
    have RP2 := hide ((unhide RP).grown g2)
    clear o2 g2 RQ2
    go_wp2_with fail
    refine (specPad po pl pc ps (pw : Int) (ph : Int) px py v2 (unhide RP2) (by omega) Q HQ).mono ?_
    rintro e v3 ⟨uo, uc, rfl, o3, g3⟩
    have RU2 := own_rd o3
    rw [unhide HQL] at RU2 ⊢
    have RU := hide RU2
    have GV3 := hide (grown_trans (unhide GV2) g3)
    have RQ3 := hide ((unhide RQ).grown g3)
    have RP3 := hide ((unhide RP2).grown g3)
    clear o3 g3 RU2
    go_wp2_with fail
    refine (sameInts qo uo ql qc uc Q v3 (unhide RQ3) (unhide RU) (by omega)).mono ?_
    rintro e v4 ⟨rfl, g4⟩
    have GV4 := hide (grown_trans (unhide GV3) g4)
    have RQ4 := hide ((unhide RQ3).grown g4)
    have RP4 := hide ((unhide RP3).grown g4)
    clear g4 RU RQ3 RP3
    by_cases hq0 : ql = 0
    · subst hq0
      go_wp2
      go_ret
      exact ⟨rfl, grown_below (unhide GV4)⟩
    · have em : ((ql : Int) == 0) = false := by simp; omega
      have em2 : ¬ (ql : Int) = 0 := by omega
      have HCB : Hid (cropG Q px py (pw : Int) (ph : Int) = ps) := by
        have h1 := pads_back (L := ps) (w := (pw : Int)) (h := (ph : Int)) (nw := px) (nh := py) (by
          rw [unhide HQ]
          intro e
          exact hq0 (by rw [← unhide HQL, e]; rfl))
        rw [unhide HQ] at h1
        exact h1
      go_wp2_with fail
      refine (implCrop qo ql qc Q px py (pw : Int) (ph : Int) v4 (unhide RQ4) (by omega) ps HCB).mono ?_
      rintro e v5 ⟨to, tc, rfl, o5, g5⟩
      have RT2 := own_rd o5
      rw [unhide HPL] at RT2 ⊢
      have RT := hide RT2
      have GV5 := hide (grown_trans (unhide GV4) g5)
      have RP5 := hide ((unhide RP4).grown g5)
      clear o5 g5 RT2
      go_wp2_with fail
      refine (sameInts to po pl tc pc ps v5 (unhide RT) (unhide RP5) (by omega)).mono ?_
      rintro e v6 ⟨rfl, g6⟩
      have GV6 := hide (grown_trans (unhide GV5) g6)
      go_wp2
      go_ret
      exact ⟨rfl, grown_below (unhide GV6)⟩

end Go.Proofs.Ytkefpjbdkhifhaa
