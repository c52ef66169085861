/-
  Grow, in the specification (written by gen_samp.py).
-/
import Derived.Test.YtkefpjbdkhifhaaSampSpec
import Derived.Test.YtkefpjbdkhifhaaSampLaid
namespace Go.Proofs.Ytkefpjbdkhifhaa
open Go.RowKit

set_option maxRecDepth 20000 in
set_option maxHeartbeats 3200000 in
theorem specGrow (ao : Option Addr) (n cap : Nat) (zs : List Int) (w h nw nh : Int) (W : World) (hr : Rd .i64 W ao n zs) (hn : n ≤ 9223372036854775807) (L : List Int) (HL : Hid (growG zs w h nw nh = L)) :
    Calls Try.prog 20 #[.slice ao n cap, .int .i64 w, .int .i64 h, .int .i64 nw, .int .i64 nh] W fun e W' => ∃ so sc, e = .returned (.slice so L.length sc) ∧ W'.ownsRow W.heap.size 3 1 (.slice so L.length sc) L.length (L.map (Value.int .i64)) ∧ W.grownBy W' none := by
  have HO : Hid ((W.alloc (.cells #[] 3)).ownsRow W.heap.size 3 1 (.slice (some ⟨W.heap.size, 0, none⟩) 0 0) 0 []) := World.ownsRow_lit W #[] 0 (Nat.le_refl _) (by unfold maxLen; omega) rfl
  have HR0 := hide hr
  have HR := hide (hr.grown (World.grownBy_alloc W (.cells #[] 3) none))
  have HN := hide hr.1
  clear hr
  obtain ⟨pb, HP⟩ : ∃ y, Hid (planeB zs w h = y) := ⟨_, rfl⟩
  go_enter Try.func20, Try.ntmps20
  go_wp2_with fail
  refine (specPlaneOk ao n cap zs w h _ (unhide HR) hn pb HP).mono ?_
  rintro e w1 ⟨rfl, g1⟩
  have HGW : Hid (W.grownBy w1 none) := grown_trans (World.grownBy_alloc _ _ _) g1
  have HOWN := hide (own_grown (unhide HO) g1)
  clear g1 HO HR
  cases pb with
  | false =>
    obtain rfl : L = [] := by rw [← unhide HL, growG, unhide HP]; rfl
    go_wp2
    go_ret
    exact ⟨_, _, rfl, unhide HOWN, unhide HGW⟩
  | true =>
    have hpl := plane_of (unhide HP)
    obtain ⟨t1, HT1⟩ : ∃ y, Hid (sidesB nw nh = y) := ⟨_, rfl⟩
    have HLP := hide hpl
    clear hpl
    go_wp2_with fail
    refine (specSides nw nh t1 HT1 w1).mono ?_
    rintro e w1 ⟨rfl, rfl⟩
    by_cases h1 : ¬ t1 = true
    · obtain rfl : t1 = false := by simpa using h1
      obtain rfl : L = [] := by rw [← unhide HL, growG, unhide HT1]; simp
      go_wp2
      go_ret
      exact ⟨_, _, rfl, unhide HOWN, unhide HGW⟩
    obtain rfl : t1 = true := by simpa using h1
    by_cases c1 : nw < w
    · obtain rfl : L = [] := by rw [← unhide HL, growG, decide_eq_false (by omega : ¬ w ≤ nw)]; simp
      have d1 : decide (nw < w) = true := decide_eq_true c1
      go_wp2
      go_ret
      exact ⟨_, _, rfl, unhide HOWN, unhide HGW⟩
    have d1 : decide (nw < w) = false := decide_eq_false c1
    by_cases c2 : nh < h
    · obtain rfl : L = [] := by rw [← unhide HL, growG, decide_eq_false (by omega : ¬ h ≤ nh)]; simp
      have d2 : decide (nh < h) = true := decide_eq_true c2
      go_wp2
      go_ret
      exact ⟨_, _, rfl, unhide HOWN, unhide HGW⟩
    have d2 : decide (nh < h) = false := decide_eq_false c2
    have HT2 : Hid (decide (w ≤ nw) = true) := decide_eq_true (by omega)
    have HT3 : Hid (decide (h ≤ nh) = true) := decide_eq_true (by omega)
    have hpl := unhide HLP
    obtain ⟨b1, b2, b3⟩ := sides_of (unhide HT1)
    clear h1 HLP
    have hbd : nw.toNat * nh.toNat ≤ 131072 := by
      have h3 : ((nw.toNat * nh.toNat : Nat) : Int) = nw * nh := by push_cast; rw [Int.toNat_of_nonneg (by omega), Int.toNat_of_nonneg (by omega)]
      omega
    obtain ⟨wN, rfl⟩ : ∃ k : Nat, w = (k : Int) := ⟨w.toNat, by omega⟩
    obtain ⟨hN, rfl⟩ : ∃ k : Nat, h = (k : Int) := ⟨h.toNat, by omega⟩
    obtain ⟨nwN, rfl⟩ : ∃ k : Nat, nw = (k : Int) := ⟨nw.toNat, by omega⟩
    obtain ⟨nhN, rfl⟩ : ∃ k : Nat, nh = (k : Int) := ⟨nh.toNat, by omega⟩
    have d3 : decide (nwN < wN) = false := decide_eq_false (by omega)
    have d4 : decide (nhN < hN) = false := decide_eq_false (by omega)
    clear c1 c2
    have HLG : Hid (growL zs wN hN nwN nhN = L) := by
      unfold Hid
      rw [← unhide HL, growG, unhide HP, unhide HT1, unhide HT2, unhide HT3]
      rfl
    have hlen : zs.length = wN * hN := by have := hpl.2.2.1; exact_mod_cast this
    have HLL : Hid (L.length = nwN * nhN) := by unfold Hid; rw [← unhide HLG]; exact gridL_len _ _ _
    simp only [Int.toNat_natCast] at hbd
    have HBD := hide hbd
    have hb1 : wN ≤ 1024 ∧ hN ≤ 1024 ∧ nwN ≤ 1024 ∧ nhN ≤ 1024 ∧ 1 ≤ wN ∧ 1 ≤ hN ∧ 1 ≤ nwN ∧ 1 ≤ nhN := by omega
    have HLEN := hide hlen
    have HRW := hide ((unhide HR0).grown (unhide HGW))
    have HRA : Hid (Rd .i64 W ao n zs) := HR0
    clear hpl hlen hbd HP HL HRW
    go_wp2
    go_loopw [11, 12] (fun ov yv wr => ∃ (y c : Nat), y ≤ nhN ∧ yv = .int .i64 y ∧ Hid (y * nwN = c) ∧ Hid (wr.ownsRow W.heap.size 3 1 ov c ((L.take c).map (Value.int .i64))) ∧ Hid (W.grownBy wr none)) (fun _ yv _ => nhN - (intOf yv).toNat)
    case atStart => exact ⟨0, 0, by omega, by go_num, by simp [Hid], HOWN, HGW⟩
    case round =>
      clear HOWN HGW
      obtain ⟨y, c0, hy, rfl, HC0, HOV, HGV⟩ := hrel
      by_cases hyl : y < nhN
      · have hyI : (y : Int) < (nhN : Int) := by omega
        have y1 := i64_in ((y : Int) + 1) (by omega)
        go_wp2
        go_loopw [11, 13] (fun ov xv wr => ∃ (x c : Nat), x ≤ nwN ∧ xv = .int .i64 x ∧ Hid (y * nwN + x = c) ∧ Hid (wr.ownsRow W.heap.size 3 1 ov c ((L.take c).map (Value.int .i64))) ∧ Hid (W.grownBy wr none)) (fun _ xv _ => nwN - (intOf xv).toNat)
        case atStart => exact ⟨0, c0, by omega, by go_num, HC0, HOV, HGV⟩
        case round =>
          clear HOV HGV HC0
          obtain ⟨x, c, hx, rfl, HC, HOV, HGV⟩ := hrel
          by_cases hxl : x < nwN
          · have hxI : (x : Int) < (nwN : Int) := by omega
            have x1 := i64_in ((x : Int) + 1) (by omega)
            have hcl : c < nwN * nhN := by
              rw [← unhide HC]
              have : (y + 1) * nwN ≤ nhN * nwN := Nat.mul_le_mul_right _ hyl
              rw [Nat.add_mul, Nat.one_mul] at this
              rw [Nat.mul_comm nwN nhN]
              omega
            have hcb : c + 1 ≤ 1000000 := by have := unhide HBD; omega
            obtain ⟨a1, HA1⟩ : ∃ a : Nat, Hid (y * hN = a) := ⟨_, rfl⟩
            obtain ⟨a2, HA2⟩ : ∃ a : Nat, Hid (a1 / nhN = a) := ⟨_, rfl⟩
            obtain ⟨a3, HA3⟩ : ∃ a : Nat, Hid (a2 * wN = a) := ⟨_, rfl⟩
            obtain ⟨a4, HA4⟩ : ∃ a : Nat, Hid (x * wN = a) := ⟨_, rfl⟩
            obtain ⟨a5, HA5⟩ : ∃ a : Nat, Hid (a4 / nwN = a) := ⟨_, rfl⟩
            obtain ⟨ix, HIXE⟩ : ∃ i : Nat, Hid (a3 + a5 = i) := ⟨_, rfl⟩
            have l1' : a1 ≤ 1048576 := by rw [← unhide HA1]; exact Nat.mul_le_mul (by omega : y ≤ 1024) (by omega : hN ≤ 1024)
            have l4 : a4 ≤ 1048576 := by rw [← unhide HA4]; exact Nat.mul_le_mul (by omega : x ≤ 1024) (by omega : wN ≤ 1024)
            have l2 : a2 < hN := by
              rw [← unhide HA2, ← unhide HA1]
              exact Nat.div_lt_of_lt_mul (Nat.mul_lt_mul_of_pos_right hyl (by omega))
            have l5 : a5 < wN := by
              rw [← unhide HA5, ← unhide HA4]
              exact Nat.div_lt_of_lt_mul (Nat.mul_lt_mul_of_pos_right hxl (by omega))
            have hya : a2 * wN + wN ≤ hN * wN := by
              have : (a2 + 1) * wN ≤ hN * wN := Nat.mul_le_mul_right _ (by omega)
              rw [Nat.add_mul, Nat.one_mul] at this
              exact this
            have hwh : hN * wN ≤ 1048576 := Nat.mul_le_mul (by omega : hN ≤ 1024) (by omega : wN ≤ 1024)
            rw [unhide HA3] at hya
            have k1 : IntKind.i64.wrap ((y : Int) * (hN : Int)) = (a1 : Int) := by
              have e : (y : Int) * (hN : Int) = (a1 : Int) := by have := unhide HA1; exact_mod_cast this
              rw [e, i64_in _ (by omega)]
            have k2 : (a1 : Int).tdiv (nhN : Int) = (a2 : Int) := by
              rw [Int.tdiv_eq_ediv_of_nonneg (by omega)]
              have := unhide HA2
              exact_mod_cast this
            have k3 : IntKind.i64.wrap ((a2 : Int) * (wN : Int)) = (a3 : Int) := by
              have e : (a2 : Int) * (wN : Int) = (a3 : Int) := by have := unhide HA3; exact_mod_cast this
              rw [e, i64_in _ (by omega)]
            have k4 : IntKind.i64.wrap ((x : Int) * (wN : Int)) = (a4 : Int) := by
              have e : (x : Int) * (wN : Int) = (a4 : Int) := by have := unhide HA4; exact_mod_cast this
              rw [e, i64_in _ (by omega)]
            have k5 : (a4 : Int).tdiv (nwN : Int) = (a5 : Int) := by
              rw [Int.tdiv_eq_ediv_of_nonneg (by omega)]
              have := unhide HA5
              exact_mod_cast this
            have k6 : IntKind.i64.wrap ((a3 : Int) + (a5 : Int)) = (ix : Int) := by
              have := unhide HIXE
              rw [i64_in _ (by omega)]
              omega
            have k7 := i64_in (a2 : Int) (by omega)
            have k8 := i64_in (a5 : Int) (by omega)
            have z1 : ((nhN : Int) == 0) = false := beq_eq_false_iff_ne.2 (by omega)
            have z2 : ((nhN : Int) == -1) = false := beq_eq_false_iff_ne.2 (by omega)
            have z3 : ((nwN : Int) == 0) = false := beq_eq_false_iff_ne.2 (by omega)
            have z4 : ((nwN : Int) == -1) = false := beq_eq_false_iff_ne.2 (by omega)
            have z5 : ¬ nhN = 0 := by omega
            have z6 : ¬ nwN = 0 := by omega
            have HCLT := hide hcl
            have hixl : ix < n := by
              have h1 := unhide HN
              have h2 := unhide HLEN
              have h3 : ix < wN * hN := by have := unhide HIXE; rw [Nat.mul_comm wN hN]; omega
              omega
            obtain ⟨bb, off, HAO, hc⟩ : ∃ bb off, Hid (ao = some ⟨bb, off, none⟩) ∧ W.cell? ⟨bb, off + ix, none⟩ = some (.int .i64 (zs.getD ix 0)) := by
              obtain ⟨bb, off, e, hc⟩ := (unhide HRA).2 ix hixl
              exact ⟨bb, off, e, hc⟩
            have hbb : W.heap.size ≠ bb := by
              have := (unhide HRA).lt (by omega) bb off (unhide HAO)
              omega
            have hcell := (unhide HGV).cell hc (by simp)
            obtain ⟨z, HZ⟩ : ∃ z, Hid (zs.getD ix 0 = z) := ⟨_, rfl⟩
            have HNX : Hid (L.take c ++ [z] = L.take (c + 1)) := by
              unfold Hid
              rw [← unhide HLG]
              have h1 : c / nwN = y := by rw [← unhide HC, Nat.add_comm, Nat.add_mul_div_right _ _ (by omega), Nat.div_eq_of_lt hxl, Nat.zero_add]
              have h2 : c % nwN = x := by rw [← unhide HC, Nat.add_comm, Nat.add_mul_mod_self_right, Nat.mod_eq_of_lt hxl]
              unfold growL
              rw [gridL_take _ _ _ c hcl, h1, h2, ← unhide HZ, unhide HA1, unhide HA2, unhide HA3, unhide HA4, unhide HA5, unhide HIXE]
            rw [unhide HZ] at hcell
            have hixI : (ix : Int) < (n : Int) := by omega
            have HIX : Hid (ix < n) := hixl
            clear hc hcl hixl
            rw [unhide HAO]
            have HFAR : Hid (¬ u11.ownBlock = some bb) := fun e => by have h1 := ((unhide HOV).lt bb e).1; have h2 := (unhide HRA).lt (by have := unhide HIX; omega) bb off (unhide HAO); omega
            go_wp2
            have hcd : wr.drew.cell? ⟨bb, off + ix, none⟩ = some (.int .i64 z) := hcell
            obtain ⟨l0, HK0⟩ : ∃ l, Hid (L.take c = l) := ⟨_, rfl⟩
            obtain ⟨l1, HK1⟩ : ∃ l, Hid (L.take (c + 1) = l) := ⟨_, rfl⟩
            have HN0 : Hid (l0.length = c) := by unfold Hid; rw [← unhide HK0, List.length_take, unhide HLL]; have := unhide HCLT; omega
            have HN1 : Hid (l1.length = c + 1) := by unfold Hid; rw [← unhide HK1, List.length_take, unhide HLL]; have := unhide HCLT; omega
            rw [unhide HK0, unhide HK1] at HNX
            have HOD : Hid (wr.drew.ownsRow W.heap.size 3 1 u11 l0.length (l0.map (Value.int .i64))) := by rw [unhide HN0, ← unhide HK0]; exact unhide HOV
            have HGD : Hid (W.grownBy wr.drew none) := grown_drew (unhide HGV)
            clear HOV HGV hcell
            refine wp_region_noPanic ?_
            refine wp_region_raw (fun W => W.cell? ⟨bb, off + ix, none⟩ = some (.int .i64 z)) [true, true, true, true, true, true, true, true, true, true, true, true, true, true, true, true, true, false, false, false] (by kernel_rfl) (fun _ _ _ _ _ h => h) rfl (by kernel_rfl) hcd ?_
            iterate 17
              refine heldF_take (v := ?_) (Or.inl ⟨by rfl, ?_⟩) ?_
              rotate_left 1
              · intro w' hSw
                try dsimp only at hSw
                have q1 := hSw
                go_simp
                try with_reducible rfl
              simp only [Act.put, List.setIfInBounds_toArray, List.set_cons_zero, List.set_cons_succ]
            refine heldF_skip ?_
            refine heldF_skip ?_
            refine heldF_skip ?_
            refine heldF_nil ?_
            generalize wr.drew = wx at *
            refine anyH_step1 (i := 17) rfl (by kernel_rfl) (fun K hK => ?_)
            go_simp
            have gA := World.grownBy_alloc wx (.cells #[.int .i64 z] 3) none
            refine hK.out _ _ (gA.cell hcd (by simp)) ?_
            clear hK K gA
            try simp only [Act.put, List.setIfInBounds_toArray, List.set_cons_zero, List.set_cons_succ]
            refine anyH_step1 (i := 18) rfl (by kernel_rfl) (fun K hK => ?_)
            refine step_append_i16 (w := wx) (by rfl) _ _ (by rfl) W.heap.size u11 l0 (by rfl) (unhide HOD) z (by rfl) (by rw [unhide HN0]; have := unhide HBD; have := unhide HCLT; omega) (unhide HGD).size l1 (unhide HNX) ?_
            intro v' w' o' g' _
            have HG' : Hid (W.grownBy w' none) := grown_new (unhide HGD) g' (fun x e => ((unhide HOD).lt x e).1)
            have hcd' := g'.cell hcd (fun e => unhide HFAR e.symm)
            refine hK.out _ _ hcd' ?_
            clear hK K
            try simp only [Act.put, List.setIfInBounds_toArray, List.set_cons_zero, List.set_cons_succ]
            refine anyH_step1 (i := 19) rfl (by kernel_rfl) (fun K hK => ?_)
            go_simp
            refine hK.out _ _ hcd' ?_
            clear hK K
            try simp only [Act.put, List.setIfInBounds_toArray, List.set_cons_zero, List.set_cons_succ]
            refine wpAnyH_done (by kernel_rfl) (NoPanic.normal ?_) _
            have HO' : Hid (w'.ownsRow W.heap.size 3 1 v' (c + 1) ((L.take (c + 1)).map (Value.int .i64))) := by rw [unhide HK1, ← unhide HN1]; exact o'
            clear o' g' hcd hcd'
            go_wp2
            go_roundw
            case rel => exact ⟨x + 1, c + 1, by omega, by go_num, by unfold Hid; rw [← unhide HC]; omega, HO', HG'⟩
            case measure => simp [intOf]; omega
          · obtain rfl : x = nwN := by omega
            have hxd : decide ((x : Int) < (x : Int)) = false := decide_eq_false (by omega)
            have HC' : Hid ((y + 1) * x = c) := by unfold Hid; rw [← unhide HC, Nat.add_mul, Nat.one_mul]
            go_wp2
            go_roundw
            case rel => exact ⟨y + 1, c, by omega, by go_num, HC', HOV, HGV⟩
            case measure => simp [intOf]; omega
      · obtain rfl : y = nhN := by omega
        have hyd : decide ((y : Int) < (y : Int)) = false := decide_eq_false (by omega)
        have HCL : Hid (c0 = L.length) := by unfold Hid; rw [unhide HLL, ← unhide HC0, Nat.mul_comm]
        rw [unhide HCL, List.take_length] at HOV
        obtain ⟨so, sc, rfl⟩ := own_form (unhide HOV)
        go_wp2
        go_ret
        exact ⟨_, _, rfl, unhide HOV, unhide HGV⟩
end Go.Proofs.Ytkefpjbdkhifhaa
