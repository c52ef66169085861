/-
  The walks of the program's reader of segments: run data, a part, the beginning and the end.
-/
import Derived.Test.YticecjodbhhcfaaDoorSegReadImpl
import Derived.Laws.BitsAllLaws
namespace Go.Proofs.YticecjodbhhcfaaDoor
open Go.RowKit

theorem or_bytes (x y : Int) (hx : 0 ≤ x ∧ x ≤ 255) (hy : 0 ≤ y ∧ y ≤ 255) : bits BinOp.or IntKind.i64 (x * 256) y = 256 * x + y := by
  obtain ⟨a, rfl⟩ := Int.eq_ofNat_of_zero_le hx.1
  obtain ⟨c, rfl⟩ := Int.eq_ofNat_of_zero_le hy.1
  have e : a * 256 ||| c = 256 * a + c := by
    have h2 := Nat.two_pow_add_eq_or_of_lt (i := 8) (b := c) (by omega) a
    rw [show (2 : Nat) ^ 8 = 256 from rfl] at h2
    rw [Nat.mul_comm, ← h2]
  show IntKind.i64.wrap ((BitVec.ofInt 64 ((a * 256 : Nat) : Int) ||| BitVec.ofInt 64 (c : Int)).toNat : Int) = _
  rw [BitVec.toNat_or, ofInt_u64 (a * 256) (by omega), ofInt_u64 c (by omega), e]
  exact i64_in _ (by omega)

/-- What reading one segment leaves. -/
def rdPost (w0 w : World) (R lo : Nat) (bo : Option Addr) (n cap : Nat) (last : Int) (ss : List (Int × List Int)) : Nx → Ending → World → Prop
  | .fault c a, e, w' => e = .returned (errV (some (c, a))) ∧ Fr R lo w w'
  | .fin _, _, _ => False
  | .seg m d nx, e, w' => e = .returned .nilIface ∧ ∃ sv', St w0 w' R lo bo n cap nx last sv' (ss ++ [(m, d)]) ∧ Fr R lo w w'

section
variable (w0 w : World) (R lo : Nat) (bo : Option Addr) (n cap k : Nat) (last : Int) (sv : Value) (ss : List (Int × List Int))

set_option maxHeartbeats 1600000 in
theorem implRun (zs : List Int) (r : Nx) (h : St w0 w R lo bo n cap k last sv ss) (hr : Rd .u8 w0 bo n zs) (hn : n ≤ 60000) (hcap : n ≤ cap) (hk : k < n) (hss : ss.length ≤ 300)
    (hres : Hid ((if 20000 < (unst (zs.drop k)).1.length then Nx.fault 5 k else .seg 0 (unst (zs.drop k)).1 (k + (unst (zs.drop k)).2)) = r)) :
    Calls Tryd.prog 42 #[.pointer (some ⟨R, 0, none⟩)] w fun e w' => rdPost w0 w R lo bo n cap last ss r e w' := by
  obtain ⟨c0, c1, c2, c3⟩ := h.cells
  have HH := hide h
  have HR := hide (hr.grown h.grown)
  obtain ⟨b, off, rfl, _⟩ := (hr.grown h.grown).2 k hk
  have hu := unst_len (zs.drop k)
  rw [List.length_drop, hr.1] at hu
  have HRD : Hid (Rd .u8 w.drew (some ⟨b, off + k, none⟩) (n - k) (zs.drop k)) := rd_tail (unhide HR) k (by omega) b off rfl
  have hres' := unhide hres
  clear h hr hres
  go_enter Tryd.func42, Tryd.ntmps42
  go_wp2
  go_region_with (go_at_call 51; refine (implUnstuff _ (n - k) (cap - k) (zs.drop k) _ (unhide HRD) (by omega)).mono ?_; rintro e w2 ⟨bo2, bc2, rfl, o2, g2⟩)
  all_goals
    have G2 : w.grownBy w2 none := grown_trans (grown_drew (World.grownBy.refl w none)) g2
    have hS2 := (unhide HH).more G2
    obtain ⟨e0, e1, e2, e3⟩ := hS2.cells
    have HS2 := hide hS2
    have HO2 : Hid (w2.ownsRow w.heap.size 5 1 (.slice bo2 (unst (zs.drop k)).1.length bc2) (unst (zs.drop k)).1.length ((unst (zs.drop k)).1.map (Value.int .u8))) := o2
    clear c0 c1 c2 c3 g2 o2 hS2
    generalize (unst (zs.drop k)).1 = ud at *
    generalize (unst (zs.drop k)).2 = uc at *
    by_cases hlong : 20000 < ud.length
    · rw [if_pos hlong] at hres'
      subst hres'
      have hdl : decide ((20000 : Int) < (ud.length : Int)) = true := decide_eq_true (by omega)
      go_wp2_with fail
      refine (implFault 5 k _).mono ?_
      rintro e w3 ⟨rfl, rfl⟩
      go_wp2
      go_ret
      exact ⟨rfl, (unhide HH).fr G2⟩
    · obtain ⟨nx, hnx⟩ : ∃ nx : Nat, k + uc = nx := ⟨_, rfl⟩
      have hnx' : (k : Int) + (uc : Int) = (nx : Int) := by omega
      rw [if_neg hlong, hnx] at hres'
      subst hres'
      have hdl : decide ((20000 : Int) < (ud.length : Int)) = false := decide_eq_false (by omega)
      generalize hul : ud.length = ul at *
      go_wp2_with fail
      refine (implTake w0 w2 R lo _ n cap k last sv ss w 0 _ ud nx (unhide HH) G2 hss (by rw [hul]; exact unhide HO2)).mono ?_
      rintro e w3 ⟨rfl, sv', hst, hfr⟩
      go_wp2
      go_ret
      exact ⟨rfl, sv', hst, ((unhide HH).fr G2).trans hfr⟩

/-- The beginning. -/
theorem implBegin (zs : List Int) (f : Option (Int × Nat)) (h : St w0 w R lo bo n cap k last sv ss) (hr : Rd .u8 w0 bo n zs) (hn : n ≤ 4194304) (hres : Hid ((if 60000 < n then some (1, 0) else if begins zs then none else some (2, 0)) = f)) :
    Calls Tryd.prog 38 #[.pointer (some ⟨R, 0, none⟩)] w fun e w' => e = .returned (errV f) ∧ Fr R lo w w' ∧ (f = none → St w0 w' R lo bo n cap 2 last sv ss) := by
  obtain ⟨c0, c1, c2, c3⟩ := h.cells
  have f1 := h.frozen 1
  have HH := hide h
  obtain ⟨hl, hc⟩ := hr.grown h.grown
  have hres' := unhide hres
  clear h hr hres
  by_cases hbig : 60000 < n
  · rw [if_pos hbig] at hres'
    subst hres'
    have hd : decide ((60000 : Int) < (n : Int)) = true := decide_eq_true (by omega)
    clear hc
    go_enter Tryd.func38, Tryd.ntmps38
    go_wp2_with fail
    refine (implFault 1 0 _).mono ?_
    rintro e w1 ⟨rfl, rfl⟩
    go_wp2
    go_ret
    exact ⟨rfl, Fr.refl _ _ _, fun h => by cases h⟩
  · rw [if_neg hbig] at hres'
    have hd : decide ((60000 : Int) < (n : Int)) = false := decide_eq_false (by omega)
    by_cases h2 : n < 2
    · rw [if_neg (fun h => by have := h.1; omega)] at hres'
      subst hres'
      have hd2 : decide ((n : Int) < 2) = true := decide_eq_true (by omega)
      clear hc
      go_enter Tryd.func38, Tryd.ntmps38
      go_wp2_with fail
      refine (implFault 2 0 _).mono ?_
      rintro e w1 ⟨rfl, rfl⟩
      go_wp2
      go_ret
      exact ⟨rfl, Fr.refl _ _ _, fun h => by cases h⟩
    · have hd2 : decide ((n : Int) < 2) = false := decide_eq_false (by omega)
      have hn1 : 1 < n := by omega
      obtain ⟨b, off, rfl, hc0⟩ := hc 0 (by omega)
      obtain ⟨b1, off1, e1, hc1⟩ := hc 1 (by omega)
      simp only [Option.some.injEq, Addr.mk.injEq] at e1
      have ea := e1.1
      have eb := e1.2.1
      subst ea; subst eb
      rw [Nat.add_zero] at hc0
      clear e1 hc
      by_cases h84 : zs.getD 0 0 = 84
      · rw [h84] at hc0
        by_cases h83 : zs.getD 1 0 = 83
        · rw [if_pos ⟨by omega, h84, h83⟩] at hres'
          subst hres'
          rw [h83] at hc1
          clear h84 h83
          go_enter Tryd.func38, Tryd.ntmps38
          go_wp2
          go_ret
          exact ⟨rfl, Fr.set R lo 1 w _, fun _ => (unhide HH).set1 2⟩
        · rw [if_neg (fun h => h83 h.2.2)] at hres'
          subst hres'
          have hb : (zs.getD 1 0 != 83) = true := by rw [bne_iff_ne]; exact h83
          generalize zs.getD 1 0 = y at *
          clear h84 h83
          go_enter Tryd.func38, Tryd.ntmps38
          go_wp2_with fail
          refine (implFault 2 0 _).mono ?_
          rintro e w1 ⟨rfl, rfl⟩
          go_wp2
          go_ret
          exact ⟨rfl, Fr.refl _ _ _, fun h => by cases h⟩
      · rw [if_neg (fun h => h84 h.2.1)] at hres'
        subst hres'
        have hb : (zs.getD 0 0 != 84) = true := by rw [bne_iff_ne]; exact h84
        generalize zs.getD 0 0 = y at *
        clear h84
        go_enter Tryd.func38, Tryd.ntmps38
        go_wp2_with fail
        refine (implFault 2 0 _).mono ?_
        rintro e w1 ⟨rfl, rfl⟩
        go_wp2
        go_ret
        exact ⟨rfl, Fr.refl _ _ _, fun h => by cases h⟩

/-- The end. -/
theorem implEnd (f : Option (Int × Nat)) (h : St w0 w R lo bo n cap k last sv ss) (hn : n ≤ 60000) (hk : k ≤ n) (hres : Hid ((if k + 2 < n then some (7, k + 2) else none) = f)) :
    Calls Tryd.prog 43 #[.pointer (some ⟨R, 0, none⟩)] w fun e w' => e = .returned (errV f) ∧ Fr R lo w w' ∧ St w0 w' R lo bo n cap (k + 2) last sv ss := by
  obtain ⟨c0, c1, c2, c3⟩ := h.cells
  have f1 := h.frozen 1
  have HH := hide (h.set1 (k + 2))
  obtain ⟨d0, d1, d2, d3⟩ := (h.set1 (k + 2)).cells
  have hres' := unhide hres
  clear h hres
  have hk2' : (k : Int) + 2 = ((k + 2 : Nat) : Int) := by omega
  generalize hk2 : k + 2 = k2 at *
  by_cases hr : k2 < n
  · rw [if_pos hr] at hres'
    subst hres'
    have hd : decide ((k2 : Int) < (n : Int)) = true := decide_eq_true (by omega)
    go_enter Tryd.func43, Tryd.ntmps43
    go_wp2
    go_quiet (fail)
    go_wp2_with fail
    refine (implFault 7 k2 _).mono ?_
    rintro e w1 ⟨rfl, rfl⟩
    go_wp2
    go_ret
    have gq := grown_drewN (World.grownBy.refl (w.setCell ⟨R, 1, none⟩ (.int .i64 k2)) none) nq
    exact ⟨rfl, (Fr.set R lo 1 w _).trans ((unhide HH).fr gq), (unhide HH).more gq⟩
  · rw [if_neg hr] at hres'
    subst hres'
    have hd : decide ((k2 : Int) < (n : Int)) = false := decide_eq_false (by omega)
    go_enter Tryd.func43, Tryd.ntmps43
    go_wp2
    go_quiet (fail)
    go_wp2
    go_ret
    have gq := grown_drewN (World.grownBy.refl (w.setCell ⟨R, 1, none⟩ (.int .i64 k2)) none) nq
    exact ⟨rfl, (Fr.set R lo 1 w _).trans ((unhide HH).fr gq), (unhide HH).more gq⟩

end

end Go.Proofs.YticecjodbhhcfaaDoor
