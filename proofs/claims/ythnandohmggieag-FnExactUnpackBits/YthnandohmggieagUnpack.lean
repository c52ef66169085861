/-
  The walks of UnpackBits, the program's and the specification's: both give the same numbers and the same answer.
-/
import Derived.Test.YthnandohmggieagBytes
import Derived.Test.YthnandohmggieagInts
import Derived.Test.YthnandohmggieagFieldsOk
namespace Go.Proofs.Ythnandohmggieag
open Go.RowKit

/-- The bit at a place of the bytes, the highest of each byte first. -/
def bitAt (zs : List Int) (p : Nat) : Int := (zs.getD (p / 8) 0) / 2 ^ (7 - p % 8) % 2

/-- The number that the bits from a place on make. -/
def numAt (zs : List Int) (p : Nat) : Nat → Int
  | 0 => 0
  | m + 1 => 2 * numAt zs p m + bitAt zs (p + m)

theorem bitAt_01 (zs : List Int) (p : Nat) : 0 ≤ bitAt zs p ∧ bitAt zs p ≤ 1 := by unfold bitAt; omega
theorem numAt_bound (zs : List Int) (p : Nat) : ∀ m, 0 ≤ numAt zs p m ∧ numAt zs p m < 2 ^ m
  | 0 => by simp [numAt]
  | m + 1 => by
    have h := numAt_bound zs p m
    have h2 := bitAt_01 zs (p + m)
    have e : (2 : Int) ^ (m + 1) = 2 * 2 ^ m := by rw [Int.pow_succ]; omega
    rw [numAt, e]
    omega
theorem numAt_small (zs : List Int) (p m : Nat) (h : m ≤ 16) : 0 ≤ numAt zs p m ∧ numAt zs p m < 65536 := by
  have h1 := numAt_bound zs p m
  have h2 := (pow_small m (by omega)).2
  rw [Int.toNat_natCast] at h2
  omega

/-- The numbers of so many bits each from a place on, or none. -/
def unp (zs : List Int) : Nat → List Int → Option (List Int)
  | _, [] => some []
  | p, l :: r => if (0 ≤ l ∧ l ≤ 16) ∧ p + l.toNat ≤ 8 * zs.length then (unp zs (p + l.toNat) r).map (fun t => numAt zs p l.toNat :: t) else none

/-- How far the lengths have been read behind some rounds. -/
def Un (zs xs acc : List Int) (p k : Nat) : Prop := unp zs 0 xs = (unp zs p (xs.drop k)).map (fun t => acc ++ t)
theorem un_zero (zs xs : List Int) : Un zs xs [] 0 0 := by simp [Un]
theorem un_step {zs xs acc : List Int} {p k : Nat} (h : Un zs xs acc p k) (hk : k < xs.length) (h1 : 0 ≤ xs.getD k 0 ∧ xs.getD k 0 ≤ 16) (h2 : p + (xs.getD k 0).toNat ≤ 8 * zs.length) :
    Un zs xs (acc ++ [numAt zs p (xs.getD k 0).toNat]) (p + (xs.getD k 0).toNat) (k + 1) := by
  unfold Un at h ⊢
  rw [h, drop_at xs k hk, unp, if_pos ⟨h1, h2⟩, Option.map_map]
  congr 1
  funext t
  simp
theorem un_bad {zs xs acc : List Int} {p k : Nat} (h : Un zs xs acc p k) (hk : k < xs.length) (h1 : ¬ ((0 ≤ xs.getD k 0 ∧ xs.getD k 0 ≤ 16) ∧ p + (xs.getD k 0).toNat ≤ 8 * zs.length)) : unp zs 0 xs = none := by
  unfold Un at h
  rw [h, drop_at xs k hk, unp, if_neg h1]
  rfl
theorem un_end {zs xs acc : List Int} {p : Nat} (h : Un zs xs acc p xs.length) : unp zs 0 xs = some acc := by
  unfold Un at h
  rw [h, List.drop_length, unp]
  simp
/-- What UnpackBits answers. -/
def unpL (zs xs : List Int) : List Int := (unp zs 0 xs).getD []
def unpB (zs xs : List Int) : Bool := (unp zs 0 xs).isSome

/-- The reader of bits, as it lies in memory. -/
def Rr (w : World) (tb : Nat) (ao : Option Addr) (n cap p : Nat) : Prop := w.heap[tb]? = some (.cells #[.slice ao n cap, .int .i64 p] 63 (0, 0))

section
variable {w : World} {tb : Nat} {ao : Option Addr} {n cap p : Nat}
theorem Rr.c0 (h : Rr w tb ao n cap p) : w.cell? ⟨tb, 0, none⟩ = some (.slice ao n cap) := by rw [cell_of_row w tb 0 _ _ (0, 0) h]; rfl
theorem Rr.c1 (h : Rr w tb ao n cap p) : w.cell? ⟨tb, 1, none⟩ = some (.int .i64 p) := by rw [cell_of_row w tb 1 _ _ (0, 0) h]; rfl
theorem Rr.fz (h : Rr w tb ao n cap p) (j : Nat) : w.frozen? ⟨tb, j, none⟩ = false := frozen_of_row w tb j _ _ h
theorem Rr.lt (h : Rr w tb ao n cap p) : tb < w.heap.size := by obtain ⟨h, _⟩ := Array.getElem?_eq_some_iff.1 h; exact h
theorem Rr.next (h : Rr w tb ao n cap p) (q : Nat) : Rr (w.setCell ⟨tb, 1, none⟩ (.int .i64 q)) tb ao n cap q := heap_setCell_same w tb 1 _ _ _ h
theorem Rr.grown {w' : World} (h : Rr w tb ao n cap p) (hg : w.grownBy w' none) : Rr w' tb ao n cap p := (hg.block tb h.lt (by simp)).trans h
end

set_option maxHeartbeats 800000 in
theorem implNext (tb : Nat) (ao : Option Addr) (n cap p : Nat) (zs : List Int) (w : World) (ht : Rr w tb ao n cap p) (hr : Rd .u8 w ao n zs) (hb : ∀ i, 0 ≤ zs.getD i 0 ∧ zs.getD i 0 ≤ 255) (hn : n ≤ 4194304) (hp : p < 8 * n) :
    Calls Try.prog 55 #[.pointer (some ⟨tb, 0, none⟩)] w fun e w' => e = .returned (.int .i64 (bitAt zs p)) ∧ Rr w' tb ao n cap (p + 1) ∧ w.grownBy w' (some tb) := by
  obtain ⟨hl, hc⟩ := hr
  obtain ⟨b, off, rfl, hcb⟩ := hc (p / 8) (by omega)
  have c0 := ht.c0
  have c1 := ht.c1
  have f1 := ht.fz 1
  have hbb := hb (p / 8)
  have HB : Hid (bitAt zs p = (zs.getD (p / 8) 0) / 2 ^ (7 - p % 8) % 2) := rfl
  generalize zs.getD (p / 8) 0 = x at hcb hbb HB
  clear hc hb
  go_enter Try.func55, Try.ntmps55
  go_wp2
  go_quiet (fail)
  go_wp2
  go_ret
  have hs := shr_bound x hbb.1 hbb.2 (7 - p % 8)
  refine ⟨ret_int (a := wrap64 (bits BinOp.and IntKind.u8 (x / 2 ^ (7 - p % 8)) 1)) ?_, ?_, ?_⟩
  · rw [and1_u8 _ hs.1 (by omega), unhide HB]; exact IntWalk.wrap64_in _ (by omega)
  · exact Rr.next (w := w.drewN _) ht (p + 1)
  · exact grown_set' w _ tb 1 _

set_option maxHeartbeats 800000 in
theorem implLeftR (tb : Nat) (ao : Option Addr) (n cap p : Nat) (w : World) (ht : Rr w tb ao n cap p) (hn : n ≤ 4194304) (hp : p ≤ 8 * n) :
    Calls Try.prog 53 #[.pointer (some ⟨tb, 0, none⟩)] w fun e w' => e = .returned (.int .i64 (8 * n - p)) ∧ ∃ q, w' = w.drewN q := by
  have c0 := ht.c0
  have c1 := ht.c1
  go_enter Try.func53, Try.ntmps53
  go_wp2
  go_quiet (fail)
  go_wp2
  go_ret
  exact ⟨rfl, _, rfl⟩

set_option maxHeartbeats 800000 in
theorem implPassR (tb : Nat) (ao : Option Addr) (n cap p m : Nat) (v : Int) (zs : List Int) (w : World) (ht : Rr w tb ao n cap p) (hr : Rd .u8 w ao n zs) (hne : 0 < n → ∀ b off, ao = some ⟨b, off, none⟩ → b ≠ tb)
    (hb : ∀ i, 0 ≤ zs.getD i 0 ∧ zs.getD i 0 ≤ 255) (hn : n ≤ 4194304) (hm : m ≤ 16) (hp : p + m ≤ 8 * n) :
    Calls Try.prog 54 #[.pointer (some ⟨tb, 0, none⟩), .agg #[.int .i64 m, .int .i64 v]] w fun e w' => e = .returned (.int .i64 (numAt zs p m)) ∧ Rr w' tb ao n cap (p + m) ∧ w.grownBy w' (some tb) := by
  have HR := hide hr
  have HB := hide hb
  have HNE := hide hne
  have t0 : Hid (Rr (w.alloc (.cells #[.int .i64 m, .int .i64 v] 43)) tb ao n cap p) := (Below.heap_alloc _ _ _ ht.lt).trans ht
  have g0 : Hid (w.grownBy (w.alloc (.cells #[.int .i64 m, .int .i64 v] 43)) (some tb)) := World.grownBy_alloc _ _ _
  clear hr hb hne ht
  go_enter Try.func54, Try.ntmps54
  go_wp2
  go_loopw [5, 8] (fun v i wr => ∃ k : Nat, k ≤ m ∧ i = .int .i64 k ∧ v = .int .i64 (numAt zs p k) ∧ Rr wr tb ao n cap (p + k) ∧ w.grownBy wr (some tb)) (fun _ i _ => m - (intOf i).toNat)
  case atStart => exact ⟨0, Nat.zero_le _, rfl, rfl, unhide t0, unhide g0⟩
  case round =>
    obtain ⟨k, hk, rfl, rfl, htk, hgk⟩ := hrel
    by_cases hlt : k < m
    · have hs := numAt_small zs p k (by omega)
      have h01 := bitAt_01 zs (p + k)
      have hrk : Rd .u8 wr ao n zs := (unhide HR).beside hgk (unhide HNE)
      have HN : Hid (numAt zs p (k + 1) = 2 * numAt zs p k + bitAt zs (p + k)) := rfl
      go_wp2_with fail
      refine (implNext tb ao n cap (p + k) zs wr htk hrk (unhide HB) hn (by omega)).mono ?_
      rintro e w1 ⟨rfl, ht1, g1⟩
      generalize numAt zs p k = s0 at *
      generalize bitAt zs (p + k) = s1 at *
      have hg1 := grown_trans hgk g1
      clear htk hgk g1 hrk
      go_wp2
      go_roundw
      case rel => exact ⟨k + 1, by omega, by go_num, by rw [unhide HN], ht1, hg1⟩
      case measure => simp [intOf]; omega
    · have hkm : k = m := by omega
      subst hkm
      go_wp2
      go_ret
      exact ⟨rfl, htk, hgk⟩

/-- The reader's methods, as a call through the interface finds them. -/
theorem methR_left (a : Addr) (w : World) : (method 188 61 (.pointer (some a)) "loop.example/g00139/impl.left").run Try.prog w = .ok (53, .pointer (some a)) w := by kernel_rfl
theorem methR_pass (a : Addr) (w : World) : (method 188 61 (.pointer (some a)) "loop.example/g00139/impl.pass").run Try.prog w = .ok (54, .pointer (some a)) w := by kernel_rfl

set_option maxHeartbeats 800000 in
theorem passR_yes (tb : Nat) (ao : Option Addr) (n cap p m : Nat) (v : Int) (zs : List Int) (w : World) (ht : Rr w tb ao n cap p) (hr : Rd .u8 w ao n zs) (hne : 0 < n → ∀ b off, ao = some ⟨b, off, none⟩ → b ≠ tb)
    (hb : ∀ i, 0 ≤ zs.getD i 0 ∧ zs.getD i 0 ≤ 255) (hn : n ≤ 4194304) (hm : m ≤ 16) (hp : p + m ≤ 8 * n) :
    Calls Try.prog 30 #[.iface 61 (.pointer (some ⟨tb, 0, none⟩)), .agg #[.int .i64 m, .int .i64 v]] w fun e w' => e = .returned (.tuple #[.int .i64 (numAt zs p m), .bool true]) ∧ Rr w' tb ao n cap (p + m) ∧ w.grownBy w' (some tb) := by
  have t0 : Rr (w.alloc (.cells #[.int .i64 m, .int .i64 v] 43)) tb ao n cap p := (Below.heap_alloc _ _ _ ht.lt).trans ht
  have g0 : Hid (w.grownBy (w.alloc (.cells #[.int .i64 m, .int .i64 v] 43)) none) := World.grownBy_alloc _ _ _
  have hbt : Hid (decide (0 ≤ (m : Int) ∧ (m : Int) ≤ 16) = true) := decide_eq_true (by omega)
  have hgt : decide ((8 * n - p : Int) < (m : Int)) = false := by simp; omega
  have mL := methR_left ⟨tb, 0, none⟩
  have mP := methR_pass ⟨tb, 0, none⟩
  have HR0 := hide (hr.grown (unhide g0))
  go_enter Try.func30, Try.ntmps30
  go_wp2
  go_quiet ((first | (go_at_call 32; exact Calls.quiet_of_same (implLenOk m true hbt _)) | (go_at_call 53; exact Calls.quiet_of (implLeftR tb ao n cap p _ t0 hn (by omega)))))
  go_wp2_with fail
  refine (implPassR tb ao n cap p m v zs _ (by exact t0) (by exact HR0.out) hne hb hn hm hp).mono ?_
  rintro e w2 ⟨rfl, t2, g2⟩
  clear mL mP
  go_wp2
  go_ret2
  exact ⟨rfl, t2, grown_trans (grown_drewN (grown_any (unhide g0)) _) g2⟩

set_option maxHeartbeats 800000 in
theorem passR_no (tb : Nat) (ao : Option Addr) (n cap p : Nat) (l v : Int) (w : World) (ht : Rr w tb ao n cap p) (hn : n ≤ 4194304) (hp : p ≤ 8 * n) (hno : ¬ ((0 ≤ l ∧ l ≤ 16) ∧ p + l.toNat ≤ 8 * n)) :
    Calls Try.prog 30 #[.iface 61 (.pointer (some ⟨tb, 0, none⟩)), .agg #[.int .i64 l, .int .i64 v]] w fun e w' => e = .returned (.tuple #[.int .i64 0, .bool false]) ∧ w.grownBy w' none := by
  have t0 : Rr (w.alloc (.cells #[.int .i64 l, .int .i64 v] 43)) tb ao n cap p := (Below.heap_alloc _ _ _ ht.lt).trans ht
  have g0 : Hid (w.grownBy (w.alloc (.cells #[.int .i64 l, .int .i64 v] 43)) none) := World.grownBy_alloc _ _ _
  by_cases hl : 0 ≤ l ∧ l ≤ 16
  · have hbt : Hid (decide (0 ≤ l ∧ l ≤ 16) = true) := decide_eq_true hl
    have hgt : decide ((8 * n - p : Int) < l) = true := by
      simp
      have : ¬ (p + l.toNat ≤ 8 * n) := fun h => hno ⟨hl, h⟩
      omega
    clear hno hl
    have mL := methR_left ⟨tb, 0, none⟩
    go_enter Try.func30, Try.ntmps30
    go_wp2
    go_quiet ((first | (go_at_call 32; exact Calls.quiet_of_same (implLenOk l true hbt _)) | (go_at_call 53; exact Calls.quiet_of (implLeftR tb ao n cap p _ t0 hn (by omega)))))
    go_wp2
    go_ret2
    exact ⟨rfl, grown_drewN (unhide g0) _⟩
  · have hbt : Hid (decide (0 ≤ l ∧ l ≤ 16) = false) := decide_eq_false hl
    clear hno hl
    go_enter Try.func30, Try.ntmps30
    go_wp2
    go_quiet ((go_at_call 32; exact Calls.quiet_of_same (implLenOk l false hbt _)))
    go_wp2
    go_ret2
    exact ⟨rfl, grown_drewN (unhide g0) _⟩

set_option maxHeartbeats 1600000 in
theorem implUnpack (ao bo : Option Addr) (n m cap cap' : Nat) (zs xs : List Int) (w : World) (hr : Rd .u8 w ao n zs) (hx : Rd .i64 w bo m xs) (hb : ∀ i, 0 ≤ zs.getD i 0 ∧ zs.getD i 0 ≤ 255) (hn : n ≤ 4194304) (hm : m ≤ 4194304) :
    Calls Try.prog 20 #[.slice ao n cap, .slice bo m cap'] w fun e w' => ∃ co cc, e = .returned (.tuple #[.slice co (unpL zs xs).length cc, .bool (unpB zs xs)]) ∧
      w'.ownsRow w.heap.size 3 1 (.slice co (unpL zs xs).length cc) (unpL zs xs).length ((unpL zs xs).map (Value.int .i64)) ∧ w.grownBy w' none := by
  obtain ⟨i0, hi, hz0, hz1, hz2⟩ := info_parts Try.info3
  have HR := hide hr
  have HB := hide hb
  have HLT := hide hr.lt
  obtain ⟨hlx, hcx⟩ := hx
  have hlz : Hid (zs.length = n) := hr.1
  clear hr hb
  have t0 : Rr (w.alloc (.cells #[.slice ao n cap, .int .i64 0] 63)) w.heap.size ao n cap 0 := heap_alloc_new w _
  have g0 : w.grownBy (w.alloc (.cells #[.slice ao n cap, .int .i64 0] 63)) none := grown_alloc (World.grownBy.refl _ _) _
  go_enter Try.func20, Try.ntmps20
  go_wp2_with (at_make; refine wpList_make_own _ rfl _ _ 34 rfl (w.heap.size + 1) 3 i0 (.int .i64 0) 1 Try.underlying34 hi hz0 hz1 .i64 .i64 _ m rfl rfl rfl (by rw [hz2]; omega) (by unfold maxLen; omega) (by simp) ?_)
  intro w0 o0 gw0
  have t1 := t0.grown gw0
  have g1 := grown_trans g0 gw0
  clear t0 g0 gw0
  go_wp2
  go_loopw [7, 20] (fun v i wr => ∃ (acc : List Int) (k p : Nat), k ≤ m ∧ acc.length = k ∧ i = .int .i64 k ∧ p ≤ 8 * n ∧ Un zs xs acc p k ∧ Rr wr w.heap.size ao n cap p ∧ wr.ownsRow (w.heap.size + 1) 3 1 v acc.length (acc.map (Value.int .i64)) ∧ w.grownBy wr none) (fun _ i _ => m - (intOf i).toNat)
  case atStart => exact ⟨[], 0, 0, Nat.zero_le _, rfl, rfl, Nat.zero_le _, un_zero zs xs, t1, o0, g1⟩
  case round =>
    obtain ⟨acc, k, p, hk, hak, rfl, hp, hun, htk, hok, hgk⟩ := hrel
    clear t1 o0 g1
    by_cases hlt : k < m
    · obtain ⟨b, off, rfl, hcb⟩ := hcx k hlt
      have hcell := hgk.cell hcb (by simp)
      have HS := hide (un_step hun (by omega))
      have HN := hide (un_bad hun (by omega))
      rw [unhide hlz] at HS HN
      clear hun hcx hcb
      generalize xs.getD k 0 = l at hcell HS HN
      have hrk : Rd .u8 wr ao n zs := (unhide HR).grown hgk
      have hne : 0 < n → ∀ b off, ao = some ⟨b, off, none⟩ → b ≠ w.heap.size := fun h b off e => by have := unhide HLT h b off e; omega
      by_cases hl : (0 ≤ l ∧ l ≤ 16) ∧ p + l.toNat ≤ 8 * n
      · obtain ⟨hl1, hfit⟩ := hl
        obtain ⟨lm, rfl⟩ := Int.eq_ofNat_of_zero_le hl1.1
        have hlm : lm ≤ 16 := by omega
        have HL := hide hl1
        rw [Int.toNat_natCast] at HS HN hfit
        clear hl1
        have hs := numAt_small zs p lm hlm
        go_wp2_with fail
        refine (passR_yes w.heap.size ao n cap p lm 0 zs wr htk hrk hne (unhide HB) hn hlm hfit).mono ?_
        rintro e w2 ⟨rfl, t2, g2⟩
        have hg2 := grown_new hgk g2 (fun g e => by simp at e; omega)
        have ho2 := own_beneath hok g2 (fun g g' h h' => by have := (hok.lt g h).1; simp at h'; omega)
        generalize hnum : numAt zs p lm = x at *
        have HNUM := hide hnum
        clear hnum g2 htk hok hgk hrk hne hcell
        go_wp2_with (at_builtin; refine wpList_append_own _ rfl _ _ 34 rfl (w.heap.size + 1) 3 i0 (.int .i64 0) 1 8 Try.underlying34 hi hz0 hz1 hz2 rfl (by decide) _ _ _ rfl (ho2.alloc _) ⟨w2.heap.size, 0, none⟩ 1 1 [.int .i64 x] rfl rfl (cell_one_new _ _ _) ?d2 ?d3 ?d4 ?d5 ?_)
        case d2 => first | rfl | (intro u hu; simp at hu; subst hu; rfl)
        case d3 => unfold maxLen; omega
        case d4 => omega
        case d5 => have := t2.lt; simp; omega
        intro v' w3 hown' hgrow _
        have hg3 := grown_new (grown_alloc hg2 _) hgrow (fun g e => by have := (ho2.lt g e).1; omega)
        have t3 : Rr w3 w.heap.size ao n cap (p + lm) :=
          (hgrow.block w.heap.size (by have := t2.lt; simp; omega) (fun e => by have := (ho2.lt _ e.symm).1; omega)).trans ((Below.heap_alloc _ _ _ t2.lt).trans t2)
        have hR : w3.ownsRow (w.heap.size + 1) 3 1 v' (acc ++ [x]).length ((acc ++ [x]).map (Value.int .i64)) := by
          rw [List.length_append, List.map_append, hak]; exact hown'
        clear hown' hgrow ho2 hg2 t2
        go_wp2
        go_roundw
        case rel => exact ⟨acc ++ [x], k + 1, p + lm, by omega, by simp; omega, by go_num, hfit, unhide HS (unhide HL) hfit, t3, hR, hg3⟩
        case measure => simp [intOf]; omega
      · have hnone := unhide HN hl
        have HL1 : Hid (unpL zs xs = []) := by unfold Hid unpL; rw [hnone]; rfl
        have HL2 : Hid (unpB zs xs = false) := by unfold Hid unpB; rw [hnone]; rfl
        have HNO := hide hl
        clear hnone HS HN hl
        go_wp2_with fail
        refine (passR_no w.heap.size ao n cap p l 0 wr htk hn hp (unhide HNO)).mono ?_
        rintro e w2 ⟨rfl, g2⟩
        go_wp2
        go_ret2
        exact ⟨none, 0, by rw [unhide HL1, unhide HL2]; rfl, by rw [unhide HL1]; exact World.ownsRow_nil _ _ _ _, grown_trans hgk g2⟩
    · have hkm : k = m := by omega
      subst hkm
      rw [← hlx] at hun
      have hend := un_end hun
      have HL1 : Hid (unpL zs xs = acc) := by unfold Hid unpL; rw [hend]; rfl
      have HL2 : Hid (unpB zs xs = true) := by unfold Hid unpB; rw [hend]; rfl
      obtain ⟨co, cc, rfl⟩ := own_form hok
      clear hend hun hcx
      go_wp2
      go_ret2
      exact ⟨co, cc, by rw [unhide HL1, unhide HL2]; rfl, by rw [unhide HL1]; exact own_base hok (by omega), hgk⟩

end Go.Proofs.Ythnandohmggieag
