/-
  Planes of samples in the program: lists of numbers made to samples, and back.
-/
import Derived.Test.YtkefpjbdkhifhaaToneGrid
import Derived.Test.YtkefpjbdkhifhaaSampLaid
namespace Go.Proofs.Ytkefpjbdkhifhaa
open Go.RowKit

theorem u16_in (z : Int) (h : 0 ≤ z ∧ z ≤ 65535) : IntKind.u16.wrap z = z := by
  rw [IntKind.wrap_u16]; omega

/-- Numbers in a block of samples, all of them where they are such. -/
def PutTo (t : TypeId) (g n : Nat) (zs : List Int) (b : Bool) (w : World) : Prop := ∃ L', L'.length = n ∧ Blk .u16 t w g L' ∧ (b = true → L' = zs)

set_option maxRecDepth 20000 in
set_option maxHeartbeats 1600000 in
theorem putTones (t : TypeId) (g n cap : Nat) (ao : Option Addr) (zs : List Int) (W : World) (hr : Rd .i64 W ao n zs) (hB : Blk .u16 t W g (List.replicate n 0)) (hne : 0 < n → ∀ b off, ao = some ⟨b, off, none⟩ → b ≠ g) (hn : n ≤ 1048576) (b : Bool) (HB : Hid ((zs.all fun x => decide (0 ≤ x ∧ x ≤ 4095)) = b)) :
    Calls Try.prog 81 #[.slice (some ⟨g, 0, none⟩) n n, .slice ao n cap] W fun e W' => e = .returned (.bool b) ∧ PutTo t g n zs b W' ∧ W.grownBy W' (some g) := by
  have HR := hide hr
  have HZ := hide hr.1
  have HNE := hide hne
  have HB0 : Hid (Blk .u16 t W g (laidTo zs 0)) := by rw [laidTo_zero, unhide HZ]; exact hB
  clear hr hB hne
  go_enter Try.func81, Try.ntmps81
  go_wp2
  go_loopw [9] (fun i wr => ∃ k : Nat, k ≤ n ∧ i = .int .i64 k ∧ Hid (tonesTo zs k) ∧ Hid (Blk .u16 t wr g (laidTo zs k)) ∧ Hid (W.grownBy wr (some g))) (fun i _ => n - (intOf i).toNat)
  case atStart => exact ⟨0, by omega, by go_num, fun j hj => absurd hj (by omega), HB0, World.grownBy.refl _ _⟩
  case round =>
    obtain ⟨k, hk, rfl, HK, HBK, HG⟩ := hrel
    by_cases hlt : k < n
    · have hkI : (k : Int) < (n : Int) := by omega
      obtain ⟨bb, off, rfl, hc⟩ := ((unhide HR).beside (unhide HG) (unhide HNE)).2 k hlt
      obtain ⟨z, HX⟩ : ∃ z, Hid (zs.getD k 0 = z) := ⟨_, rfl⟩
      obtain ⟨y, HT⟩ : ∃ y, Hid (decide (0 ≤ z ∧ z ≤ 4095) = y) := ⟨_, rfl⟩
      rw [unhide HX] at hc
      have e9 := i64_in ((k : Int) + 1) (by omega)
      go_wp2_with fail
      refine (inRange z 0 4095 y HT wr).mono ?_
      rintro e wr ⟨rfl, rfl⟩
      cases y with
      | true =>
        have hz := of_decide_eq_true (unhide HT)
        have HK' : Hid (tonesTo zs (k + 1)) := fun j hj => by
          by_cases e : j = k
          · subst e; rw [unhide HX]; exact hz
          · exact unhide HK j (by omega)
        have ez := u16_in z (by omega)
        have hlen : (laidTo zs k).length = n := by rw [laidTo_len zs k (by rw [unhide HZ]; exact hk), unhide HZ]
        have ck := (unhide HBK).cell k (by rw [hlen]; exact hlt)
        have fk := (unhide HBK).frozen k
        have HB' : Hid (Blk .u16 t (wr.setCell ⟨g, k, none⟩ (.int .u16 z)) g (laidTo zs (k + 1))) := by
          unfold Hid
          rw [← laidTo_set zs k (by rw [unhide HZ]; exact hlt) z (unhide HX)]
          exact (unhide HBK).set k z
        have HG' := hide (grown_trans (unhide HG) (grown_set wr g k (.int .u16 z)))
        clear hlen hz
        go_wp2
        go_roundw
        case rel => exact ⟨k + 1, by omega, by go_num, HK', HB', HG'⟩
        case measure => simp [intOf]; omega
      | false =>
        obtain rfl : b = false := by
          rw [← unhide HB, tones_no (k := k) (by rw [unhide HZ]; exact hlt) (by rw [unhide HX]; exact unhide HT)]
        go_wp2
        go_ret
        exact ⟨rfl, ⟨_, by rw [laidTo_len zs k (by rw [unhide HZ]; exact hk), unhide HZ], unhide HBK, fun e => by cases e⟩, unhide HG⟩
    · obtain rfl : k = n := by omega
      obtain rfl : b = true := by
        rw [← unhide HB, tones_all (by rw [unhide HZ]; exact unhide HK)]
      have hA : laidTo zs k = zs := by rw [← unhide HZ]; exact laidTo_all zs
      rw [hA] at HBK
      go_wp2
      go_ret
      exact ⟨rfl, ⟨zs, unhide HZ, unhide HBK, fun _ => rfl⟩, unhide HG⟩

set_option maxRecDepth 20000 in
set_option maxHeartbeats 1600000 in
theorem toneList (t : TypeId) (g n : Nat) (L : List Int) (W : World) (hB : Blk .u16 t W g L) (hL : L.length = n) (hn : n ≤ 131072) (h0 : ∀ x ∈ L, 0 ≤ x ∧ x ≤ 4095) :
    Calls Try.prog 60 #[.slice (some ⟨g, 0, none⟩) n n] W fun e W' => ∃ so sc, e = .returned (.slice so n sc) ∧ W'.ownsRow W.heap.size 3 1 (.slice so n sc) n (L.map (Value.int .i64)) ∧ W.grownBy W' none := by
  have HB := hide hB
  have HL := hide hL
  have H0 := hide h0
  clear hB hL h0
  obtain ⟨i0, hi, hz0, hz1, hz2⟩ := info_parts info_iS
  have HI := hide hi
  have HZ0 := hide hz0
  have HZ1 := hide hz1
  have HZ2 := hide hz2
  clear hi hz0 hz1 hz2
  go_enter Try.func60, Try.ntmps60
  go_wp2_with (at_make; refine wpList_make_own _ rfl _ _ 24 rfl W.heap.size 3 i0 (.int .i64 0) 1 Try.underlying24 (unhide HI) (unhide HZ0) (unhide HZ1) .i64 .i64 _ n rfl rfl rfl (by rw [unhide HZ2]; omega) (by unfold maxLen; omega) (Nat.le_refl _) ?_)
  intro w2 hown g2
  have HO2 : Hid (w2.ownsRow W.heap.size 3 1 (.slice (some ⟨W.heap.size, 0, none⟩) 0 n) 0 ((L.take 0).map (Value.int .i64))) := hown
  have HG2 := hide g2
  clear hown g2
  go_wp2
  go_loopw [3, 11] (fun v kv wr => ∃ (k : Nat) (vo : Option Addr) (vc : Nat), k ≤ n ∧ v = .slice vo k vc ∧ kv = .int .i64 k ∧ Hid (wr.ownsRow W.heap.size 3 1 (.slice vo k vc) k ((L.take k).map (Value.int .i64))) ∧ Hid (W.grownBy wr none)) (fun _ kv _ => n - (intOf kv).toNat)
  case atStart => exact ⟨0, _, n, Nat.zero_le _, rfl, rfl, HO2, HG2⟩
  case round =>
    clear HO2 HG2
    obtain ⟨k, vo, vc, hk, rfl, rfl, HO, HG⟩ := hrel
    by_cases hlt : k < n
    · have hkI : (k : Int) < (n : Int) := by omega
      obtain ⟨z, HX⟩ : ∃ z, Hid (L.getD k 0 = z) := ⟨_, rfl⟩
      have ck := ((unhide HB).grown (unhide HG)).cell k (by rw [unhide HL]; exact hlt)
      rw [unhide HX] at ck
      have hz : 0 ≤ z ∧ z ≤ 4095 := by
        have e : L.getD k 0 = L[k]'(by rw [unhide HL]; exact hlt) := by simp [unhide HL, hlt]
        rw [← unhide HX, e]
        exact unhide H0 _ (List.getElem_mem _)
      have ez := i64_in z (by omega)
      have e9 := i64_in ((k : Int) + 1) (by omega)
      have HNX : Hid (L.take k ++ [z] = L.take (k + 1)) := by
        unfold Hid
        rw [List.take_succ_eq_append_getElem (by rw [unhide HL]; exact hlt), ← unhide HX]
        simp [unhide HL, hlt]
      have hkb : k + 1 ≤ 1000000 := by omega
      go_wp2_with ((at_builtin; refine append_i16 rfl _ _ rfl W _ k (L.take k) rfl (unhide HO) z rfl hkb (unhide HG) ?_; intro v' w' ho hg))
      rw [unhide HNX] at ho
      obtain ⟨so, sc, rfl⟩ := own_form ho
      have HO' := hide ho
      have HG' := hide hg
      clear ho hg
      go_wp2
      go_roundw
      case rel => exact ⟨k + 1, so, sc, by omega, rfl, by go_num, HO', HG'⟩
      case measure => simp [intOf]; omega
    · obtain rfl : k = n := by omega
      have e : L.take k = L := by rw [← unhide HL]; exact List.take_length
      rw [e] at HO
      go_wp2
      go_ret
      exact ⟨_, _, rfl, unhide HO, unhide HG⟩

end Go.Proofs.Ytkefpjbdkhifhaa
