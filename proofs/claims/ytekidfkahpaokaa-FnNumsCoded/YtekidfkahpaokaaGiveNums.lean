/-
  ReadNums of the program, and what the program gives for the laws of chapter 10.
-/
import Derived.Test.YtekidfkahpaokaaListImpl
import Derived.Test.YtekidfkahpaokaaAskImpl
import Derived.Test.YtekidfkahpaokaaEncImpl5
namespace Go.Proofs.Ytekidfkahpaokaa
open Go.RowKit

/-- The row that is told, beside the asker. -/
structure Lr (B : World) (rb bb fb : Nat) (w : World) (o : Value) (L : List Int) : Prop where
  own : w.ownsRow B.heap.size 3 1 o L.length (L.map (Value.int .i64))
  n1 : o.ownBlock ≠ some rb
  n2 : o.ownBlock ≠ some bb
  n3 : o.ownBlock ≠ some fb

set_option maxRecDepth 20000 in
set_option maxHeartbeats 3200000 in
theorem implReadNums (bo : Option Addr) (m bc : Nat) (bz : List Int) (n base : Int) (w : World) (hz : Rd .u8 w bo m bz) (hb : ∀ i, 0 ≤ bz.getD i 0 ∧ bz.getD i 0 ≤ 255) (hm : m ≤ 1048576) (R : List Int) (HRR : Hid (readNG bz n base = R)) :
    Calls Try.prog 13 #[.slice bo m bc, .int .i64 n, .int .i64 base] w fun e w' => ∃ co cc, e = .returned (.slice co R.length cc) ∧ w'.ownsRow w.heap.size 3 1 (.slice co R.length cc) R.length (R.map (Value.int .i64)) ∧ w.grownBy w' none := by
  have HZ := hide hz
  have HB := hide hb
  clear hz hb
  obtain ⟨b1, HB1⟩ : ∃ b, Hid (decide (0 ≤ n ∧ n ≤ 4096) = b) := ⟨_, rfl⟩
  obtain ⟨b2, HB2⟩ : ∃ b, Hid (baseB base = b) := ⟨_, rfl⟩
  cases b1 with
  | false =>
    have e : R = [] := by rw [← unhide HRR, readNG, unhide HB1]; rfl
    subst e
    go_enter Try.func13, Try.ntmps13
    go_wp2_with fail
    refine (inRange7 n 0 4096 false HB1 w).mono ?_
    rintro e w ⟨rfl, rfl⟩
    go_wp2
    go_ret
    exact ⟨none, 0, rfl, ⟨rfl, .inl ⟨rfl, rfl⟩⟩, World.grownBy.refl _ _⟩
  | true =>
    cases b2 with
    | false =>
      have e : R = [] := by rw [← unhide HRR, readNG, unhide HB2, Bool.and_false]; rfl
      subst e
      go_enter Try.func13, Try.ntmps13
      go_wp2_with fail
      refine (inRange7 n 0 4096 true HB1 w).mono ?_
      rintro e w ⟨rfl, rfl⟩
      go_wp2_with fail
      refine (implBaseOk base false HB2 w).mono ?_
      rintro e w ⟨rfl, rfl⟩
      go_wp2
      go_ret
      exact ⟨none, 0, rfl, ⟨rfl, .inl ⟨rfl, rfl⟩⟩, World.grownBy.refl _ _⟩
    | true =>
      have hn := of_decide_eq_true (unhide HB1)
      have hbs : 0 ≤ base ∧ base ≤ 380 := of_decide_eq_true (unhide HB2)
      obtain ⟨N, rfl⟩ := Int.eq_ofNat_of_zero_le hn.1
      obtain ⟨b, rfl⟩ := Int.eq_ofNat_of_zero_le hbs.1
      have HRE : Hid (R = [] ++ numsR (byteS bz) b (N - 0) (startR bz)) := by
        unfold Hid
        rw [← unhide HRR, readNG, unhide HB1, unhide HB2]; rfl
      have hbb : b ≤ 380 := by omega
      have hN : N ≤ 4096 := by omega
      obtain ⟨i0, hi, hz0, hz1, hz2⟩ := info_parts info_n9
      clear HRR hbs hn
      go_enter Try.func13, Try.ntmps13
      go_wp2_with fail
      refine (inRange7 (N : Int) 0 4096 true HB1 w).mono ?_
      rintro e w ⟨rfl, rfl⟩
      go_wp2_with fail
      refine (implBaseOk (b : Int) true HB2 w).mono ?_
      rintro e w ⟨rfl, rfl⟩
      go_wp2_with fail
      refine (implNewR bo m bc bz w (unhide HZ) (unhide HB) hm).mono ?_
      rintro e w1 ⟨rb, rfl, h1⟩
      have H1 := hide h1
      clear h1 HB1 HB2
      go_wp2_with fail
      refine (implAskerOf (unhide H1) b).mono ?_
      rintro e w2 ⟨bb, fb, rfl, h2, g2⟩
      have hgs : w.heap.size ≤ w2.heap.size := h2.cr.grown.size
      have hlt : rb < w2.heap.size ∧ bb < w2.heap.size ∧ fb < w2.heap.size := ⟨h2.cr.lt, (Array.getElem?_eq_some_iff.1 h2.bbx).1, (Array.getElem?_eq_some_iff.1 h2.fbx).1⟩
      have H2 := hide h2
      clear h2 g2 H1
      go_wp2_with (at_make; refine wpList_make_own _ rfl _ _ 24 rfl w.heap.size 3 i0 (.int .i64 0) 1 Try.underlying24 hi hz0 hz1 .i64 .i64 _ N rfl rfl rfl (by rw [hz2]; omega) (by unfold maxLen; omega) hgs ?_)
      intro w3 hown hgrow
      have HO3 : Hid (Lr w rb bb fb w3 (.slice (some ⟨w2.heap.size, 0, none⟩) ([] : List Int).length N) []) :=
        ⟨hown, fun e => by have e3 : w2.heap.size = rb := Option.some.inj e; omega, fun e => by have e3 : w2.heap.size = bb := Option.some.inj e; omega, fun e => by have e3 : w2.heap.size = fb := Option.some.inj e; omega⟩
      have H3 := hide ((unhide H2).beside hgrow (by simp) (by simp) (by simp) (fun k e => by simp at e))
      obtain ⟨r0, HR0⟩ : ∃ r0, Hid (startR bz = r0) := ⟨_, rfl⟩
      rw [unhide HR0] at H3 HRE
      clear hown hgrow H2 hlt hgs HR0 hi hz0 hz1 hz2
      go_wp2
      go_loopw [8, 25] (fun ov iv wr => ∃ (k : Nat) (oo : Option Addr) (oc : Nat) (L : List Int) (r : Rs), k ≤ N ∧ iv = .int .i64 k ∧ ov = .slice oo L.length oc ∧ Hid (L.length = k) ∧ Hid (Lr w rb bb fb wr (.slice oo L.length oc) L) ∧ Hid (Ak w rb bb fb b wr (.slice bo m bc) m r) ∧ Hid (R = L ++ numsR (byteS bz) b (N - k) r)) (fun _ iv _ => N - (intOf iv).toNat)
      case atStart => exact ⟨0, some ⟨w2.heap.size, 0, none⟩, N, [], r0, Nat.zero_le _, rfl, rfl, rfl, HO3, H3, HRE⟩
      case round =>
        clear HO3 H3 HRE
        obtain ⟨k, oo, oc, L, r, hk, rfl, rfl, hLk, hlr, hak, hR⟩ := hrel
        by_cases hkn : k < N
        · have hd : decide ((k : Int) < (N : Int)) = true := decide_eq_true (by omega)
          have hRR := unhide hR
          rw [show N - k = (N - (k + 1)) + 1 by omega, numsR] at hRR
          obtain ⟨x, r2, HU⟩ : ∃ x r2, Hid (numR (byteS bz) b r = (x, r2)) := ⟨_, _, rfl⟩
          rw [unhide HU] at hRR
          have HNM := hide (implAskNum bo m bc bz (unhide hak) (unhide HZ) (unhide HB) hm hbb x r2 HU)
          obtain ⟨L2, HL2⟩ : ∃ L2, Hid (L ++ [x] = L2) := ⟨_, rfl⟩
          have HRN : Hid (R = L2 ++ numsR (byteS bz) b (N - (k + 1)) r2) := by unfold Hid; rw [hRR, ← unhide HL2]; simp
          have HL2L : Hid (L2.length = k + 1) := by unfold Hid; rw [← unhide HL2, List.length_append, unhide hLk]; rfl
          have HLB : Hid (L.length ≤ 2000000) := by have := unhide hLk; unfold Hid; omega
          clear hRR hR HU hak
          go_wp2_with fail
          refine (unhide HNM).mono ?_
          rintro e w5 ⟨rfl, h5, g5⟩
          have HL5 : Hid (Lr w rb bb fb w5 (.slice oo L.length oc) L) := ⟨own_beneath (unhide hlr).own g5 (fun g g' h h' => by simp at h'; subst h'; intro e; exact (unhide hlr).n1 (e ▸ h)), (unhide hlr).n1, (unhide hlr).n2, (unhide hlr).n3⟩
          have H5 := hide h5
          have hgs : w.heap.size ≤ w5.heap.size := h5.cr.grown.size
          have HGS := hide hgs
          clear h5 g5 HNM hlr hgs
          go_wp2_with (at_builtin; refine append_in rfl _ _ rfl w.heap.size (.slice oo L.length oc) L rfl (unhide HL5).own x rfl (unhide HLB) (unhide HGS) L2 (unhide HL2) ?_)
          intro g7 c7 w7 o7 g7w hat7
          have HA7 := hide ((unhide H5).beside g7w (unhide HL5).n1 (unhide HL5).n2 (unhide HL5).n3 (fun k e => ((unhide HL5).own.lt k e).1))
          have HL7 : Hid (Lr w rb bb fb w7 (.slice (some ⟨g7, 0, none⟩) L2.length c7) L2) := by
            have l1 := (unhide H5).cr.lt
            have l2 := (Array.getElem?_eq_some_iff.1 (unhide H5).bbx).1
            have l3 := (Array.getElem?_eq_some_iff.1 (unhide H5).fbx).1
            refine ⟨o7, fun e => ?_, fun e => ?_, fun e => ?_⟩
            · have e3 : g7 = rb := Option.some.inj e
              rcases hat7 with h | h
              · exact (unhide HL5).n1 (by rw [h, e3])
              · omega
            · have e3 : g7 = bb := Option.some.inj e
              rcases hat7 with h | h
              · exact (unhide HL5).n2 (by rw [h, e3])
              · omega
            · have e3 : g7 = fb := Option.some.inj e
              rcases hat7 with h | h
              · exact (unhide HL5).n3 (by rw [h, e3])
              · omega
          clear o7 g7w hat7 HL5 H5 HGS
          go_wp2
          go_roundw
          case rel => exact ⟨k + 1, some ⟨g7, 0, none⟩, c7, L2, r2, by omega, by go_num, rfl, HL2L, HL7, HA7, HRN⟩
          case measure => simp [intOf]; omega
        · obtain rfl : k = N := by omega
          have hd : decide ((k : Int) < (k : Int)) = false := decide_eq_false (by omega)
          have hRR := unhide hR
          rw [Nat.sub_self, numsR, List.append_nil] at hRR
          subst hRR
          clear hR
          go_wp2
          go_ret
          exact ⟨oo, oc, rfl, (unhide hlr).own, (unhide hak).cr.grown⟩

theorem giveReadN : ImplReadN := fun bo m bc bz n base w hz hb hm => implReadNums bo m bc bz n base w hz hb hm _ rfl

theorem giveEncN : ImplEnc := fun ao n cap fs w hr _ => implEncode ao n cap fs w hr

end Go.Proofs.Ytekidfkahpaokaa
