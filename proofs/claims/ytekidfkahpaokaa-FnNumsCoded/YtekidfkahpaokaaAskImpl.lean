/-
  A number asked for in the program: a closure that knows its base.
-/
import Derived.Test.YtekidfkahpaokaaTellImpl
import Derived.Test.YtekidfkahpaokaaNumRead
namespace Go.Proofs.Ytekidfkahpaokaa
open Go.RowKit

/-- The asker: the reader, the base and the way to the reader in their boxes. -/
structure Ak (B : World) (rb bb fb b : Nat) (w : World) (bs : Value) (m : Nat) (r : Rs) : Prop where
  cr : Cr B rb w bs m r
  bbx : w.heap[bb]? = some (.cells #[.int .i64 (b : Int)] 3 (0, 0))
  fbx : w.heap[fb]? = some (.cells #[.func (.func 42) #[.pointer (some ⟨rb, 0, none⟩)] #[]] 48 (0, 0))
  m2 : bb ≠ rb
  m3 : fb ≠ rb

theorem Ak.beside {B w w' : World} {rb bb fb b m : Nat} {bs : Value} {r : Rs} {row : Option Nat} (h : Ak B rb bb fb b w bs m r) (g : w.grownBy w' row) (h1 : row ≠ some rb) (h2 : row ≠ some bb) (h3 : row ≠ some fb) (hb : ∀ k, row = some k → B.heap.size ≤ k) : Ak B rb bb fb b w' bs m r :=
  ⟨h.cr.beside g h1 hb, at_new g h.bbx h2, at_new g h.fbx h3, h.m2, h.m3⟩

set_option maxHeartbeats 800000 in
theorem implAsk {B w : World} {rb bb fb b : Nat} {r : Rs} (ao : Option Addr) (m cap : Nat) (bz : List Int) (h : Ak B rb bb fb b w (.slice ao m cap) m r) (hr : Rd .u8 B ao m bz) (hz : ∀ i, 0 ≤ bz.getD i 0 ∧ bz.getD i 0 ≤ 255) (hm : m ≤ 1048576) (hbb : b ≤ 380) (c : Nat) (hc : c ≤ 18) :
    Calls Try.prog 60 #[.int .i64 (c : Int), .pointer (some ⟨fb, 0, none⟩), .pointer (some ⟨bb, 0, none⟩)] w fun e w' => e = .returned (.int .i64 ((bitR r (b + c) : Nat) : Int)) ∧ Ak B rb bb fb b w' (.slice ao m cap) m (nextR (byteS bz) r (b + c)) ∧ w.grownBy w' (some rb) := by
  have c0 : w.cell? ⟨bb, 0, none⟩ = some (.int .i64 (b : Int)) := by rw [cell_of_row w bb 0 _ _ (0, 0) h.bbx]; rfl
  have c1 : w.cell? ⟨fb, 0, none⟩ = some (.func (.func 42) #[.pointer (some ⟨rb, 0, none⟩)] #[]) := by rw [cell_of_row w fb 0 _ _ (0, 0) h.fbx]; rfl
  have e1 := i64_in ((b : Int) + (c : Int)) (by omega)
  have HP := hide (implBitR ao m cap bz h.cr hr hz (b + c) (by omega) hm)
  have ec : ((b + c : Nat) : Int) = (b : Int) + (c : Int) := by omega
  rw [ec] at HP
  have HH := hide h
  clear h hr hz ec
  obtain ⟨x, HX⟩ : ∃ x, Hid (bitR r (b + c) = x) := ⟨_, rfl⟩
  obtain ⟨r2, HR2⟩ : ∃ r2, Hid (nextR (byteS bz) r (b + c) = r2) := ⟨_, rfl⟩
  rw [unhide HX, unhide HR2] at HP
  rw [unhide HX, unhide HR2]
  clear HX HR2
  go_enter Try.func60, Try.ntmps60
  go_wp2_with fail
  refine (unhide HP).mono ?_
  rintro e w1 ⟨rfl, h1, g1⟩
  have HF : Hid (Ak B rb bb fb b w1 (.slice ao m cap) m r2 ∧ w.grownBy w1 (some rb)) := ⟨⟨h1, at_new g1 (unhide HH).bbx (fun e => (unhide HH).m2 (Option.some.inj e).symm), at_new g1 (unhide HH).fbx (fun e => (unhide HH).m3 (Option.some.inj e).symm), (unhide HH).m2, (unhide HH).m3⟩, g1⟩
  clear h1 g1 HP HH
  go_wp2
  go_ret
  exact ⟨rfl, unhide HF⟩

theorem implAskerOf {B w : World} {rb : Nat} {bs : Value} {m : Nat} {r : Rs} (h : Cr B rb w bs m r) (b : Nat) :
    Calls Try.prog 40 #[.int .i64 (b : Int), .func (.func 42) #[.pointer (some ⟨rb, 0, none⟩)] #[]] w fun e w' => ∃ bb fb, e = .returned (.func (.func 60) #[] #[.pointer (some ⟨fb, 0, none⟩), .pointer (some ⟨bb, 0, none⟩)]) ∧ Ak B rb bb fb b w' bs m r ∧ w.grownBy w' none := by
  have HF : Hid (Ak B rb w.heap.size (w.heap.size + 1) b ((w.alloc (.cells #[.int .i64 (b : Int)] 3)).alloc (.cells #[.func (.func 42) #[.pointer (some ⟨rb, 0, none⟩)] #[]] 48)) bs m r ∧ w.grownBy ((w.alloc (.cells #[.int .i64 (b : Int)] 3)).alloc (.cells #[.func (.func 42) #[.pointer (some ⟨rb, 0, none⟩)] #[]] 48)) none) := by
    have g1 : w.grownBy (w.alloc (.cells #[.int .i64 (b : Int)] 3)) none := World.grownBy_alloc _ _ _
    have g2 : (w.alloc (.cells #[.int .i64 (b : Int)] 3)).grownBy ((w.alloc (.cells #[.int .i64 (b : Int)] 3)).alloc (.cells #[.func (.func 42) #[.pointer (some ⟨rb, 0, none⟩)] #[]] 48)) none := World.grownBy_alloc _ _ _
    have hlt := h.lt
    have hs : (w.alloc (.cells #[.int .i64 (b : Int)] 3)).heap.size = w.heap.size + 1 := by simp
    have hn := heap_alloc_new (w.alloc (.cells #[.int .i64 (b : Int)] 3)) (.cells #[.func (.func 42) #[.pointer (some ⟨rb, 0, none⟩)] #[]] 48)
    rw [hs] at hn
    exact ⟨⟨(h.new g1).new g2, at_new g2 (heap_alloc_new w _) (by simp), hn, by omega, by omega⟩, grown_trans g1 g2⟩
  clear h
  go_enter Try.func40, Try.ntmps40
  go_wp2
  go_ret
  exact ⟨_, _, rfl, unhide HF⟩

set_option maxHeartbeats 1600000 in
theorem implAskClass {B w : World} {rb bb fb b : Nat} {r : Rs} (ao : Option Addr) (m cap : Nat) (bz : List Int) (h : Ak B rb bb fb b w (.slice ao m cap) m r) (hr : Rd .u8 B ao m bz) (hz : ∀ i, 0 ≤ bz.getD i 0 ∧ bz.getD i 0 ≤ 255) (hm : m ≤ 1048576) (hbb : b ≤ 380) (k : Nat) (r2 : Rs) (HU : Hid (upR (byteS bz) b 14 1 r = (k, r2))) :
    Calls Try.prog 67 #[.func (.func 60) #[] #[.pointer (some ⟨fb, 0, none⟩), .pointer (some ⟨bb, 0, none⟩)]] w fun e w' => e = .returned (.int .i64 (k : Int)) ∧ Ak B rb bb fb b w' (.slice ao m cap) m r2 ∧ w.grownBy w' (some rb) := by
  have HH := hide h
  have HASK := hide (fun (W : World) (rr : Rs) (hh : Ak B rb bb fb b W (.slice ao m cap) m rr) (c : Nat) (hc : c ≤ 18) => implAsk ao m cap bz hh hr hz hm hbb c hc)
  clear h hr hz
  go_enter Try.func67, Try.ntmps67
  go_wp2
  go_loopw [3] (fun iv wr => ∃ (i : Nat) (r' : Rs), 1 ≤ i ∧ i ≤ 15 ∧ iv = .int .i64 i ∧ Hid (Ak B rb bb fb b wr (.slice ao m cap) m r') ∧ Hid (w.grownBy wr (some rb)) ∧ Hid (upR (byteS bz) b (15 - i) i r' = (k, r2))) (fun iv _ => 15 - (intOf iv).toNat)
  case atStart => exact ⟨1, r, Nat.le_refl _, by omega, rfl, HH, World.grownBy.refl _ _, HU⟩
  case round =>
    clear HH HU
    obtain ⟨i, r', hi1, hi2, rfl, hak, hg, hu⟩ := hrel
    by_cases hlt : i < 15
    · have hd : decide ((i : Int) < 15) = true := decide_eq_true (by omega)
      have e1 := i64_in (2 + (i : Int)) (by omega)
      have e2 := i64_in (2 + (i : Int) - 1) (by omega)
      have e3 := i64_in ((i : Int) + 1) (by omega)
      have HP := hide (unhide HASK wr r' (unhide hak) (i + 1) (by omega))
      have ec : ((i + 1 : Nat) : Int) = 2 + (i : Int) - 1 := by omega
      rw [ec] at HP
      have hu1 := unhide hu
      rw [show 15 - i = (15 - (i + 1)) + 1 by omega, upR, show b + 1 + i = b + (i + 1) by omega] at hu1
      have hx1 := bitR_le r' (b + (i + 1))
      obtain ⟨x, HX⟩ : ∃ x, Hid (bitR r' (b + (i + 1)) = x) := ⟨_, rfl⟩
      obtain ⟨r3, HR3⟩ : ∃ r3, Hid (nextR (byteS bz) r' (b + (i + 1)) = r3) := ⟨_, rfl⟩
      rw [unhide HX, unhide HR3] at HP hu1
      rw [unhide HX] at hx1
      clear HX HR3 ec hu
      have hx : x = 1 ∨ x = 0 := by omega
      rcases hx with rfl | rfl
      · rw [if_pos rfl] at hu1
        have HU2 := hide hu1
        clear hu1 hx1
        go_wp2_with fail
        refine (unhide HP).mono ?_
        rintro e w1 ⟨rfl, h1, g1⟩
        have H1 := hide h1
        have HG1 := hide (grown_trans (unhide hg) g1)
        clear h1 g1 HP hg
        go_wp2
        go_roundw
        case rel => exact ⟨i + 1, r3, by omega, by omega, by go_num, H1, HG1, HU2⟩
        case measure => simp [intOf]; omega
      · rw [if_neg (by omega)] at hu1
        obtain ⟨rfl, rfl⟩ := Prod.mk.inj hu1
        clear hu1 hx1
        go_wp2_with fail
        refine (unhide HP).mono ?_
        rintro e w1 ⟨rfl, h1, g1⟩
        have HF := hide (And.intro h1 (grown_trans (unhide hg) g1))
        clear h1 g1 HP hg
        go_wp2
        go_ret
        exact ⟨rfl, unhide HF⟩
    · obtain rfl : i = 15 := by omega
      have hu1 := unhide hu
      rw [Nat.sub_self, upR] at hu1
      obtain ⟨rfl, rfl⟩ := Prod.mk.inj hu1
      clear hu hu1
      go_wp2
      go_ret
      exact ⟨rfl, unhide hak, unhide hg⟩

set_option maxHeartbeats 1600000 in
theorem implAskRest {B w : World} {rb bb fb b : Nat} {r : Rs} (ao : Option Addr) (m cap : Nat) (bz : List Int) (h : Ak B rb bb fb b w (.slice ao m cap) m r) (hr : Rd .u8 B ao m bz) (hz : ∀ i, 0 ≤ bz.getD i 0 ∧ bz.getD i 0 ≤ 255) (hm : m ≤ 1048576) (hbb : b ≤ 380) (s : Nat) (hs1 : 1 ≤ s) (hs2 : s ≤ 15) (k : Nat) (r2 : Rs) (HU : Hid (lowR (byteS bz) b (s - 1) 1 r = (k, r2))) :
    Calls Try.prog 66 #[.func (.func 60) #[] #[.pointer (some ⟨fb, 0, none⟩), .pointer (some ⟨bb, 0, none⟩)], .int .i64 (s : Int)] w fun e w' => e = .returned (.int .i64 (k : Int)) ∧ Ak B rb bb fb b w' (.slice ao m cap) m r2 ∧ w.grownBy w' (some rb) := by
  have HH := hide h
  have HASK := hide (fun (W : World) (rr : Rs) (hh : Ak B rb bb fb b W (.slice ao m cap) m rr) => implAsk ao m cap bz hh hr hz hm hbb 18 (by omega))
  have e0 := i64_in ((s : Int) - 1) (by omega)
  clear h hr hz
  go_enter Try.func66, Try.ntmps66
  go_wp2
  go_loopw [5, 8] (fun lv iv wr => ∃ (i q : Nat) (r' : Rs), i + 1 ≤ s ∧ iv = .int .i64 i ∧ lv = .int .i64 q ∧ Hid (q < 2 ^ (i + 1)) ∧ Hid (Ak B rb bb fb b wr (.slice ao m cap) m r') ∧ Hid (w.grownBy wr (some rb)) ∧ Hid (lowR (byteS bz) b (s - 1 - i) q r' = (k, r2))) (fun _ iv _ => s - (intOf iv).toNat)
  case atStart => exact ⟨0, 1, r, by omega, rfl, rfl, by unfold Hid; omega, HH, World.grownBy.refl _ _, HU⟩
  case round =>
    clear HH HU
    obtain ⟨i, q, r', hi, rfl, rfl, hq, hak, hg, hu⟩ := hrel
    have hq2 : q < 32768 := Nat.lt_of_lt_of_le (unhide hq) (Nat.le_trans (Nat.pow_le_pow_right (by omega) (show i + 1 ≤ 15 by omega)) (by decide))
    by_cases hlt : i + 1 < s
    · have hd : decide ((i : Int) < (s : Int) - 1) = true := decide_eq_true (by omega)
      have e1 := i64_in (2 * (q : Int)) (by omega)
      have e3 := i64_in ((i : Int) + 1) (by omega)
      have HP := hide (unhide HASK wr r' (unhide hak))
      have hu1 := unhide hu
      rw [show s - 1 - i = (s - 1 - (i + 1)) + 1 by omega, lowR] at hu1
      have hx1 := bitR_le r' (b + 18)
      obtain ⟨x, HX⟩ : ∃ x, Hid (bitR r' (b + 18) = x) := ⟨_, rfl⟩
      obtain ⟨r3, HR3⟩ : ∃ r3, Hid (nextR (byteS bz) r' (b + 18) = r3) := ⟨_, rfl⟩
      rw [unhide HX, unhide HR3] at HP hu1
      rw [unhide HX] at hx1
      have e4 := i64_in (2 * (q : Int) + (x : Int)) (by omega)
      have EQ2 : Hid (2 * (q : Int) + (x : Int) = ((2 * q + x : Nat) : Int)) := by unfold Hid; omega
      have HQ : Hid (2 * q + x < 2 ^ (i + 1 + 1)) := by have := unhide hq; unfold Hid; rw [Nat.pow_succ]; omega
      have HU2 := hide hu1
      clear HX HR3 hu hu1 hq
      go_wp2_with fail
      refine (unhide HP).mono ?_
      rintro e w1 ⟨rfl, h1, g1⟩
      have H1 := hide h1
      have HG1 := hide (grown_trans (unhide hg) g1)
      clear h1 g1 HP hg
      go_wp2
      go_roundw
      case rel => exact ⟨i + 1, 2 * q + x, r3, by omega, by go_num, by rw [← unhide EQ2], HQ, H1, HG1, HU2⟩
      case measure => simp [intOf]; omega
    · have hd : decide ((i : Int) < (s : Int) - 1) = false := decide_eq_false (by omega)
      have hu1 := unhide hu
      rw [show s - 1 - i = 0 by omega, lowR] at hu1
      obtain ⟨rfl, rfl⟩ := Prod.mk.inj hu1
      clear hu hu1
      go_wp2
      go_ret
      exact ⟨rfl, unhide hak, unhide hg⟩

set_option maxHeartbeats 1600000 in
theorem implAskNum {B w : World} {rb bb fb b : Nat} {r : Rs} (ao : Option Addr) (m cap : Nat) (bz : List Int) (h : Ak B rb bb fb b w (.slice ao m cap) m r) (hr : Rd .u8 B ao m bz) (hz : ∀ i, 0 ≤ bz.getD i 0 ∧ bz.getD i 0 ≤ 255) (hm : m ≤ 1048576) (hbb : b ≤ 380) (x : Int) (r2 : Rs) (HU : Hid (numR (byteS bz) b r = (x, r2))) :
    Calls Try.prog 43 #[.func (.func 60) #[] #[.pointer (some ⟨fb, 0, none⟩), .pointer (some ⟨bb, 0, none⟩)]] w fun e w' => e = .returned (.int .i64 x) ∧ Ak B rb bb fb b w' (.slice ao m cap) m r2 ∧ w.grownBy w' (some rb) := by
  have HASK := hide (fun (W : World) (rr : Rs) (hh : Ak B rb bb fb b W (.slice ao m cap) m rr) (c : Nat) (hc : c ≤ 18) => implAsk ao m cap bz hh hr hz hm hbb c hc)
  have hu1 := unhide HU
  rw [numR] at hu1
  have HP := hide (unhide HASK w r h 0 (by omega))
  rw [Nat.add_zero] at HP
  have hx1 := bitR_le r b
  obtain ⟨q, HQ⟩ : ∃ q, Hid (bitR r b = q) := ⟨_, rfl⟩
  obtain ⟨r3, HR3⟩ : ∃ r3, Hid (nextR (byteS bz) r b = r3) := ⟨_, rfl⟩
  rw [unhide HQ, unhide HR3] at HP hu1
  rw [unhide HQ] at hx1
  have hq : q = 1 ∨ q = 0 := by omega
  clear HU HQ HR3 hx1
  rcases hq with rfl | rfl
  · rw [if_pos rfl] at hu1
    obtain ⟨rfl, rfl⟩ := Prod.mk.inj hu1
    clear hu1 h
    go_enter Try.func43, Try.ntmps43
    go_wp2_with fail
    refine (unhide HP).mono ?_
    rintro e w1 ⟨rfl, h1, g1⟩
    have HF := hide (And.intro h1 g1)
    clear h1 g1 HP
    go_wp2
    go_ret
    exact ⟨rfl, unhide HF⟩
  · rw [if_neg (by omega)] at hu1
    have hx2 := bitR_le r3 (b + 1)
    obtain ⟨sg, HS⟩ : ∃ sg, Hid (bitR r3 (b + 1) = sg) := ⟨_, rfl⟩
    obtain ⟨r4, HR4⟩ : ∃ r4, Hid (nextR (byteS bz) r3 (b + 1) = r4) := ⟨_, rfl⟩
    rw [unhide HR4, unhide HS] at hu1
    rw [unhide HS] at hx2
    obtain ⟨a, r5, HA⟩ : ∃ a r5, Hid (absR (byteS bz) b r4 = (a, r5)) := ⟨_, _, rfl⟩
    rw [unhide HA] at hu1
    obtain ⟨c, r6, HC⟩ : ∃ c r6, Hid (upR (byteS bz) b 14 1 r4 = (c, r6)) := ⟨_, _, rfl⟩
    have HLOW : Hid (lowR (byteS bz) b (c - 1) 1 r6 = (a, r5)) := by
      have h1 := unhide HA
      rw [absR, unhide HC] at h1
      exact h1
    have hcb := upR_le (B := byteS bz) (base := b) 14 1 r4 (by omega)
    rw [unhide HC] at hcb
    have hab := lowR_le (B := byteS bz) (base := b) (c - 1) 1 r6
    rw [unhide HLOW] at hab
    have hab2 : a < 32768 := by
      dsimp only at hab hcb
      have := Nat.pow_le_pow_right (show 0 < 2 by omega) (show c - 1 ≤ 14 by omega)
      have e : (2 : Nat) ^ 14 = 16384 := by decide
      omega
    dsimp only at hcb
    clear hab HA
    have e1 := i64_in (-(a : Int)) (by omega)
    obtain ⟨rfl, rfl⟩ : (if sg = 1 then -(a : Int) else (a : Int)) = x ∧ r5 = r2 := Prod.mk.inj hu1
    have hs : sg = 1 ∨ sg = 0 := by omega
    clear hu1 hx2 h
    have HCL := hide (fun (W : World) (hh : Ak B rb bb fb b W (.slice ao m cap) m r4) => implAskClass ao m cap bz hh hr hz hm hbb c r6 HC)
    have HRS := hide (fun (W : World) (hh : Ak B rb bb fb b W (.slice ao m cap) m r6) => implAskRest ao m cap bz hh hr hz hm hbb c hcb.1 hcb.2 a r5 HLOW)
    clear hr hz HC HLOW
    rcases hs with rfl | rfl
    · rw [if_pos rfl]
      go_enter Try.func43, Try.ntmps43
      go_wp2_with fail
      refine (unhide HP).mono ?_
      rintro e w1 ⟨rfl, h1, g1⟩
      have HP2 := hide (unhide HASK w1 r3 h1 1 (by omega))
      rw [unhide HS, unhide HR4] at HP2
      have HG1 := hide g1
      clear h1 g1 HP HS HR4 HASK
      go_wp2_with fail
      refine (unhide HP2).mono ?_
      rintro e w2 ⟨rfl, h2, g2⟩
      have HP3 := hide (unhide HCL w2 h2)
      have HG2 := hide (grown_trans (unhide HG1) g2)
      clear h2 g2 HP2 HG1 HCL
      go_wp2_with fail
      refine (unhide HP3).mono ?_
      rintro e w3 ⟨rfl, h3, g3⟩
      have HP4 := hide (unhide HRS w3 h3)
      have HG3 := hide (grown_trans (unhide HG2) g3)
      clear h3 g3 HP3 HG2 HRS
      go_wp2_with fail
      refine (unhide HP4).mono ?_
      rintro e w4 ⟨rfl, h4, g4⟩
      have HF := hide (And.intro h4 (grown_trans (unhide HG3) g4))
      clear h4 g4 HP4 HG3
      go_wp2
      go_ret
      exact ⟨rfl, unhide HF⟩
    · rw [if_neg (by omega)]
      go_enter Try.func43, Try.ntmps43
      go_wp2_with fail
      refine (unhide HP).mono ?_
      rintro e w1 ⟨rfl, h1, g1⟩
      have HP2 := hide (unhide HASK w1 r3 h1 1 (by omega))
      rw [unhide HS, unhide HR4] at HP2
      have HG1 := hide g1
      clear h1 g1 HP HS HR4 HASK
      go_wp2_with fail
      refine (unhide HP2).mono ?_
      rintro e w2 ⟨rfl, h2, g2⟩
      have HP3 := hide (unhide HCL w2 h2)
      have HG2 := hide (grown_trans (unhide HG1) g2)
      clear h2 g2 HP2 HG1 HCL
      go_wp2_with fail
      refine (unhide HP3).mono ?_
      rintro e w3 ⟨rfl, h3, g3⟩
      have HP4 := hide (unhide HRS w3 h3)
      have HG3 := hide (grown_trans (unhide HG2) g3)
      clear h3 g3 HP3 HG2 HRS
      go_wp2_with fail
      refine (unhide HP4).mono ?_
      rintro e w4 ⟨rfl, h4, g4⟩
      have HF := hide (And.intro h4 (grown_trans (unhide HG3) g4))
      clear h4 g4 HP4 HG3
      go_wp2
      go_ret
      exact ⟨rfl, unhide HF⟩

end Go.Proofs.Ytekidfkahpaokaa
