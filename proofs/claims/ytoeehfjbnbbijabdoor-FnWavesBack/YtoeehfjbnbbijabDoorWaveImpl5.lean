/-
  Waves in the program: Basis, Forward, Inverse.
-/
import Derived.Test.YtoeehfjbnbbijabDoorWaveImpl4
namespace Go.Proofs.YtoeehfjbnbbijabDoor
open Go.RowKit Go.Shelf

theorem row8_at (zs : List Int) (k x : Nat) (hx : x < 8) : (row8 zs k).getD x 0 = zs.getD (8 * k + x) 0 := by rw [row8, made8_at _ _ hx]
theorem turned_at (zs : List Int) (p : Nat) (h : p < 64) : (turnedL zs).getD p 0 = zs.getD (tr p) 0 := by rw [turnedL, made_at _ _ h]
theorem one_at (L : List Int → Nat → Int) (zs : List Int) (y v : Nat) (hy : y < 8) (hv : v < 8) : (oneWay L zs).getD (8 * y + v) 0 = L (row8 zs y) v := by
  rw [oneWay, made_at _ _ (by omega)]
  show L (row8 zs ((8 * y + v) / 8)) ((8 * y + v) % 8) = _
  rw [show (8 * y + v) / 8 = y by omega, show (8 * y + v) % 8 = v by omega]
theorem mid_at (L : List Int → Nat → Int) (zs : List Int) (v y : Nat) (hy : y < 8) (hv : v < 8) : (row8 (turnedL (oneWay L zs)) v).getD y 0 = L (row8 zs y) v := by
  rw [row8_at _ _ _ hy, turned_at _ _ (by omega)]
  have e : tr (8 * v + y) = 8 * y + v := by unfold tr; omega
  rw [e, one_at L zs y v hy hv]
theorem two_at (L : List Int → Nat → Int) (zs : List Int) (p : Nat) (h : p < 64) : (twoWays L zs).getD p 0 = L (row8 (turnedL (oneWay L zs)) (p % 8)) (p / 8) := by
  rw [twoWays, turned_at _ _ h]
  have e : tr p = 8 * (p % 8) + p / 8 := rfl
  rw [e, one_at _ _ _ _ (by omega) (by omega)]

theorem two_waves (zs : List Int) (p : Nat) (h : p < 64) : (twoWays wavesP zs).getD p 0 = fwdS (fun k => zs.getD k 0) (p / 8) (p % 8) := by
  rw [two_at _ _ _ h]
  unfold wavesP fwdS
  refine sumTo_congr (fun y hy => ?_)
  show (row8 (turnedL (oneWay wavesP zs)) (p % 8)).getD y 0 * wv (8 * (p / 8) + y) = _
  rw [mid_at wavesP zs (p % 8) y hy (by omega)]
  unfold wavesP
  rw [sumTo_mul]
  refine sumTo_congr (fun x hx => ?_)
  show (row8 zs y).getD x 0 * wv (8 * (p % 8) + x) * wv (8 * (p / 8) + y) = _
  rw [row8_at _ _ _ hx, Int.mul_assoc, Int.mul_comm (wv (8 * (p % 8) + x)), ← Int.mul_assoc]
theorem two_samples (zs : List Int) (p : Nat) (h : p < 64) : (twoWays samplesP zs).getD p 0 = invS (fun k => zs.getD k 0) (p / 8) (p % 8) := by
  rw [two_at _ _ _ h]
  unfold samplesP invS
  refine sumTo_congr (fun u hu => ?_)
  show (row8 (turnedL (oneWay samplesP zs)) (p % 8)).getD u 0 * wv (8 * u + p / 8) = _
  rw [mid_at samplesP zs (p % 8) u hu (by omega)]
  unfold samplesP
  rw [sumTo_mul]
  refine sumTo_congr (fun v hv => ?_)
  show (row8 zs u).getD v 0 * wv (8 * v + p % 8) * wv (8 * u + p / 8) = _
  rw [row8_at _ _ _ hv, Int.mul_assoc, Int.mul_comm (wv (8 * v + p % 8)), ← Int.mul_assoc]

theorem wavesP_in {M : Int} (hM : 0 ≤ M) {ls : List Int} (h : LineIn M ls) (v : Nat) (hv : v < 8) : -(8 * (M * 2048)) ≤ wavesP ls v ∧ wavesP ls v ≤ 8 * (M * 2048) :=
  sum_in (Nat.le_refl _) (by omega) (fun x hx => prod_in h hx (by omega))
theorem samplesP_in {M : Int} (hM : 0 ≤ M) {ls : List Int} (h : LineIn M ls) (x : Nat) (hx : x < 8) : -(8 * (M * 2048)) ≤ samplesP ls x ∧ samplesP ls x ≤ 8 * (M * 2048) :=
  sum_in (Nat.le_refl _) (by omega) (fun u hu => prod_in h hu (by omega))
theorem LineIn.mono {M M' : Int} {ls : List Int} (h : LineIn M ls) (hM : M ≤ M') : LineIn M' ls := ⟨h.1, fun x hx => by have := h.2 x hx; omega⟩
theorem row_in {M : Int} {zs : List Int} (h : ∀ j, j < 64 → -M ≤ zs.getD j 0 ∧ zs.getD j 0 ≤ M) (k : Nat) (hk : k < 8) : LineIn M (row8 zs k) :=
  ⟨made8_len _, fun x hx => by rw [row8_at _ _ _ hx]; exact h _ (by omega)⟩
theorem mid_in {L : List Int → Nat → Int} (HL : ∀ (M : Int) (ls : List Int) (v : Nat), 0 ≤ M → LineIn M ls → v < 8 → -(8 * (M * 2048)) ≤ L ls v ∧ L ls v ≤ 8 * (M * 2048)) {zs : List Int} (h : ∀ j, j < 64 → -32767 ≤ zs.getD j 0 ∧ zs.getD j 0 ≤ 32767) (k : Nat) (hk : k < 8) : LineIn 536854528 (row8 (turnedL (oneWay L zs)) k) :=
  ⟨made8_len _, fun x hx => by
    rw [mid_at L zs k x hx hk]
    have := HL 32767 (row8 zs x) k (by omega) (row_in h x hx) hk
    omega⟩
theorem two_in {L : List Int → Nat → Int} (HL : ∀ (M : Int) (ls : List Int) (v : Nat), 0 ≤ M → LineIn M ls → v < 8 → -(8 * (M * 2048)) ≤ L ls v ∧ L ls v ≤ 8 * (M * 2048)) {zs : List Int} (h : ∀ j, j < 64 → -32767 ≤ zs.getD j 0 ∧ zs.getD j 0 ≤ 32767) (p : Nat) (hp : p < 64) : -1000000000000000 ≤ (twoWays L zs).getD p 0 ∧ (twoWays L zs).getD p 0 ≤ 1000000000000000 := by
  rw [two_at _ _ _ hp]
  have := HL 536854528 (row8 (turnedL (oneWay L zs)) (p % 8)) (p / 8) (by omega) (mid_in HL h (p % 8) (by omega)) (by omega)
  omega

def fwdL (zs : List Int) : List Int := made (fwd (fun k => zs.getD k 0))
def invL (zs : List Int) : List Int := made (inv (fun k => zs.getD k 0))

/-- Waves of samples. -/
theorem forthWays (zs : List Int) (hz : zs.length = 64) (h : ∀ j, j < 64 → -32767 ≤ zs.getD j 0 ∧ zs.getD j 0 ≤ 32767) (w : World) (hq : Qw w) :
    Calls Tryd.prog 18 #[.agg (sq zs), .func (.func 19) #[] #[]] w fun e w' => e = .returned (.agg (sq (fwdL zs))) ∧ w.grownBy w' none := by
  refine (bothWays zs hz wavesP 19 (enters_of Tryd.func19 (by kernel_rfl) rfl) w hq (fun ls hl W => toWaves ls hl W) (fun k hk => (row_in h k hk).mono (by omega)) (fun k hk => (mid_in (fun M ls v hM hl hv => wavesP_in hM hl v hv) h k hk).mono (by omega)) (two_in (fun M ls v hM hl hv => wavesP_in hM hl v hv) h)).mono ?_
  rintro e w' ⟨rfl, g⟩
  have hE : made (fun p => roundI ((twoWays wavesP zs).getD p 0)) = fwdL zs := made_congr (fun p hp => by rw [two_waves zs p hp]; rfl)
  rw [hE]
  exact ⟨rfl, g⟩

/-- Samples of waves, before they are cut. -/
theorem backWays (zs : List Int) (hz : zs.length = 64) (h : ∀ j, j < 64 → -32767 ≤ zs.getD j 0 ∧ zs.getD j 0 ≤ 32767) (w : World) (hq : Qw w) :
    Calls Tryd.prog 18 #[.agg (sq zs), .func (.func 26) #[] #[]] w fun e w' => e = .returned (.agg (sq (made (fun p => roundI (invS (fun k => zs.getD k 0) (p / 8) (p % 8)))))) ∧ w.grownBy w' none := by
  refine (bothWays zs hz samplesP 26 (enters_of Tryd.func26 (by kernel_rfl) rfl) w hq (fun ls hl W => toSamples ls hl W) (fun k hk => (row_in h k hk).mono (by omega)) (fun k hk => (mid_in (fun M ls v hM hl hv => samplesP_in hM hl v hv) h k hk).mono (by omega)) (two_in (fun M ls v hM hl hv => samplesP_in hM hl v hv) h)).mono ?_
  rintro e w' ⟨rfl, g⟩
  have hE : made (fun p => roundI ((twoWays samplesP zs).getD p 0)) = made (fun p => roundI (invS (fun k => zs.getD k 0) (p / 8) (p % 8))) := made_congr (fun p hp => by rw [two_samples zs p hp])
  rw [hE]
  exact ⟨rfl, g⟩

set_option maxRecDepth 20000 in
set_option maxHeartbeats 400000 in
theorem implBasis (w : World) (hq : Qw w) :
    Calls Tryd.prog 9 #[] w fun e w' => ∃ so sc, e = .returned (.slice so wvL.length sc) ∧ w'.ownsRow w.heap.size 3 1 (.slice so wvL.length sc) wvL.length (wvL.map (Value.int .i64)) ∧ w.grownBy w' none := by
  go_enter Tryd.func9, Tryd.ntmps9
  go_wp2_with fail
  refine (waveBasis w hq).mono ?_
  rintro e w1 ⟨rfl, g1⟩
  go_wp2_with fail
  refine (list wvL wv_len w1).mono ?_
  rintro e w2 ⟨v, rfl, ho, g2⟩
  go_wp2
  go_ret
  obtain ⟨so, sc, rfl⟩ := own_form ho
  exact ⟨_, _, rfl, own_base ho g1.size, grown_trans g1 g2⟩

set_option maxRecDepth 20000 in
set_option maxHeartbeats 800000 in
theorem implForward (ao : Option Addr) (n cap : Nat) (zs : List Int) (w : World) (hr : Rd .i64 w ao n zs) (hq : Qw w) (b : Bool) (hb : Hid (numsB (-2048) 2047 zs = b)) (L : List Int) (HL : Hid ((if b then fwdL zs else []) = L)) :
    Calls Tryd.prog 6 #[.slice ao n cap] w fun e w' => ∃ so sc, e = .returned (.slice so L.length sc) ∧ w'.ownsRow w.heap.size 3 1 (.slice so L.length sc) L.length (L.map (Value.int .i64)) ∧ w.grownBy w' none := by
  have HR := hide hr
  have HQ := hide hq
  clear hr hq
  go_enter Tryd.func6, Tryd.ntmps6
  go_wp2_with fail
  refine (fixSamples ao n cap zs _ (unhide HR) b hb).mono ?_
  rintro e w1 ⟨⟨ys, rfl, hy, hyz⟩, g1⟩
  have HY := hide hy
  have HYZ := hide hyz
  have HG1 := hide g1
  clear hy hyz g1
  cases b with
  | false =>
    have e : L = [] := (unhide HL).symm
    subst e
    go_wp2_with (refine store_row rfl 35 _ _ rfl w1.heap.size rfl (sq ys) rfl #[.int .i64 0, .int .i64 0, .int .i64 0, .int .i64 0, .int .i64 0, .int .i64 0, .int .i64 0, .int .i64 0, .int .i64 0, .int .i64 0, .int .i64 0, .int .i64 0, .int .i64 0, .int .i64 0, .int .i64 0, .int .i64 0, .int .i64 0, .int .i64 0, .int .i64 0, .int .i64 0, .int .i64 0, .int .i64 0, .int .i64 0, .int .i64 0, .int .i64 0, .int .i64 0, .int .i64 0, .int .i64 0, .int .i64 0, .int .i64 0, .int .i64 0, .int .i64 0, .int .i64 0, .int .i64 0, .int .i64 0, .int .i64 0, .int .i64 0, .int .i64 0, .int .i64 0, .int .i64 0, .int .i64 0, .int .i64 0, .int .i64 0, .int .i64 0, .int .i64 0, .int .i64 0, .int .i64 0, .int .i64 0, .int .i64 0, .int .i64 0, .int .i64 0, .int .i64 0, .int .i64 0, .int .i64 0, .int .i64 0, .int .i64 0, .int .i64 0, .int .i64 0, .int .i64 0, .int .i64 0, .int .i64 0, .int .i64 0, .int .i64 0, .int .i64 0] 35 (heap_alloc_new _ _) (by rw [sq_size, unhide HY]; rfl) (by rw [sq_size, unhide HY]; kernel_rfl) (sq_one _) ?_; intro w3 hB3 g3)
    go_ret
    exact ⟨none, 0, rfl, World.ownsRow_nil _ _ _ _, grown_new (grown_alloc (unhide HG1) _) g3 (fun g' e => by simp at e; have := (unhide HG1).size; omega)⟩
  | true =>
    have hz := (nums_at (unhide hb)).1
    have hn : n = 64 := by rw [← (unhide HR).1]; exact hz
    have e : ys = zs := unhide HYZ hn
    subst e
    have HBD : Hid (∀ j, j < 64 → -32767 ≤ ys.getD j 0 ∧ ys.getD j 0 ≤ 32767) := fun j hj => by have := (nums_at (unhide hb)).2 j hj; omega
    have e : L = fwdL ys := (unhide HL).symm
    subst e
    have hL64 : (fwdL ys).length = 64 := made_len _
    have HL64 := hide hL64
    clear hL64
    go_wp2_with (first | (refine store_row rfl 35 _ _ rfl w1.heap.size rfl (sq ys) rfl #[.int .i64 0, .int .i64 0, .int .i64 0, .int .i64 0, .int .i64 0, .int .i64 0, .int .i64 0, .int .i64 0, .int .i64 0, .int .i64 0, .int .i64 0, .int .i64 0, .int .i64 0, .int .i64 0, .int .i64 0, .int .i64 0, .int .i64 0, .int .i64 0, .int .i64 0, .int .i64 0, .int .i64 0, .int .i64 0, .int .i64 0, .int .i64 0, .int .i64 0, .int .i64 0, .int .i64 0, .int .i64 0, .int .i64 0, .int .i64 0, .int .i64 0, .int .i64 0, .int .i64 0, .int .i64 0, .int .i64 0, .int .i64 0, .int .i64 0, .int .i64 0, .int .i64 0, .int .i64 0, .int .i64 0, .int .i64 0, .int .i64 0, .int .i64 0, .int .i64 0, .int .i64 0, .int .i64 0, .int .i64 0, .int .i64 0, .int .i64 0, .int .i64 0, .int .i64 0, .int .i64 0, .int .i64 0, .int .i64 0, .int .i64 0, .int .i64 0, .int .i64 0, .int .i64 0, .int .i64 0, .int .i64 0, .int .i64 0, .int .i64 0, .int .i64 0] 35 (heap_alloc_new _ _) (by rw [sq_size, unhide HY]; rfl) (by rw [sq_size, unhide HY]; kernel_rfl) (sq_one _) ?_; intro w3 hB3 g3; have HB3 := hide hB3; clear hB3) | (refine load_row rfl 35 _ rfl w1.heap.size rfl (sq ys) 35 (unhide HB3) _ Tryd.underlying35 rfl (by rw [sq_size, unhide HY]; kernel_rfl) ?_))
    have HG3 : Hid (w.grownBy w3 none) := grown_new (grown_alloc (unhide HG1) _) g3 (fun g' e => by simp at e; have := (unhide HG1).size; omega)
    refine (forthWays ys (unhide HY) (unhide HBD) w3 ((unhide HQ).grown (unhide HG3))).mono ?_
    rintro e w4 ⟨rfl, g4⟩
    go_wp2_with fail
    refine (list (fwdL ys) (unhide HL64) w4).mono ?_
    rintro e w5 ⟨v, rfl, ho, g5⟩
    go_wp2
    go_ret
    have G4 := grown_trans (unhide HG3) g4
    rw [← unhide HL64] at ho
    obtain ⟨so, sc, rfl⟩ := own_form ho
    exact ⟨_, _, rfl, own_base ho G4.size, grown_trans G4 g5⟩

set_option maxRecDepth 20000 in
set_option maxHeartbeats 800000 in
theorem implInverse (ao : Option Addr) (n cap : Nat) (zs : List Int) (w : World) (hr : Rd .i64 w ao n zs) (hq : Qw w) (b : Bool) (hb : Hid (numsB (-32767) 32767 zs = b)) (L : List Int) (HL : Hid ((if b then invL zs else []) = L)) :
    Calls Tryd.prog 12 #[.slice ao n cap] w fun e w' => ∃ so sc, e = .returned (.slice so L.length sc) ∧ w'.ownsRow w.heap.size 3 1 (.slice so L.length sc) L.length (L.map (Value.int .i64)) ∧ w.grownBy w' none := by
  have HR := hide hr
  have HQ := hide hq
  clear hr hq
  go_enter Tryd.func12, Tryd.ntmps12
  go_wp2_with fail
  refine (fixBlock ao n cap zs _ (unhide HR) b hb).mono ?_
  rintro e w1 ⟨⟨ys, rfl, hy, hyz⟩, g1⟩
  have HY := hide hy
  have HYZ := hide hyz
  have HG1 := hide g1
  clear hy hyz g1
  cases b with
  | false =>
    have e : L = [] := (unhide HL).symm
    subst e
    go_wp2_with (refine store_row rfl 35 _ _ rfl w1.heap.size rfl (sq ys) rfl #[.int .i64 0, .int .i64 0, .int .i64 0, .int .i64 0, .int .i64 0, .int .i64 0, .int .i64 0, .int .i64 0, .int .i64 0, .int .i64 0, .int .i64 0, .int .i64 0, .int .i64 0, .int .i64 0, .int .i64 0, .int .i64 0, .int .i64 0, .int .i64 0, .int .i64 0, .int .i64 0, .int .i64 0, .int .i64 0, .int .i64 0, .int .i64 0, .int .i64 0, .int .i64 0, .int .i64 0, .int .i64 0, .int .i64 0, .int .i64 0, .int .i64 0, .int .i64 0, .int .i64 0, .int .i64 0, .int .i64 0, .int .i64 0, .int .i64 0, .int .i64 0, .int .i64 0, .int .i64 0, .int .i64 0, .int .i64 0, .int .i64 0, .int .i64 0, .int .i64 0, .int .i64 0, .int .i64 0, .int .i64 0, .int .i64 0, .int .i64 0, .int .i64 0, .int .i64 0, .int .i64 0, .int .i64 0, .int .i64 0, .int .i64 0, .int .i64 0, .int .i64 0, .int .i64 0, .int .i64 0, .int .i64 0, .int .i64 0, .int .i64 0, .int .i64 0] 35 (heap_alloc_new _ _) (by rw [sq_size, unhide HY]; rfl) (by rw [sq_size, unhide HY]; kernel_rfl) (sq_one _) ?_; intro w3 hB3 g3)
    go_ret
    exact ⟨none, 0, rfl, World.ownsRow_nil _ _ _ _, grown_new (grown_alloc (unhide HG1) _) g3 (fun g' e => by simp at e; have := (unhide HG1).size; omega)⟩
  | true =>
    have hz := (nums_at (unhide hb)).1
    have hn : n = 64 := by rw [← (unhide HR).1]; exact hz
    have e : ys = zs := unhide HYZ hn
    subst e
    have HBD : Hid (∀ j, j < 64 → -32767 ≤ ys.getD j 0 ∧ ys.getD j 0 ≤ 32767) := fun j hj => by have := (nums_at (unhide hb)).2 j hj; omega
    have e : L = invL ys := (unhide HL).symm
    subst e
    have hL64 : (invL ys).length = 64 := made_len _
    have HL64 := hide hL64
    clear hL64
    go_wp2_with (first | (refine store_row rfl 35 _ _ rfl w1.heap.size rfl (sq ys) rfl #[.int .i64 0, .int .i64 0, .int .i64 0, .int .i64 0, .int .i64 0, .int .i64 0, .int .i64 0, .int .i64 0, .int .i64 0, .int .i64 0, .int .i64 0, .int .i64 0, .int .i64 0, .int .i64 0, .int .i64 0, .int .i64 0, .int .i64 0, .int .i64 0, .int .i64 0, .int .i64 0, .int .i64 0, .int .i64 0, .int .i64 0, .int .i64 0, .int .i64 0, .int .i64 0, .int .i64 0, .int .i64 0, .int .i64 0, .int .i64 0, .int .i64 0, .int .i64 0, .int .i64 0, .int .i64 0, .int .i64 0, .int .i64 0, .int .i64 0, .int .i64 0, .int .i64 0, .int .i64 0, .int .i64 0, .int .i64 0, .int .i64 0, .int .i64 0, .int .i64 0, .int .i64 0, .int .i64 0, .int .i64 0, .int .i64 0, .int .i64 0, .int .i64 0, .int .i64 0, .int .i64 0, .int .i64 0, .int .i64 0, .int .i64 0, .int .i64 0, .int .i64 0, .int .i64 0, .int .i64 0, .int .i64 0, .int .i64 0, .int .i64 0, .int .i64 0] 35 (heap_alloc_new _ _) (by rw [sq_size, unhide HY]; rfl) (by rw [sq_size, unhide HY]; kernel_rfl) (sq_one _) ?_; intro w3 hB3 g3; have HB3 := hide hB3; clear hB3) | (refine load_row rfl 35 _ rfl w1.heap.size rfl (sq ys) 35 (unhide HB3) _ Tryd.underlying35 rfl (by rw [sq_size, unhide HY]; kernel_rfl) ?_))
    have HG3 : Hid (w.grownBy w3 none) := grown_new (grown_alloc (unhide HG1) _) g3 (fun g' e => by simp at e; have := (unhide HG1).size; omega)
    refine (backWays ys (unhide HY) (unhide HBD) w3 ((unhide HQ).grown (unhide HG3))).mono ?_
    rintro e w4 ⟨rfl, g4⟩
    go_wp2_with fail
    refine (each (made (fun p => roundI (invS (fun k => ys.getD k 0) (p / 8) (p % 8)))) (made_len _) (inv (fun k => ys.getD k 0)) 28 #[] (enters_of Tryd.func28 (by kernel_rfl) rfl) w4 (fun k hk W hW => (nearestSample _ W).mono ?_)).mono ?_
    · rintro e w' ⟨rfl, rfl⟩
      rw [made_at _ k hk]
      exact ⟨rfl, World.grownBy.refl _ _⟩
    rintro e w4' ⟨rfl, g4'⟩
    have eI : made (inv (fun k => ys.getD k 0)) = invL ys := rfl
    rw [eI]
    clear eI
    have g45 := grown_trans g4 g4'
    clear g4'
    go_wp2_with fail
    refine (list (invL ys) (unhide HL64) w4').mono ?_
    rintro e w5 ⟨v, rfl, ho, g5⟩
    go_wp2
    go_ret
    have G4 := grown_trans (unhide HG3) g45
    rw [← unhide HL64] at ho
    obtain ⟨so, sc, rfl⟩ := own_form ho
    exact ⟨_, _, rfl, own_base ho G4.size, grown_trans G4 g5⟩

end Go.Proofs.YtoeehfjbnbbijabDoor
