/-
  FromYcc in the specification, and both at any prec (written by gen_colour.py).
-/
import Derived.Test.YtgknninkfdgebaaColourTo
namespace Go.Proofs.Ytgknninkfdgebaa
open Go.RowKit

set_option maxRecDepth 20000 in
set_option maxHeartbeats 800000 in
theorem specFromYcc8 (ao : Option Addr) (n cap : Nat) (zs : List Int) (w : World) (hr : Rd .i64 w ao n zs) (L : List Int) (HL : Hid (fromYG 8 zs = L)) :
    Calls Try.prog 7 #[.int .i64 8, .slice ao n cap] w fun e w' => ∃ so sc, e = .returned (.slice so L.length sc) ∧ w'.ownsRow w.heap.size 3 1 (.slice so L.length sc) L.length (L.map (Value.int .i64)) ∧ w.grownBy w' none := by
  have HZ := hide hr.1
  have HR := hide hr
  clear hr
  obtain ⟨b, HB⟩ : ∃ y, Hid (pxB 8 zs = y) := ⟨_, rfl⟩
  go_enter Try.func7, Try.ntmps7
  go_wp2_with fail
  refine (specPx8 ao n cap zs w (unhide HR) b HB).mono ?_
  rintro e w1 ⟨rfl, g1⟩
  cases b with
  | false =>
    obtain rfl : L = [] := by rw [← unhide HL, fromYG, unhide HB]; rfl
    go_wp2
    go_ret
    exact ⟨_, _, rfl, own_base17 (World.ownsRow_lit w1 #[] 0 (Nat.le_refl _) (by unfold maxLen; omega) rfl) g1.size, grown_alloc g1 _⟩
  | true =>
  have hp := px_at (unhide HB)
  obtain rfl : n = 3 := by rw [← unhide HZ]; exact hp.1
  obtain ⟨bb, off, rfl, c0⟩ := (unhide HR).2 0 (by omega)
  obtain ⟨b1, o1, e1, c1⟩ := (unhide HR).2 1 (by omega)
  obtain ⟨b2, o2, e2, c2⟩ := (unhide HR).2 2 (by omega)
  simp only [Option.some.injEq, Addr.mk.injEq, and_true] at e1 e2
  obtain ⟨rfl, rfl⟩ := e1
  obtain ⟨rfl, rfl⟩ := e2
  simp only [Nat.add_zero] at c0
  have hx := hp.2 0 (by omega)
  have hy := hp.2 1 (by omega)
  have hz := hp.2 2 (by omega)
  have HLL : Hid (fromL 255 128 (zs.getD 0 0) (zs.getD 1 0) (zs.getD 2 0) = L) := by rw [← unhide HL, fromYG, unhide HB]; rfl
  rw [show mostI 8 = 255 from rfl] at hx hy hz
  have C0 := hide (g1.cell c0 (by simp))
  have C1 := hide (g1.cell c1 (by simp))
  have C2 := hide (g1.cell c2 (by simp))
  clear hp c0 c1 c2 HB
  generalize zs.getD 0 0 = p0 at *
  generalize zs.getD 1 0 = p1 at *
  generalize zs.getD 2 0 = p2 at *
  have G1 := hide g1
  clear g1
  obtain ⟨kr, HKR⟩ : ∃ k, Hid (rndI (359 * (p2 - 128)) 256 = k) := ⟨_, rfl⟩
  obtain ⟨kb, HKB⟩ : ∃ k, Hid (rndI (454 * (p1 - 128)) 256 = k) := ⟨_, rfl⟩
  have hkr : -20000 ≤ kr ∧ kr ≤ 20000 := by have h := rnd_in (359 * (p2 - 128)) 256 (by omega); rw [unhide HKR] at h; omega
  have hkb : -20000 ≤ kb ∧ kb ≤ 20000 := by have h := rnd_in (454 * (p1 - 128)) 256 (by omega); rw [unhide HKB] at h; omega
  obtain ⟨r', HR'⟩ : ∃ k, Hid (clipI (p0 + kr) 255 = k) := ⟨_, rfl⟩
  obtain ⟨b', HB'⟩ : ∃ k, Hid (clipI (p0 + kb) 255 = k) := ⟨_, rfl⟩
  have hr' : 0 ≤ r' ∧ r' ≤ 255 := by rw [← unhide HR']; exact clip_in _ _ (by omega)
  have hb' : 0 ≤ b' ∧ b' ≤ 255 := by rw [← unhide HB']; exact clip_in _ _ (by omega)
  obtain ⟨kg, HKG⟩ : ∃ k, Hid (rndI (256 * p0 - 77 * r' - 29 * b') 150 = k) := ⟨_, rfl⟩
  obtain ⟨g', HG'⟩ : ∃ k, Hid (clipI kg 255 = k) := ⟨_, rfl⟩
  obtain rfl : L = [r', g', b'] := by
    rw [← unhide HLL]
    unfold fromL rOf bOf gOf
    rw [unhide HKR, unhide HKB, unhide HR', unhide HB', unhide HKG, unhide HG']
  clear HLL HL
  have k1 := i64_in (p2 - 128) (by omega)
  have k2 := i64_in (359 * (p2 - 128)) (by omega)
  have k3 := i64_in (p0 + kr) (by omega)
  have k4 := i64_in (p1 - 128) (by omega)
  have k5 := i64_in (454 * (p1 - 128)) (by omega)
  have k6 := i64_in (p0 + kb) (by omega)
  go_wp2
  refine wp_region_noPanic ?_
  refine wp_region_tail (fun W => w1.drew.grownBy W none) [true, true, true, true, true, true, true, true, true, false, false, true, false, false] (by kernel_rfl) (fun _ _ _ _ _ h => h) rfl (by kernel_rfl) (World.grownBy.refl _ _) ?_
  have D0W1 := hide ((grown_drew (World.grownBy.refl w1 none)).cell (unhide C0) (by simp))
  have D1W1 := hide ((grown_drew (World.grownBy.refl w1 none)).cell (unhide C1) (by simp))
  have D2W1 := hide ((grown_drew (World.grownBy.refl w1 none)).cell (unhide C2) (by simp))
  have gDW1 := hide (grown_drew (unhide G1))
  generalize w1.drew = W1 at *
  clear C0 C1 C2 G1 w1
  have C0 := D0W1
  have C1 := D1W1
  have C2 := D2W1
  have G1 := gDW1
  clear D0W1 D1W1 D2W1 gDW1
  refine heldF_take (v := ?_) (Or.inl ⟨by rfl, ?_⟩) ?_
  rotate_left 1
  · intro w' hSw
    go_simp
    try with_reducible rfl
  try simp only [Act.put, List.setIfInBounds_toArray, List.set_cons_zero, List.set_cons_succ]
  refine heldF_take (v := ?_) (Or.inl ⟨by rfl, ?_⟩) ?_
  rotate_left 1
  · intro w' hSw
    go_simp
    try with_reducible rfl
  try simp only [Act.put, List.setIfInBounds_toArray, List.set_cons_zero, List.set_cons_succ]
  refine heldF_take (v := ?_) (Or.inl ⟨by rfl, ?_⟩) ?_
  rotate_left 1
  · intro w' hSw
    have cc := hSw.cell (unhide C0) (by simp)
    go_simp
    try with_reducible rfl
  try simp only [Act.put, List.setIfInBounds_toArray, List.set_cons_zero, List.set_cons_succ]
  refine heldF_take (v := ?_) (Or.inl ⟨by rfl, ?_⟩) ?_
  rotate_left 1
  · intro w' hSw
    go_simp
    try with_reducible rfl
  try simp only [Act.put, List.setIfInBounds_toArray, List.set_cons_zero, List.set_cons_succ]
  refine heldF_take (v := ?_) (Or.inl ⟨by rfl, ?_⟩) ?_
  rotate_left 1
  · intro w' hSw
    go_simp
    try with_reducible rfl
  try simp only [Act.put, List.setIfInBounds_toArray, List.set_cons_zero, List.set_cons_succ]
  refine heldF_take (v := ?_) (Or.inl ⟨by rfl, ?_⟩) ?_
  rotate_left 1
  · intro w' hSw
    have cc := hSw.cell (unhide C2) (by simp)
    go_simp
    try with_reducible rfl
  try simp only [Act.put, List.setIfInBounds_toArray, List.set_cons_zero, List.set_cons_succ]
  refine heldF_take (v := ?_) (Or.inl ⟨by rfl, ?_⟩) ?_
  rotate_left 1
  · intro w' hSw
    go_simp
    try with_reducible rfl
  try simp only [Act.put, List.setIfInBounds_toArray, List.set_cons_zero, List.set_cons_succ]
  refine heldF_take (v := ?_) (Or.inl ⟨by rfl, ?_⟩) ?_
  rotate_left 1
  · intro w' hSw
    go_simp
    try with_reducible rfl
  try simp only [Act.put, List.setIfInBounds_toArray, List.set_cons_zero, List.set_cons_succ]
  refine heldF_take (v := ?_) (Or.inl ⟨by rfl, ?_⟩) ?_
  rotate_left 1
  · intro w' hSw
    go_simp
    try with_reducible rfl
  try simp only [Act.put, List.setIfInBounds_toArray, List.set_cons_zero, List.set_cons_succ]
  refine heldF_skip ?_
  refine heldF_skip ?_
  refine heldF_take (v := ?_) (Or.inl ⟨by rfl, ?_⟩) ?_
  rotate_left 1
  · intro w' hSw
    go_simp
    try with_reducible rfl
  try simp only [Act.put, List.setIfInBounds_toArray, List.set_cons_zero, List.set_cons_succ]
  refine heldF_skip ?_
  refine heldF_skip ?_
  refine heldF_nil ?_
  refine tailF_skip ?_
  refine tailF_skip ?_
  refine tailF_skip ?_
  refine tailF_skip ?_
  refine tailF_skip ?_
  refine tailF_skip ?_
  refine tailF_skip ?_
  refine tailF_skip ?_
  refine tailF_skip ?_
  refine tailF_step (fun K hK => ?_)
  go_simp
  refine (specRnd256 (359 * (p2 - 128)) kr (by omega) HKR W1).mono ?_
  rintro e w4 ⟨rfl, rfl⟩
  refine hK.out _ _ (World.grownBy.refl _ _) ?_
  clear hK K
  try simp only [Act.put, List.setIfInBounds_toArray, List.set_cons_zero, List.set_cons_succ]
  refine tailF_step (fun K hK => ?_)
  go_simp
  refine hK.out _ _ (World.grownBy.refl _ _) ?_
  clear hK K
  try simp only [Act.put, List.setIfInBounds_toArray, List.set_cons_zero, List.set_cons_succ]
  refine tailF_skip ?_
  refine tailF_step (fun K hK => ?_)
  go_simp
  refine (specClip17 (p0 + kr) 255 r' (by omega) HR' W1).mono ?_
  rintro e w4 ⟨rfl, rfl⟩
  refine hK.out _ _ (World.grownBy.refl _ _) ?_
  clear hK K
  try simp only [Act.put, List.setIfInBounds_toArray, List.set_cons_zero, List.set_cons_succ]
  refine tailF_step (fun K hK => ?_)
  go_simp
  refine hK.out _ _ (World.grownBy.refl _ _) ?_
  clear hK K
  try simp only [Act.put, List.setIfInBounds_toArray, List.set_cons_zero, List.set_cons_succ]
  refine tailF_nil (NoPanic.normal ?_)
  try simp only [Act.put]
  go_wp2
  refine wp_region_noPanic ?_
  refine wp_region_tail (fun W => W1.drew.grownBy W none) [true, true, true, true, true, true, true, true, true, false, false, true, false, false] (by kernel_rfl) (fun _ _ _ _ _ h => h) rfl (by kernel_rfl) (World.grownBy.refl _ _) ?_
  have D0W2 := hide ((grown_drew (World.grownBy.refl W1 none)).cell (unhide C0) (by simp))
  have D1W2 := hide ((grown_drew (World.grownBy.refl W1 none)).cell (unhide C1) (by simp))
  have D2W2 := hide ((grown_drew (World.grownBy.refl W1 none)).cell (unhide C2) (by simp))
  have gDW2 := hide (grown_drew (unhide G1))
  generalize W1.drew = W2 at *
  clear C0 C1 C2 G1 W1
  have C0 := D0W2
  have C1 := D1W2
  have C2 := D2W2
  have G1 := gDW2
  clear D0W2 D1W2 D2W2 gDW2
  refine heldF_take (v := ?_) (Or.inl ⟨by rfl, ?_⟩) ?_
  rotate_left 1
  · intro w' hSw
    go_simp
    try with_reducible rfl
  try simp only [Act.put, List.setIfInBounds_toArray, List.set_cons_zero, List.set_cons_succ]
  refine heldF_take (v := ?_) (Or.inl ⟨by rfl, ?_⟩) ?_
  rotate_left 1
  · intro w' hSw
    go_simp
    try with_reducible rfl
  try simp only [Act.put, List.setIfInBounds_toArray, List.set_cons_zero, List.set_cons_succ]
  refine heldF_take (v := ?_) (Or.inl ⟨by rfl, ?_⟩) ?_
  rotate_left 1
  · intro w' hSw
    have cc := hSw.cell (unhide C0) (by simp)
    go_simp
    try with_reducible rfl
  try simp only [Act.put, List.setIfInBounds_toArray, List.set_cons_zero, List.set_cons_succ]
  refine heldF_take (v := ?_) (Or.inl ⟨by rfl, ?_⟩) ?_
  rotate_left 1
  · intro w' hSw
    go_simp
    try with_reducible rfl
  try simp only [Act.put, List.setIfInBounds_toArray, List.set_cons_zero, List.set_cons_succ]
  refine heldF_take (v := ?_) (Or.inl ⟨by rfl, ?_⟩) ?_
  rotate_left 1
  · intro w' hSw
    go_simp
    try with_reducible rfl
  try simp only [Act.put, List.setIfInBounds_toArray, List.set_cons_zero, List.set_cons_succ]
  refine heldF_take (v := ?_) (Or.inl ⟨by rfl, ?_⟩) ?_
  rotate_left 1
  · intro w' hSw
    have cc := hSw.cell (unhide C1) (by simp)
    go_simp
    try with_reducible rfl
  try simp only [Act.put, List.setIfInBounds_toArray, List.set_cons_zero, List.set_cons_succ]
  refine heldF_take (v := ?_) (Or.inl ⟨by rfl, ?_⟩) ?_
  rotate_left 1
  · intro w' hSw
    go_simp
    try with_reducible rfl
  try simp only [Act.put, List.setIfInBounds_toArray, List.set_cons_zero, List.set_cons_succ]
  refine heldF_take (v := ?_) (Or.inl ⟨by rfl, ?_⟩) ?_
  rotate_left 1
  · intro w' hSw
    go_simp
    try with_reducible rfl
  try simp only [Act.put, List.setIfInBounds_toArray, List.set_cons_zero, List.set_cons_succ]
  refine heldF_take (v := ?_) (Or.inl ⟨by rfl, ?_⟩) ?_
  rotate_left 1
  · intro w' hSw
    go_simp
    try with_reducible rfl
  try simp only [Act.put, List.setIfInBounds_toArray, List.set_cons_zero, List.set_cons_succ]
  refine heldF_skip ?_
  refine heldF_skip ?_
  refine heldF_take (v := ?_) (Or.inl ⟨by rfl, ?_⟩) ?_
  rotate_left 1
  · intro w' hSw
    go_simp
    try with_reducible rfl
  try simp only [Act.put, List.setIfInBounds_toArray, List.set_cons_zero, List.set_cons_succ]
  refine heldF_skip ?_
  refine heldF_skip ?_
  refine heldF_nil ?_
  refine tailF_skip ?_
  refine tailF_skip ?_
  refine tailF_skip ?_
  refine tailF_skip ?_
  refine tailF_skip ?_
  refine tailF_skip ?_
  refine tailF_skip ?_
  refine tailF_skip ?_
  refine tailF_skip ?_
  refine tailF_step (fun K hK => ?_)
  go_simp
  refine (specRnd256 (454 * (p1 - 128)) kb (by omega) HKB W2).mono ?_
  rintro e w4 ⟨rfl, rfl⟩
  refine hK.out _ _ (World.grownBy.refl _ _) ?_
  clear hK K
  try simp only [Act.put, List.setIfInBounds_toArray, List.set_cons_zero, List.set_cons_succ]
  refine tailF_step (fun K hK => ?_)
  go_simp
  refine hK.out _ _ (World.grownBy.refl _ _) ?_
  clear hK K
  try simp only [Act.put, List.setIfInBounds_toArray, List.set_cons_zero, List.set_cons_succ]
  refine tailF_skip ?_
  refine tailF_step (fun K hK => ?_)
  go_simp
  refine (specClip17 (p0 + kb) 255 b' (by omega) HB' W2).mono ?_
  rintro e w4 ⟨rfl, rfl⟩
  refine hK.out _ _ (World.grownBy.refl _ _) ?_
  clear hK K
  try simp only [Act.put, List.setIfInBounds_toArray, List.set_cons_zero, List.set_cons_succ]
  refine tailF_step (fun K hK => ?_)
  go_simp
  refine hK.out _ _ (World.grownBy.refl _ _) ?_
  clear hK K
  try simp only [Act.put, List.setIfInBounds_toArray, List.set_cons_zero, List.set_cons_succ]
  refine tailF_nil (NoPanic.normal ?_)
  try simp only [Act.put]
  have c0 := unhide C0
  go_wp2_with fail
  refine (specRnd150 (256 * p0 - 77 * r' - 29 * b') kg (by omega) HKG _).mono ?_
  rintro e w5 ⟨rfl, rfl⟩
  go_wp2_with fail
  refine (specClip17 kg 255 g' (by omega) HG' _).mono ?_
  rintro e w5 ⟨rfl, rfl⟩
  go_wp2
  go_ret
  exact ⟨_, _, rfl, own_base17 (World.ownsRow_lit _ #[.int .i64 r', .int .i64 g', .int .i64 b'] 3 (Nat.le_refl _) (by unfold maxLen; omega) rfl) (unhide G1).size, grown_alloc (unhide G1) _⟩

set_option maxRecDepth 20000 in
set_option maxHeartbeats 800000 in
theorem specFromYcc12 (ao : Option Addr) (n cap : Nat) (zs : List Int) (w : World) (hr : Rd .i64 w ao n zs) (L : List Int) (HL : Hid (fromYG 12 zs = L)) :
    Calls Try.prog 7 #[.int .i64 12, .slice ao n cap] w fun e w' => ∃ so sc, e = .returned (.slice so L.length sc) ∧ w'.ownsRow w.heap.size 3 1 (.slice so L.length sc) L.length (L.map (Value.int .i64)) ∧ w.grownBy w' none := by
  have HZ := hide hr.1
  have HR := hide hr
  clear hr
  obtain ⟨b, HB⟩ : ∃ y, Hid (pxB 12 zs = y) := ⟨_, rfl⟩
  go_enter Try.func7, Try.ntmps7
  go_wp2_with fail
  refine (specPx12 ao n cap zs w (unhide HR) b HB).mono ?_
  rintro e w1 ⟨rfl, g1⟩
  cases b with
  | false =>
    obtain rfl : L = [] := by rw [← unhide HL, fromYG, unhide HB]; rfl
    go_wp2
    go_ret
    exact ⟨_, _, rfl, own_base17 (World.ownsRow_lit w1 #[] 0 (Nat.le_refl _) (by unfold maxLen; omega) rfl) g1.size, grown_alloc g1 _⟩
  | true =>
  have hp := px_at (unhide HB)
  obtain rfl : n = 3 := by rw [← unhide HZ]; exact hp.1
  obtain ⟨bb, off, rfl, c0⟩ := (unhide HR).2 0 (by omega)
  obtain ⟨b1, o1, e1, c1⟩ := (unhide HR).2 1 (by omega)
  obtain ⟨b2, o2, e2, c2⟩ := (unhide HR).2 2 (by omega)
  simp only [Option.some.injEq, Addr.mk.injEq, and_true] at e1 e2
  obtain ⟨rfl, rfl⟩ := e1
  obtain ⟨rfl, rfl⟩ := e2
  simp only [Nat.add_zero] at c0
  have hx := hp.2 0 (by omega)
  have hy := hp.2 1 (by omega)
  have hz := hp.2 2 (by omega)
  have HLL : Hid (fromL 4095 2048 (zs.getD 0 0) (zs.getD 1 0) (zs.getD 2 0) = L) := by rw [← unhide HL, fromYG, unhide HB]; rfl
  rw [show mostI 12 = 4095 from rfl] at hx hy hz
  have C0 := hide (g1.cell c0 (by simp))
  have C1 := hide (g1.cell c1 (by simp))
  have C2 := hide (g1.cell c2 (by simp))
  clear hp c0 c1 c2 HB
  generalize zs.getD 0 0 = p0 at *
  generalize zs.getD 1 0 = p1 at *
  generalize zs.getD 2 0 = p2 at *
  have G1 := hide g1
  clear g1
  obtain ⟨kr, HKR⟩ : ∃ k, Hid (rndI (359 * (p2 - 2048)) 256 = k) := ⟨_, rfl⟩
  obtain ⟨kb, HKB⟩ : ∃ k, Hid (rndI (454 * (p1 - 2048)) 256 = k) := ⟨_, rfl⟩
  have hkr : -20000 ≤ kr ∧ kr ≤ 20000 := by have h := rnd_in (359 * (p2 - 2048)) 256 (by omega); rw [unhide HKR] at h; omega
  have hkb : -20000 ≤ kb ∧ kb ≤ 20000 := by have h := rnd_in (454 * (p1 - 2048)) 256 (by omega); rw [unhide HKB] at h; omega
  obtain ⟨r', HR'⟩ : ∃ k, Hid (clipI (p0 + kr) 4095 = k) := ⟨_, rfl⟩
  obtain ⟨b', HB'⟩ : ∃ k, Hid (clipI (p0 + kb) 4095 = k) := ⟨_, rfl⟩
  have hr' : 0 ≤ r' ∧ r' ≤ 4095 := by rw [← unhide HR']; exact clip_in _ _ (by omega)
  have hb' : 0 ≤ b' ∧ b' ≤ 4095 := by rw [← unhide HB']; exact clip_in _ _ (by omega)
  obtain ⟨kg, HKG⟩ : ∃ k, Hid (rndI (256 * p0 - 77 * r' - 29 * b') 150 = k) := ⟨_, rfl⟩
  obtain ⟨g', HG'⟩ : ∃ k, Hid (clipI kg 4095 = k) := ⟨_, rfl⟩
  obtain rfl : L = [r', g', b'] := by
    rw [← unhide HLL]
    unfold fromL rOf bOf gOf
    rw [unhide HKR, unhide HKB, unhide HR', unhide HB', unhide HKG, unhide HG']
  clear HLL HL
  have k1 := i64_in (p2 - 2048) (by omega)
  have k2 := i64_in (359 * (p2 - 2048)) (by omega)
  have k3 := i64_in (p0 + kr) (by omega)
  have k4 := i64_in (p1 - 2048) (by omega)
  have k5 := i64_in (454 * (p1 - 2048)) (by omega)
  have k6 := i64_in (p0 + kb) (by omega)
  go_wp2
  refine wp_region_noPanic ?_
  refine wp_region_tail (fun W => w1.drew.grownBy W none) [true, true, true, true, true, true, true, true, true, false, false, true, false, false] (by kernel_rfl) (fun _ _ _ _ _ h => h) rfl (by kernel_rfl) (World.grownBy.refl _ _) ?_
  have D0W1 := hide ((grown_drew (World.grownBy.refl w1 none)).cell (unhide C0) (by simp))
  have D1W1 := hide ((grown_drew (World.grownBy.refl w1 none)).cell (unhide C1) (by simp))
  have D2W1 := hide ((grown_drew (World.grownBy.refl w1 none)).cell (unhide C2) (by simp))
  have gDW1 := hide (grown_drew (unhide G1))
  generalize w1.drew = W1 at *
  clear C0 C1 C2 G1 w1
  have C0 := D0W1
  have C1 := D1W1
  have C2 := D2W1
  have G1 := gDW1
  clear D0W1 D1W1 D2W1 gDW1
  refine heldF_take (v := ?_) (Or.inl ⟨by rfl, ?_⟩) ?_
  rotate_left 1
  · intro w' hSw
    go_simp
    try with_reducible rfl
  try simp only [Act.put, List.setIfInBounds_toArray, List.set_cons_zero, List.set_cons_succ]
  refine heldF_take (v := ?_) (Or.inl ⟨by rfl, ?_⟩) ?_
  rotate_left 1
  · intro w' hSw
    go_simp
    try with_reducible rfl
  try simp only [Act.put, List.setIfInBounds_toArray, List.set_cons_zero, List.set_cons_succ]
  refine heldF_take (v := ?_) (Or.inl ⟨by rfl, ?_⟩) ?_
  rotate_left 1
  · intro w' hSw
    have cc := hSw.cell (unhide C0) (by simp)
    go_simp
    try with_reducible rfl
  try simp only [Act.put, List.setIfInBounds_toArray, List.set_cons_zero, List.set_cons_succ]
  refine heldF_take (v := ?_) (Or.inl ⟨by rfl, ?_⟩) ?_
  rotate_left 1
  · intro w' hSw
    go_simp
    try with_reducible rfl
  try simp only [Act.put, List.setIfInBounds_toArray, List.set_cons_zero, List.set_cons_succ]
  refine heldF_take (v := ?_) (Or.inl ⟨by rfl, ?_⟩) ?_
  rotate_left 1
  · intro w' hSw
    go_simp
    try with_reducible rfl
  try simp only [Act.put, List.setIfInBounds_toArray, List.set_cons_zero, List.set_cons_succ]
  refine heldF_take (v := ?_) (Or.inl ⟨by rfl, ?_⟩) ?_
  rotate_left 1
  · intro w' hSw
    have cc := hSw.cell (unhide C2) (by simp)
    go_simp
    try with_reducible rfl
  try simp only [Act.put, List.setIfInBounds_toArray, List.set_cons_zero, List.set_cons_succ]
  refine heldF_take (v := ?_) (Or.inl ⟨by rfl, ?_⟩) ?_
  rotate_left 1
  · intro w' hSw
    go_simp
    try with_reducible rfl
  try simp only [Act.put, List.setIfInBounds_toArray, List.set_cons_zero, List.set_cons_succ]
  refine heldF_take (v := ?_) (Or.inl ⟨by rfl, ?_⟩) ?_
  rotate_left 1
  · intro w' hSw
    go_simp
    try with_reducible rfl
  try simp only [Act.put, List.setIfInBounds_toArray, List.set_cons_zero, List.set_cons_succ]
  refine heldF_take (v := ?_) (Or.inl ⟨by rfl, ?_⟩) ?_
  rotate_left 1
  · intro w' hSw
    go_simp
    try with_reducible rfl
  try simp only [Act.put, List.setIfInBounds_toArray, List.set_cons_zero, List.set_cons_succ]
  refine heldF_skip ?_
  refine heldF_skip ?_
  refine heldF_take (v := ?_) (Or.inl ⟨by rfl, ?_⟩) ?_
  rotate_left 1
  · intro w' hSw
    go_simp
    try with_reducible rfl
  try simp only [Act.put, List.setIfInBounds_toArray, List.set_cons_zero, List.set_cons_succ]
  refine heldF_skip ?_
  refine heldF_skip ?_
  refine heldF_nil ?_
  refine tailF_skip ?_
  refine tailF_skip ?_
  refine tailF_skip ?_
  refine tailF_skip ?_
  refine tailF_skip ?_
  refine tailF_skip ?_
  refine tailF_skip ?_
  refine tailF_skip ?_
  refine tailF_skip ?_
  refine tailF_step (fun K hK => ?_)
  go_simp
  refine (specRnd256 (359 * (p2 - 2048)) kr (by omega) HKR W1).mono ?_
  rintro e w4 ⟨rfl, rfl⟩
  refine hK.out _ _ (World.grownBy.refl _ _) ?_
  clear hK K
  try simp only [Act.put, List.setIfInBounds_toArray, List.set_cons_zero, List.set_cons_succ]
  refine tailF_step (fun K hK => ?_)
  go_simp
  refine hK.out _ _ (World.grownBy.refl _ _) ?_
  clear hK K
  try simp only [Act.put, List.setIfInBounds_toArray, List.set_cons_zero, List.set_cons_succ]
  refine tailF_skip ?_
  refine tailF_step (fun K hK => ?_)
  go_simp
  refine (specClip17 (p0 + kr) 4095 r' (by omega) HR' W1).mono ?_
  rintro e w4 ⟨rfl, rfl⟩
  refine hK.out _ _ (World.grownBy.refl _ _) ?_
  clear hK K
  try simp only [Act.put, List.setIfInBounds_toArray, List.set_cons_zero, List.set_cons_succ]
  refine tailF_step (fun K hK => ?_)
  go_simp
  refine hK.out _ _ (World.grownBy.refl _ _) ?_
  clear hK K
  try simp only [Act.put, List.setIfInBounds_toArray, List.set_cons_zero, List.set_cons_succ]
  refine tailF_nil (NoPanic.normal ?_)
  try simp only [Act.put]
  go_wp2
  refine wp_region_noPanic ?_
  refine wp_region_tail (fun W => W1.drew.grownBy W none) [true, true, true, true, true, true, true, true, true, false, false, true, false, false] (by kernel_rfl) (fun _ _ _ _ _ h => h) rfl (by kernel_rfl) (World.grownBy.refl _ _) ?_
  have D0W2 := hide ((grown_drew (World.grownBy.refl W1 none)).cell (unhide C0) (by simp))
  have D1W2 := hide ((grown_drew (World.grownBy.refl W1 none)).cell (unhide C1) (by simp))
  have D2W2 := hide ((grown_drew (World.grownBy.refl W1 none)).cell (unhide C2) (by simp))
  have gDW2 := hide (grown_drew (unhide G1))
  generalize W1.drew = W2 at *
  clear C0 C1 C2 G1 W1
  have C0 := D0W2
  have C1 := D1W2
  have C2 := D2W2
  have G1 := gDW2
  clear D0W2 D1W2 D2W2 gDW2
  refine heldF_take (v := ?_) (Or.inl ⟨by rfl, ?_⟩) ?_
  rotate_left 1
  · intro w' hSw
    go_simp
    try with_reducible rfl
  try simp only [Act.put, List.setIfInBounds_toArray, List.set_cons_zero, List.set_cons_succ]
  refine heldF_take (v := ?_) (Or.inl ⟨by rfl, ?_⟩) ?_
  rotate_left 1
  · intro w' hSw
    go_simp
    try with_reducible rfl
  try simp only [Act.put, List.setIfInBounds_toArray, List.set_cons_zero, List.set_cons_succ]
  refine heldF_take (v := ?_) (Or.inl ⟨by rfl, ?_⟩) ?_
  rotate_left 1
  · intro w' hSw
    have cc := hSw.cell (unhide C0) (by simp)
    go_simp
    try with_reducible rfl
  try simp only [Act.put, List.setIfInBounds_toArray, List.set_cons_zero, List.set_cons_succ]
  refine heldF_take (v := ?_) (Or.inl ⟨by rfl, ?_⟩) ?_
  rotate_left 1
  · intro w' hSw
    go_simp
    try with_reducible rfl
  try simp only [Act.put, List.setIfInBounds_toArray, List.set_cons_zero, List.set_cons_succ]
  refine heldF_take (v := ?_) (Or.inl ⟨by rfl, ?_⟩) ?_
  rotate_left 1
  · intro w' hSw
    go_simp
    try with_reducible rfl
  try simp only [Act.put, List.setIfInBounds_toArray, List.set_cons_zero, List.set_cons_succ]
  refine heldF_take (v := ?_) (Or.inl ⟨by rfl, ?_⟩) ?_
  rotate_left 1
  · intro w' hSw
    have cc := hSw.cell (unhide C1) (by simp)
    go_simp
    try with_reducible rfl
  try simp only [Act.put, List.setIfInBounds_toArray, List.set_cons_zero, List.set_cons_succ]
  refine heldF_take (v := ?_) (Or.inl ⟨by rfl, ?_⟩) ?_
  rotate_left 1
  · intro w' hSw
    go_simp
    try with_reducible rfl
  try simp only [Act.put, List.setIfInBounds_toArray, List.set_cons_zero, List.set_cons_succ]
  refine heldF_take (v := ?_) (Or.inl ⟨by rfl, ?_⟩) ?_
  rotate_left 1
  · intro w' hSw
    go_simp
    try with_reducible rfl
  try simp only [Act.put, List.setIfInBounds_toArray, List.set_cons_zero, List.set_cons_succ]
  refine heldF_take (v := ?_) (Or.inl ⟨by rfl, ?_⟩) ?_
  rotate_left 1
  · intro w' hSw
    go_simp
    try with_reducible rfl
  try simp only [Act.put, List.setIfInBounds_toArray, List.set_cons_zero, List.set_cons_succ]
  refine heldF_skip ?_
  refine heldF_skip ?_
  refine heldF_take (v := ?_) (Or.inl ⟨by rfl, ?_⟩) ?_
  rotate_left 1
  · intro w' hSw
    go_simp
    try with_reducible rfl
  try simp only [Act.put, List.setIfInBounds_toArray, List.set_cons_zero, List.set_cons_succ]
  refine heldF_skip ?_
  refine heldF_skip ?_
  refine heldF_nil ?_
  refine tailF_skip ?_
  refine tailF_skip ?_
  refine tailF_skip ?_
  refine tailF_skip ?_
  refine tailF_skip ?_
  refine tailF_skip ?_
  refine tailF_skip ?_
  refine tailF_skip ?_
  refine tailF_skip ?_
  refine tailF_step (fun K hK => ?_)
  go_simp
  refine (specRnd256 (454 * (p1 - 2048)) kb (by omega) HKB W2).mono ?_
  rintro e w4 ⟨rfl, rfl⟩
  refine hK.out _ _ (World.grownBy.refl _ _) ?_
  clear hK K
  try simp only [Act.put, List.setIfInBounds_toArray, List.set_cons_zero, List.set_cons_succ]
  refine tailF_step (fun K hK => ?_)
  go_simp
  refine hK.out _ _ (World.grownBy.refl _ _) ?_
  clear hK K
  try simp only [Act.put, List.setIfInBounds_toArray, List.set_cons_zero, List.set_cons_succ]
  refine tailF_skip ?_
  refine tailF_step (fun K hK => ?_)
  go_simp
  refine (specClip17 (p0 + kb) 4095 b' (by omega) HB' W2).mono ?_
  rintro e w4 ⟨rfl, rfl⟩
  refine hK.out _ _ (World.grownBy.refl _ _) ?_
  clear hK K
  try simp only [Act.put, List.setIfInBounds_toArray, List.set_cons_zero, List.set_cons_succ]
  refine tailF_step (fun K hK => ?_)
  go_simp
  refine hK.out _ _ (World.grownBy.refl _ _) ?_
  clear hK K
  try simp only [Act.put, List.setIfInBounds_toArray, List.set_cons_zero, List.set_cons_succ]
  refine tailF_nil (NoPanic.normal ?_)
  try simp only [Act.put]
  have c0 := unhide C0
  go_wp2_with fail
  refine (specRnd150 (256 * p0 - 77 * r' - 29 * b') kg (by omega) HKG _).mono ?_
  rintro e w5 ⟨rfl, rfl⟩
  go_wp2_with fail
  refine (specClip17 kg 4095 g' (by omega) HG' _).mono ?_
  rintro e w5 ⟨rfl, rfl⟩
  go_wp2
  go_ret
  exact ⟨_, _, rfl, own_base17 (World.ownsRow_lit _ #[.int .i64 r', .int .i64 g', .int .i64 b'] 3 (Nat.le_refl _) (by unfold maxLen; omega) rfl) (unhide G1).size, grown_alloc (unhide G1) _⟩

end Go.Proofs.Ytgknninkfdgebaa
