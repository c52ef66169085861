/-
  The order of blocks, as mathematics: each place once, inside its component's blocks, and each that is needed.
-/
import Derived.Test.YtoeehfjbnbbijaaGeoUnits
namespace Go.Proofs.Ytoeehfjbnbbijaa

theorem zTo_has {c a b : Int} {p : Pl} : ∀ {z : Nat}, p ∈ zTo c a b z ↔ p.1 = c ∧ p.2.1 = a ∧ b ≤ p.2.2 ∧ p.2.2 < b + z
  | 0 => by
    constructor
    · intro h; simp [zTo] at h
    · rintro ⟨_, _, h1, h2⟩; omega
  | z + 1 => by
    rw [zTo, List.mem_append, zTo_has, List.mem_singleton]
    constructor
    · rintro (⟨h1, h2, h3, h4⟩ | h)
      · exact ⟨h1, h2, h3, by omega⟩
      · subst h; exact ⟨rfl, rfl, by simp; omega, by simp; omega⟩
    · rintro ⟨h1, h2, h3, h4⟩
      by_cases e : p.2.2 < b + z
      · exact .inl ⟨h1, h2, h3, e⟩
      · refine .inr (Prod.ext h1 (Prod.ext h2 ?_))
        show p.2.2 = b + z
        omega
theorem yTo_has {c a b : Int} {H : Nat} {p : Pl} : ∀ {y : Nat}, p ∈ yTo c a b H y ↔ p.1 = c ∧ (a ≤ p.2.1 ∧ p.2.1 < a + y) ∧ b ≤ p.2.2 ∧ p.2.2 < b + H
  | 0 => by
    constructor
    · intro h; simp [yTo] at h
    · rintro ⟨_, ⟨h1, h2⟩, _⟩; omega
  | y + 1 => by
    rw [yTo, List.mem_append, yTo_has, zTo_has]
    constructor
    · rintro (⟨h1, h2, h3⟩ | ⟨h1, h2, h3⟩)
      · exact ⟨h1, by omega, h3⟩
      · exact ⟨h1, by omega, h3⟩
    · rintro ⟨h1, h2, h3⟩
      by_cases e : p.2.1 < a + y
      · exact .inl ⟨h1, by omega, h3⟩
      · exact .inr ⟨h1, by omega, h3⟩
/-- A place of the unit r, k. -/
def inUnit (C : Nat → Nat → Int) (r k : Nat) (p : Pl) : Prop :=
  (r * C p.1.toNat 2 ≤ p.2.1 ∧ p.2.1 < r * C p.1.toNat 2 + (C p.1.toNat 2).toNat) ∧ k * C p.1.toNat 1 ≤ p.2.2 ∧ p.2.2 < k * C p.1.toNat 1 + (C p.1.toNat 1).toNat
theorem iTo_has {C : Nat → Nat → Int} {cs : List Int} {r k : Nat} {p : Pl} : ∀ {i : Nat}, p ∈ iTo C cs r k i ↔ (∃ j, j < i ∧ p.1 = cs.getD j 0) ∧ inUnit C r k p
  | 0 => by
    constructor
    · intro h; simp [iTo] at h
    · rintro ⟨⟨j, h, _⟩, _⟩; omega
  | i + 1 => by
    rw [iTo, List.mem_append, iTo_has, yTo_has]
    constructor
    · rintro (⟨⟨j, h1, h2⟩, h3⟩ | ⟨h1, h2⟩)
      · exact ⟨⟨j, by omega, h2⟩, h3⟩
      · exact ⟨⟨i, by omega, h1⟩, by rw [inUnit, h1]; exact h2⟩
    · rintro ⟨⟨j, h1, h2⟩, h3⟩
      by_cases e : j = i
      · subst e; right; rw [inUnit, h2] at h3; exact ⟨h2, h3⟩
      · exact .inl ⟨⟨j, by omega, h2⟩, h3⟩
theorem kTo_has {C : Nat → Nat → Int} {cs : List Int} {r : Nat} {p : Pl} : ∀ {k : Nat}, p ∈ (kTo C cs r k).flatten ↔ ∃ k', k' < k ∧ p ∈ iTo C cs r k' cs.length
  | 0 => by simp [kTo]
  | k + 1 => by
    rw [kTo, List.flatten_append, List.mem_append, kTo_has]
    simp only [List.flatten_cons, List.flatten_nil, List.append_nil]
    constructor
    · rintro (⟨k', h1, h2⟩ | h)
      · exact ⟨k', by omega, h2⟩
      · exact ⟨k, by omega, h⟩
    · rintro ⟨k', h1, h2⟩
      by_cases e : k' = k
      · subst e; exact .inr h2
      · exact .inl ⟨k', by omega, h2⟩
theorem rTo_has {C : Nat → Nat → Int} {cs : List Int} {W : Nat} {p : Pl} : ∀ {r : Nat}, p ∈ (rTo C cs W r).flatten ↔ ∃ r' k', r' < r ∧ k' < W ∧ p ∈ iTo C cs r' k' cs.length
  | 0 => by simp [rTo]
  | r + 1 => by
    rw [rTo, List.flatten_append, List.mem_append, rTo_has, kTo_has]
    constructor
    · rintro (⟨r', k', h1, h2⟩ | ⟨k', h1, h2⟩)
      · exact ⟨r', k', by omega, h2⟩
      · exact ⟨r, k', by omega, h1, h2⟩
    · rintro ⟨r', k', h1, h2, h3⟩
      by_cases e : r' = r
      · subst e; exact .inr ⟨k', h2, h3⟩
      · exact .inl ⟨r', k', by omega, h2, h3⟩
theorem k1To_has {c : Int} {r : Nat} {p : Pl} : ∀ {k : Nat}, p ∈ (k1To c r k).flatten ↔ p.1 = c ∧ p.2.1 = r ∧ 0 ≤ p.2.2 ∧ p.2.2 < k
  | 0 => by
    constructor
    · intro h; simp [k1To] at h
    · rintro ⟨_, _, h1, h2⟩; omega
  | k + 1 => by
    rw [k1To, List.flatten_append, List.mem_append, k1To_has]
    simp only [List.flatten_cons, List.flatten_nil, List.append_nil, List.mem_singleton]
    constructor
    · rintro (⟨h1, h2, h3, h4⟩ | h)
      · exact ⟨h1, h2, h3, by omega⟩
      · subst h; exact ⟨rfl, rfl, by simp, by simp; omega⟩
    · rintro ⟨h1, h2, h3, h4⟩
      by_cases e : p.2.2 < k
      · exact .inl ⟨h1, h2, h3, e⟩
      · refine .inr (Prod.ext h1 (Prod.ext h2 ?_))
        show p.2.2 = k
        omega
theorem r1To_has {c : Int} {W : Nat} {p : Pl} : ∀ {r : Nat}, p ∈ (r1To c W r).flatten ↔ p.1 = c ∧ (0 ≤ p.2.1 ∧ p.2.1 < r) ∧ 0 ≤ p.2.2 ∧ p.2.2 < W
  | 0 => by
    constructor
    · intro h; simp [r1To] at h
    · rintro ⟨_, ⟨h1, h2⟩, _⟩; omega
  | r + 1 => by
    rw [r1To, List.flatten_append, List.mem_append, r1To_has, k1To_has]
    constructor
    · rintro (⟨h1, h2, h3⟩ | ⟨h1, h2, h3⟩)
      · exact ⟨h1, by omega, h3⟩
      · exact ⟨h1, by omega, h3⟩
    · rintro ⟨h1, h2, h3⟩
      by_cases e : p.2.1 < r
      · exact .inl ⟨h1, by omega, h3⟩
      · exact .inr ⟨h1, by omega, h3⟩

/-- Each once: two lists that have nothing together. -/
theorem once_app {xs ys : List Pl} (hx : xs.Nodup) (hy : ys.Nodup) (h : ∀ p, p ∈ xs → p ∈ ys → False) : (xs ++ ys).Nodup :=
  List.pairwise_append.2 ⟨hx, hy, fun a ha _ hb e => h a ha (e ▸ hb)⟩
theorem once_one (p : Pl) : [p].Nodup := by simp
theorem zTo_once (c a b : Int) : ∀ z, (zTo c a b z).Nodup
  | 0 => by simp [zTo]
  | z + 1 => once_app (zTo_once c a b z) (once_one _) (fun p h1 h2 => by
      have := (zTo_has.1 h1).2.2.2
      rw [List.mem_singleton] at h2
      subst h2; simp at this)
theorem yTo_once (c a b : Int) (H : Nat) : ∀ y, (yTo c a b H y).Nodup
  | 0 => by simp [yTo]
  | y + 1 => once_app (yTo_once c a b H y) (zTo_once _ _ _ _) (fun p h1 h2 => by
      have := (yTo_has.1 h1).2.1
      have := (zTo_has.1 h2).2.1
      omega)
theorem comps_rise {n : Nat} {cs : List Int} {m : Nat} (h : compsTo n cs m = true) : ∀ i j, j < i → i < m → cs.getD j 0 < cs.getD i 0
  | i + 1, j, h1, h2 => by
    rcases (compsTo_at h (i + 1) h2).2 with e | e
    · omega
    · rw [Nat.add_sub_cancel] at e
      by_cases hj : j = i
      · subst hj; exact e
      · have := comps_rise h i j (by omega) (by omega); omega
theorem iTo_once {n : Nat} {C : Nat → Nat → Int} {cs : List Int} {m : Nat} (h : compsTo n cs m = true) (r k : Nat) : ∀ i, i ≤ m → (iTo C cs r k i).Nodup
  | 0, _ => by simp [iTo]
  | i + 1, hi => once_app (iTo_once h r k i (by omega)) (yTo_once _ _ _ _ _) (fun p h1 h2 => by
      obtain ⟨⟨j, h3, h4⟩, _⟩ := iTo_has.1 h1
      have h5 := (yTo_has.1 h2).1
      have := comps_rise h i j h3 (by omega)
      omega)
theorem step_apart {a b : Nat} {H : Int} (h : 0 ≤ H) (hab : a < b) : a * H + H ≤ b * H := by
  have h1 : ((a : Int) + 1) * H ≤ b * H := Int.mul_le_mul_of_nonneg_right (by omega) h
  rw [Int.add_mul, Int.one_mul] at h1
  exact h1
theorem unit_same {C : Nat → Nat → Int} {r k r' k' : Nat} {p : Pl} (h1 : inUnit C r k p) (h2 : inUnit C r' k' p) (hv : 0 ≤ C p.1.toNat 2) (hh : 0 ≤ C p.1.toNat 1) : r = r' ∧ k = k' := by
  obtain ⟨⟨a1, a2⟩, a3, a4⟩ := h1
  obtain ⟨⟨b1, b2⟩, b3, b4⟩ := h2
  rw [Int.toNat_of_nonneg hv] at a2 b2
  rw [Int.toNat_of_nonneg hh] at a4 b4
  constructor
  · rcases Nat.lt_trichotomy r r' with h | h | h
    · have := step_apart hv h; omega
    · exact h
    · have := step_apart hv h; omega
  · rcases Nat.lt_trichotomy k k' with h | h | h
    · have := step_apart hh h; omega
    · exact h
    · have := step_apart hh h; omega
section
variable {n : Nat} {C : Nat → Nat → Int} {cs : List Int} (hc : compsTo n cs cs.length = true) (hh : ∀ i, i < n → 1 ≤ C i 1 ∧ C i 1 ≤ 4) (hv : ∀ i, i < n → 1 ≤ C i 2 ∧ C i 2 ≤ 4)
include hc hh hv
theorem unit_pos {r k : Nat} {p : Pl} (h : p ∈ iTo C cs r k cs.length) : 0 ≤ C p.1.toNat 2 ∧ 0 ≤ C p.1.toNat 1 := by
  obtain ⟨⟨j, h1, h2⟩, _⟩ := iTo_has.1 h
  have := (compsTo_at hc j h1).1
  have h3 := hh p.1.toNat (by omega)
  have h4 := hv p.1.toNat (by omega)
  omega
theorem kTo_once (r : Nat) : ∀ k, (kTo C cs r k).flatten.Nodup
  | 0 => by simp [kTo]
  | k + 1 => by
    rw [kTo, List.flatten_append]
    simp only [List.flatten_cons, List.flatten_nil, List.append_nil]
    refine once_app (kTo_once r k) (iTo_once hc r k _ (Nat.le_refl _)) (fun p h1 h2 => ?_)
    obtain ⟨k', h3, h4⟩ := kTo_has.1 h1
    have hp := unit_pos hc hh hv h2
    have := unit_same (iTo_has.1 h2).2 (iTo_has.1 h4).2 hp.1 hp.2
    omega
theorem rTo_once (W : Nat) : ∀ r, (rTo C cs W r).flatten.Nodup
  | 0 => by simp [rTo]
  | r + 1 => by
    rw [rTo, List.flatten_append]
    refine once_app (rTo_once W r) (kTo_once hc hh hv r W) (fun p h1 h2 => ?_)
    obtain ⟨r', k', h3, _, h4⟩ := rTo_has.1 h1
    obtain ⟨k'', _, h5⟩ := kTo_has.1 h2
    have hp := unit_pos hc hh hv h5
    have := unit_same (iTo_has.1 h5).2 (iTo_has.1 h4).2 hp.1 hp.2
    omega
end
theorem k1To_once (c : Int) (r : Nat) : ∀ k, (k1To c r k).flatten.Nodup
  | 0 => by simp [k1To]
  | k + 1 => by
    rw [k1To, List.flatten_append]
    simp only [List.flatten_cons, List.flatten_nil, List.append_nil]
    refine once_app (k1To_once c r k) (once_one _) (fun p h1 h2 => ?_)
    have := (k1To_has.1 h1).2.2.2
    rw [List.mem_singleton] at h2
    subst h2; simp at this
theorem r1To_once (c : Int) (W : Nat) : ∀ r, (r1To c W r).flatten.Nodup
  | 0 => by simp [r1To]
  | r + 1 => by
    rw [r1To, List.flatten_append]
    refine once_app (r1To_once c W r) (k1To_once c r W) (fun p h1 h2 => ?_)
    have := (r1To_has.1 h1).2.1
    have := (k1To_has.1 h2).2.1
    omega

theorem upI_le {n d b : Int} (hn : 1 ≤ n) (hd : 1 ≤ d) (h : n ≤ b * d) : upI n d ≤ b := by
  unfold upI
  rw [Int.tdiv_eq_ediv_of_nonneg (by omega)]
  refine Int.le_of_lt_add_one ((Int.ediv_lt_iff_lt_mul (by omega)).2 ?_)
  rw [Int.add_mul, Int.one_mul]
  omega
theorem le_upI {n d : Int} (hn : 1 ≤ n) (hd : 1 ≤ d) : n ≤ upI n d * d := by
  unfold upI
  rw [Int.tdiv_eq_ediv_of_nonneg (by omega)]
  have h1 := Int.mul_ediv_add_emod (n + d - 1) d
  have h2 := Int.emod_lt_of_pos (n + d - 1) (show 0 < d by omega)
  rw [Int.mul_comm] at h1
  omega
theorem up_eight {s y : Int} (hs : 1 ≤ s) (h : y < s) : y / 8 < upI s 8 := by
  unfold upI
  rw [Int.tdiv_eq_ediv_of_nonneg (by omega)]
  omega
/-- The blocks that are needed lie within the units' blocks. -/
theorem needed_le {wd m s : Int} (hw : 1 ≤ wd) (hm : 1 ≤ m) (hs : 1 ≤ s) : upI (upI (wd * s) m) 8 ≤ upI wd (8 * m) * s := by
  have h1 := le_upI (n := wd) (d := 8 * m) hw (by omega)
  have h0 : 1 ≤ wd * s := by
    have := Int.mul_le_mul hw hs (by omega) (by omega)
    omega
  have h2 : wd * s ≤ upI wd (8 * m) * (8 * m) * s := Int.mul_le_mul_of_nonneg_right h1 (by omega)
  have e : upI wd (8 * m) * (8 * m) * s = upI wd (8 * m) * s * 8 * m := by
    rw [Int.mul_assoc (upI wd (8 * m)) (8 * m) s, Int.mul_comm (8 * m) s, ← Int.mul_assoc, ← Int.mul_assoc]
  have h3 : upI (wd * s) m ≤ upI wd (8 * m) * s * 8 := upI_le h0 hm (by omega)
  exact upI_le (upI_pos h0 hm).1 (by omega) h3

/-- The numbers of an ok frame's component: blocks beside and below one another. -/
def bw (wd : Int) (n : Nat) (C : Nat → Nat → Int) (c : Nat) : Nat := (upI wd (8 * mostA 1 C 1 n) * C c 1).toNat
def bh (ht : Int) (n : Nat) (C : Nat → Nat → Int) (c : Nat) : Nat := (upI ht (8 * mostA 1 C 2 n) * C c 2).toNat
section
variable {wd ht : Int} {n : Nat} {C : Nat → Nat → Int} {cs : List Int} (hg : Geo wd ht n C (mostA 1 C 1 n) (mostA 1 C 2 n))
include hg
theorem bw_is (c : Nat) (hc : c < n) : (bw wd n C c : Int) = upI wd (8 * mostA 1 C 1 n) * C c 1 ∧ 1 ≤ bw wd n C c ∧ bw wd n C c ≤ 1024 := by
  have h1 := hg.wd; have h2 := hg.hb
  have R := upI_pos (d := 8 * mostA 1 C 1 n) h1.1 (by omega)
  have hs := hg.ch c hc
  have : C c 1 = 1 ∨ C c 1 = 2 ∨ C c 1 = 3 ∨ C c 1 = 4 := by omega
  unfold bw
  rcases this with e | e | e | e <;> rw [e] <;> omega
theorem bh_is (c : Nat) (hc : c < n) : (bh ht n C c : Int) = upI ht (8 * mostA 1 C 2 n) * C c 2 ∧ 1 ≤ bh ht n C c ∧ bh ht n C c ≤ 1024 := by
  have h1 := hg.ht; have h2 := hg.vb
  have R := upI_pos (d := 8 * mostA 1 C 2 n) h1.1 (by omega)
  have hs := hg.cv c hc
  have : C c 2 = 1 ∨ C c 2 = 2 ∨ C c 2 = 3 ∨ C c 2 = 4 := by omega
  unfold bh
  rcases this with e | e | e | e <;> rw [e] <;> omega
variable (ho : okComps n cs = true)
include ho
theorem units_in : ∀ p ∈ (unitsG wd ht n C cs).flatten, ∃ c r k : Nat, p = ((c : Int), (r : Int), (k : Int)) ∧ c < n ∧ r < bh ht n C c ∧ k < bw wd n C c := by
  intro p hp
  simp only [okComps, Bool.and_eq_true, decide_eq_true_eq] at ho
  obtain ⟨hcs, hlen⟩ := ho
  unfold unitsG at hp
  split at hp
  · obtain ⟨h1, ⟨h2, h3⟩, h4, h5⟩ := r1To_has.1 hp
    have h6 := (compsTo_at hcs 0 hlen).1
    rw [← h1] at h6 h3 h5
    have hcn : p.1.toNat < n := by omega
    have n1 := needed_le (s := C p.1.toNat 1) hg.wd.1 hg.hb.1 (hg.ch _ hcn).1
    have n2 := needed_le (s := C p.1.toNat 2) hg.ht.1 hg.vb.1 (hg.cv _ hcn).1
    have b1 := bw_is hg _ hcn
    have b2 := bh_is hg _ hcn
    refine ⟨p.1.toNat, p.2.1.toNat, p.2.2.toNat, Prod.ext (by simp; omega) (Prod.ext (by simp; omega) (by simp; omega)), hcn, by omega, by omega⟩
  · obtain ⟨r, k, hr, hk, hi⟩ := rTo_has.1 hp
    obtain ⟨⟨j, h1, h2⟩, ⟨a1, a2⟩, a3, a4⟩ := iTo_has.1 hi
    have h6 := (compsTo_at hcs j h1).1
    rw [← h2] at h6
    have hcn : p.1.toNat < n := by omega
    have b1 := bw_is hg _ hcn
    have b2 := bh_is hg _ hcn
    have s1 := hg.ch _ hcn
    have s2 := hg.cv _ hcn
    rw [Int.toNat_of_nonneg (by omega)] at a2 a4
    have q1 := step_apart (H := C p.1.toNat 1) (by omega) hk
    have q2 := step_apart (H := C p.1.toNat 2) (by omega) hr
    have hwd := hg.wd; have hht := hg.ht; have hmh := hg.hb; have hmv := hg.vb
    have R1 := upI_pos (d := 8 * mostA 1 C 1 n) hwd.1 (by omega)
    have R2 := upI_pos (d := 8 * mostA 1 C 2 n) hht.1 (by omega)
    rw [Int.toNat_of_nonneg (by omega)] at q1 q2
    have z1 : 0 ≤ (k : Int) * C p.1.toNat 1 := Int.mul_nonneg (by omega) (by omega)
    have z2 : 0 ≤ (r : Int) * C p.1.toNat 2 := Int.mul_nonneg (by omega) (by omega)
    refine ⟨p.1.toNat, p.2.1.toNat, p.2.2.toNat, Prod.ext (by simp; omega) (Prod.ext (by simp; omega) (by simp; omega)), hcn, by omega, by omega⟩
theorem units_once : (unitsG wd ht n C cs).flatten.Nodup := by
  simp only [okComps, Bool.and_eq_true, decide_eq_true_eq] at ho
  unfold unitsG
  split
  · exact r1To_once _ _ _
  · exact rTo_once ho.1 hg.ch hg.cv _ _
theorem units_needed (i c : Nat) (hi : i < cs.length) (hc : cs.getD i 0 = (c : Int)) (y x : Nat) (hy : (y : Int) < upI (ht * C c 2) (mostA 1 C 2 n)) (hx : (x : Int) < upI (wd * C c 1) (mostA 1 C 1 n)) :
    ((c : Int), ((y / 8 : Nat) : Int), ((x / 8 : Nat) : Int)) ∈ (unitsG wd ht n C cs).flatten := by
  simp only [okComps, Bool.and_eq_true, decide_eq_true_eq] at ho
  obtain ⟨hcs, hlen⟩ := ho
  have h6 := (compsTo_at hcs i hi).1
  have hcn : c < n := by omega
  have s1 := hg.ch c hcn
  have s2 := hg.cv c hcn
  have e1 := up_eight (by omega) hy
  have e2 := up_eight (by omega) hx
  unfold unitsG
  split
  · obtain rfl : i = 0 := by omega
    rw [hc, Int.toNat_natCast]
    refine r1To_has.2 ⟨rfl, ⟨by simp; omega, ?_⟩, by simp; omega, ?_⟩
    · show ((y / 8 : Nat) : Int) < _
      omega
    · show ((x / 8 : Nat) : Int) < _
      omega
  · have n1 := needed_le (s := C c 1) hg.wd.1 hg.hb.1 s1.1
    have n2 := needed_le (s := C c 2) hg.ht.1 hg.vb.1 s2.1
    obtain ⟨H, hH⟩ := Int.eq_ofNat_of_zero_le (show 0 ≤ C c 1 by omega)
    obtain ⟨V, hV⟩ := Int.eq_ofNat_of_zero_le (show 0 ≤ C c 2 by omega)
    have hwd := hg.wd; have hht := hg.ht; have hmh := hg.hb; have hmv := hg.vb
    have R1 := upI_pos (d := 8 * mostA 1 C 1 n) hwd.1 (by omega)
    have R2 := upI_pos (d := 8 * mostA 1 C 2 n) hht.1 (by omega)
    obtain ⟨U, hU⟩ := Int.eq_ofNat_of_zero_le (show 0 ≤ upI wd (8 * mostA 1 C 1 n) by omega)
    obtain ⟨T, hT⟩ := Int.eq_ofNat_of_zero_le (show 0 ≤ upI ht (8 * mostA 1 C 2 n) by omega)
    rw [hH, hU] at n1
    rw [hV, hT] at n2
    rw [hH] at e2
    rw [hV] at e1
    rw [hU, hT, Int.toNat_natCast, Int.toNat_natCast]
    have m1 : x / 8 < U * H := by
      have : ((x / 8 : Nat) : Int) < ((U * H : Nat) : Int) := by rw [Int.natCast_mul]; omega
      omega
    have m2 : y / 8 < T * V := by
      have : ((y / 8 : Nat) : Int) < ((T * V : Nat) : Int) := by rw [Int.natCast_mul]; omega
      omega
    refine rTo_has.2 ⟨y / 8 / V, x / 8 / H, (Nat.div_lt_iff_lt_mul (by omega)).2 m2, (Nat.div_lt_iff_lt_mul (by omega)).2 m1, iTo_has.2 ⟨⟨i, hi, hc.symm⟩, ?_⟩⟩
    have d1 := Nat.div_add_mod (x / 8) H
    have d2 := Nat.mod_lt (x / 8) (show H > 0 by omega)
    have d3 := Nat.div_add_mod (y / 8) V
    have d4 := Nat.mod_lt (y / 8) (show V > 0 by omega)
    rw [Nat.mul_comm] at d1 d3
    unfold inUnit
    show (_ ∧ _) ∧ _ ∧ _
    simp only [Int.toNat_natCast, hH, hV]
    generalize x / 8 / H * H = A at d1
    generalize y / 8 / V * V = B at d3
    have gA : ((x / 8 / H : Nat) : Int) * (H : Int) = ((x / 8 / H * H : Nat) : Int) := by rw [Int.natCast_mul]
    have gB : ((y / 8 / V : Nat) : Int) * (V : Int) = ((y / 8 / V * V : Nat) : Int) := by rw [Int.natCast_mul]
    have hA := Nat.div_mul_le_self (x / 8) H
    have hB := Nat.div_mul_le_self (y / 8) V
    have hA2 := Nat.lt_div_mul_add (a := x / 8) (b := H) (by omega)
    have hB2 := Nat.lt_div_mul_add (a := y / 8) (b := V) (by omega)
    rw [gA, gB]
    refine ⟨⟨?_, ?_⟩, ?_, ?_⟩ <;> omega
end

/-- A component's row of yes and no: which places of it are in a list. -/
def seenR (L : List Pl) (c W m : Nat) : List Value := (List.range m).map fun j => Value.bool (decide (((c : Int), ((j / W : Nat) : Int), ((j % W : Nat) : Int)) ∈ L))
theorem seenR_len (L : List Pl) (c W m : Nat) : (seenR L c W m).length = m := by simp [seenR]
theorem seenR_nil (c W m : Nat) : seenR [] c W m = List.replicate m (.bool false) := by
  simp [seenR, List.map_const']
theorem seenR_at {L : List Pl} {c W m r k : Nat} (hk : k < W) (h : r * W + k < m) : (seenR L c W m)[r * W + k]? = some (.bool (decide (((c : Int), (r : Int), (k : Int)) ∈ L))) := by
  have e1 : (r * W + k) / W = r := by rw [Nat.mul_comm, Nat.mul_add_div (by omega), Nat.div_eq_of_lt hk, Nat.add_zero]
  have e2 : (r * W + k) % W = k := by rw [Nat.mul_comm, Nat.mul_add_mod, Nat.mod_eq_of_lt hk]
  simp only [seenR, List.getElem?_map, List.getElem?_range h, Option.map_some]
  rw [e1, e2]
theorem seenR_set {L : List Pl} {c W m r k : Nat} (hk : k < W) : (seenR L c W m).set (r * W + k) (.bool true) = seenR (L ++ [((c : Int), (r : Int), (k : Int))]) c W m := by
  have e1 : (r * W + k) / W = r := by rw [Nat.mul_comm, Nat.mul_add_div (by omega), Nat.div_eq_of_lt hk, Nat.add_zero]
  have e2 : (r * W + k) % W = k := by rw [Nat.mul_comm, Nat.mul_add_mod, Nat.mod_eq_of_lt hk]
  apply List.ext_getElem?
  intro j
  by_cases hj : j < m
  · rw [List.getElem?_set, seenR_len]
    by_cases e : r * W + k = j
    · subst e
      rw [if_pos rfl, if_pos hj]
      simp only [seenR, List.getElem?_map, List.getElem?_range hj, Option.map_some]
      rw [e1, e2]
      simp
    · rw [if_neg e]
      simp only [seenR, List.getElem?_map, List.getElem?_range hj, Option.map_some, List.mem_append, List.mem_singleton, Prod.mk.injEq]
      have : ¬ (True ∧ ((j / W : Nat) : Int) = r ∧ ((j % W : Nat) : Int) = k) := by
        rintro ⟨_, h1, h2⟩
        apply e
        have := Nat.div_add_mod j W
        rw [Nat.mul_comm] at this
        have h3 : j / W = r := by omega
        have h4 : j % W = k := by omega
        rw [h3, h4] at this
        exact this
      congr 2
      rw [decide_eq_decide]
      exact ⟨.inl, fun h => h.resolve_right this⟩
  · rw [List.getElem?_eq_none (by rw [List.length_set, seenR_len]; omega), List.getElem?_eq_none (by rw [seenR_len]; omega)]
theorem seenR_other {L : List Pl} {c W m : Nat} {p : Pl} (h : p.1 ≠ (c : Int)) : seenR (L ++ [p]) c W m = seenR L c W m := by
  unfold seenR
  apply List.map_congr_left
  intro j _
  congr 2
  simp only [List.mem_append, List.mem_singleton, eq_iff_iff]
  constructor
  · rintro (h1 | h1)
    · exact h1
    · exact absurd (by rw [← h1]) h
  · exact .inl

end Go.Proofs.Ytoeehfjbnbbijaa
