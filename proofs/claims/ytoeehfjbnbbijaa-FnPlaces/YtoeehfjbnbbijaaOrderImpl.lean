/-
  How many blocks a unit has, and the function that hands out an order, in the program.
-/
import Derived.Test.YtoeehfjbnbbijaaUnitOrder
namespace Go.Proofs.Ytoeehfjbnbbijaa
open Go.RowKit Go.Shelf

/-- How many blocks the first i components have in one unit. -/
def blkTo (C : Nat → Nat → Int) (cs : List Int) : Nat → Nat
  | 0 => 0
  | i + 1 => blkTo C cs i + (C (cs.getD i 0).toNat 2).toNat * (C (cs.getD i 0).toNat 1).toNat
def blkN (C : Nat → Nat → Int) (cs : List Int) : Nat := if cs.length = 1 then 1 else blkTo C cs cs.length
theorem iTo_blk (C : Nat → Nat → Int) (cs : List Int) (r k : Nat) : ∀ i, (iTo C cs r k i).length = blkTo C cs i
  | 0 => rfl
  | i + 1 => by simp [iTo, blkTo, iTo_blk C cs r k i, yTo_len]
theorem kTo_flen (C : Nat → Nat → Int) (cs : List Int) (r : Nat) : ∀ k, (kTo C cs r k).flatten.length = k * blkTo C cs cs.length
  | 0 => by simp [kTo]
  | k + 1 => by simp [kTo, kTo_flen C cs r k, iTo_blk, Nat.succ_mul]
theorem rTo_flen (C : Nat → Nat → Int) (cs : List Int) (W : Nat) : ∀ r, (rTo C cs W r).flatten.length = r * W * blkTo C cs cs.length
  | 0 => by simp [rTo]
  | r + 1 => by simp only [rTo, List.flatten_append, List.length_append, rTo_flen C cs W r, kTo_flen, Nat.succ_mul, Nat.add_mul]
theorem k1To_flat (c : Int) (r : Nat) : ∀ k, (k1To c r k).flatten = zTo c (0 + (r : Int)) 0 k
  | 0 => rfl
  | k + 1 => by simp [k1To, zTo, k1To_flat c r k]
theorem r1To_flat (c : Int) (W : Nat) : ∀ r, (r1To c W r).flatten = yTo c 0 0 W r
  | 0 => rfl
  | r + 1 => by simp [r1To, yTo, r1To_flat c W r, k1To_flat]
theorem units_flen {wd ht : Int} {n : Nat} {C : Nat → Nat → Int} {cs : List Int} : (unitsG wd ht n C cs).flatten.length = (countG wd ht n C cs).2.toNat * (countG wd ht n C cs).1.toNat * blkN C cs := by
  unfold unitsG countG blkN
  split
  · rw [r1To_flat, yTo_len, Nat.mul_one]
  · rw [rTo_flen]
theorem blkTo_le {wd ht : Int} {n : Nat} {C : Nat → Nat → Int} {mh mv : Int} {cs : List Int} (hg : Geo wd ht n C mh mv) {m : Nat} (hc : compsTo n cs m = true) : ∀ i, i ≤ m → blkTo C cs i ≤ i * 16
  | 0, _ => by simp [blkTo]
  | i + 1, h => by
    have ih := blkTo_le hg hc i (by omega)
    obtain ⟨⟨h0, h1⟩, _⟩ := compsTo_at hc i (by omega)
    have hH := hg.ch (cs.getD i 0).toNat (by omega)
    have hV := hg.cv (cs.getD i 0).toNat (by omega)
    have h2 : (C (cs.getD i 0).toNat 2).toNat * (C (cs.getD i 0).toNat 1).toNat ≤ 4 * 4 := Nat.mul_le_mul (by omega) (by omega)
    simp only [blkTo]
    omega

set_option maxRecDepth 20000 in
set_option maxHeartbeats 1600000 in
theorem unitBlocks (X : Array Value) (p wd ht rs : Int) (n : Nat) (C : Nat → Nat → Int) (hX : Fx X p wd ht rs n C) (hg : Geo wd ht n C (mostA 1 C 1 n) (mostA 1 C 2 n)) (ao : Option Addr) (m cap : Nat) (cs : List Int) (w : World) (hr : Rd .i64 w ao m cs) (hc : okComps n cs = true) :
    Calls Try.prog 56 #[.agg X, .slice ao m cap] w fun e w' => e = .returned (.int .i64 (blkN C cs : Int)) ∧ w.grownBy w' none := by
  have hml := hr.1
  have hs := hX.size
  simp only [okComps, Bool.and_eq_true, decide_eq_true_eq] at hc
  obtain ⟨h1, h2⟩ := hc
  rw [hml] at h1
  have hmn := compsTo_len h1
  have hn4 := hg.n4
  obtain ⟨wx, hW0⟩ : ∃ wx, w.alloc (.cells X 80) = wx := ⟨_, rfl⟩
  have G0 : w.grownBy wx none := by rw [← hW0]; exact grown_alloc (World.grownBy.refl _ _) _
  have B0 : Hid (wx.heap[w.heap.size]? = some (.cells X 80 (0, 0))) := by rw [← hW0]; exact heap_alloc_new w _
  have hgs : w.heap.size < wx.heap.size := by rw [← hW0]; simp
  have HW := hide hW0
  have HX := hide hX
  have HGE := hide hg
  have HC := hide h1
  have HR := hide (hr.grown G0)
  have HG0 := hide G0
  clear hW0 hX hg h1 hr G0
  by_cases hm1 : m = 1
  · have hmI : ((m : Int) == 1) = true := by simp; omega
    have HB : Hid (blkN C cs = 1) := by unfold Hid blkN; rw [if_pos (by omega)]
    go_enter Try.func56, Try.ntmps56
    go_wp2
    rw [unhide HW]
    go_ret
    exact ⟨by rw [unhide HB]; rfl, unhide HG0⟩
  · have hmI : ((m : Int) == 1) = false := by simp; omega
    have HB : Hid (blkN C cs = blkTo C cs m) := by unfold Hid blkN; rw [if_neg (by omega), hml]
    go_enter Try.func56, Try.ntmps56
    go_wp2
    rw [unhide HW]
    go_loopw [5, 13] (fun s i wr => ∃ k : Nat, k ≤ m ∧ i = .int .i64 k ∧ s = .int .i64 ((blkTo C cs k : Nat) : Int) ∧ Hid (wx.grownBy wr none)) (fun _ i _ => m - (intOf i).toNat)
    case atStart => exact ⟨0, Nat.zero_le _, rfl, rfl, World.grownBy.refl _ _⟩
    case round =>
      obtain ⟨k, hk, rfl, rfl, hgk⟩ := hrel
      by_cases hlt : k < m
      · obtain ⟨⟨hc0, hc1⟩, _⟩ := compsTo_at (unhide HC) k hlt
        obtain ⟨c, hcE⟩ := Int.eq_ofNat_of_zero_le hc0
        have hcn : c < n := by omega
        obtain ⟨cb, coff, rfl, hcc⟩ := (unhide HR).2 k hlt
        have kc := (unhide hgk).cell hcc (by simp)
        rw [hcE] at kc
        have hkI : (k : Int) < (m : Int) := by omega
        have hB := ((unhide hgk).block w.heap.size hgs (by simp)).trans (unhide B0)
        have hcH := (unhide HGE).ch c hcn
        have hcV := (unhide HGE).cv c hcn
        have hbl := blkTo_le (unhide HGE) (unhide HC) k (by omega)
        have HST : Hid (((blkTo C cs k : Nat) : Int) + C c 1 * C c 2 = ((blkTo C cs (k + 1) : Nat) : Int)) := by
          unfold Hid
          simp only [blkTo, hcE, Int.toNat_natCast]
          rw [Int.natCast_add, Int.natCast_mul, Int.toNat_of_nonneg (by omega), Int.toNat_of_nonneg (by omega), Int.mul_comm (C c 1)]
        have hp : 0 ≤ C c 1 * C c 2 ∧ C c 1 * C c 2 ≤ 16 := by
          constructor
          · exact Int.mul_nonneg (by omega) (by omega)
          · have h1 : C c 1 * C c 2 ≤ 4 * 4 := Int.mul_le_mul (by omega) (by omega) (by omega) (by omega)
            omega
        have e1 := i64_in (((blkTo C cs k : Nat) : Int) + C c 1 * C c 2) (by omega)
        clear hcc
        go_wp2_with (refine wpList_load_row rfl 80 _ rfl w.heap.size rfl X 80 hB _ Try.underlying80 rfl (by rw [hs]; kernel_rfl) ?_)
        refine (shares X p wd ht rs n C (unhide HX) c (by omega) wr).mono ?_
        rintro e w2 ⟨rfl, g2⟩
        go_wp2_with fail
        refine (areaCount (C c 1) (C c 2) (by omega) (by omega) w2).mono ?_
        rintro e w3 ⟨rfl, g3⟩
        have HG3 := hide (grown_trans (unhide hgk) (grown_trans g2 g3))
        clear g2 g3 hB
        go_wp2
        go_roundw
        case rel => exact ⟨k + 1, by omega, by go_num, by rw [unhide HST], unhide HG3⟩
        case measure => simp [intOf]; omega
      · obtain rfl : k = m := by omega
        go_wp2
        go_ret
        exact ⟨by rw [unhide HB]; rfl, grown_trans (unhide HG0) (unhide hgk)⟩

/-- What the function that hands out an order is to its caller. -/
def Hands (w : World) (cb : Nat) (S : List Pl) (e : Ending) (w' : World) : Prop :=
  ∃ gf lb, e = .returned (.func (.func gf) #[] lb) ∧ (∀ args w, (callFunc gf args).run Try.prog w = .ok (.enter gf args) w) ∧ w.grownBy w' none ∧
    ∀ O : Nat → Prop, (∀ k, O k → k < w.heap.size) → ¬ O cb → Gives Try.prog gf lb (fun x : Pl => #[.agg #[.int .i64 x.1, .int .i64 x.2.1, .int .i64 x.2.2]]) S O w'

set_option maxRecDepth 20000 in
set_option maxHeartbeats 1600000 in
theorem unitOrder (X : Array Value) (p wd ht rs : Int) (n : Nat) (C : Nat → Nat → Int) (hX : Fx X p wd ht rs n C) (hg : Geo wd ht n C (mostA 1 C 1 n) (mostA 1 C 2 n)) (cb coff m ccap : Nat) (cs : List Int) (hc : compsTo n cs m = true) (w : World) (hr : Rd .i64 w (some ⟨cb, coff, none⟩) m cs) (hm0 : 0 < m)
    (uw uh : Nat) (HU : Hid (upI wd (8 * mostA 1 C 1 n) = (uw : Int))) (HV : Hid (upI ht (8 * mostA 1 C 2 n) = (uh : Int))) (huw : uw ≤ 256) (huh : uh ≤ 256) :
    Calls Try.prog 78 #[.agg X, .slice (some ⟨cb, coff, none⟩) m ccap] w (Hands w cb (rTo C cs uw uh).flatten) := by
  obtain ⟨W1, hW1⟩ : ∃ W1, (w.alloc (.cells X 80)).alloc (.cells #[.slice (some ⟨cb, coff, none⟩) m ccap] 29) = W1 := ⟨_, rfl⟩
  have g1 : w.grownBy W1 none := by rw [← hW1]; exact grown_alloc (World.grownBy_alloc _ _ _) _
  have bx : W1.heap[w.heap.size]? = some (.cells X 80 (0, 0)) := by rw [← hW1, Below.heap_alloc _ _ _ (by simp)]; exact heap_alloc_new w _
  have bs : W1.heap[w.heap.size + 1]? = some (.cells #[.slice (some ⟨cb, coff, none⟩) m ccap] 29 (0, 0)) := by
    rw [← hW1]
    have := heap_alloc_new (w.alloc (.cells X 80)) (.cells #[.slice (some ⟨cb, coff, none⟩) m ccap] 29)
    simpa using this
  have hcb : cb < w.heap.size := hr.lt hm0 cb coff rfl
  have hml := hr.1
  have hcell : ∀ i, i < m → W1.cell? ⟨cb, coff + i, none⟩ = some (.int .i64 (cs.getD i 0)) := fun i hi => by
    obtain ⟨b', o', e, hcc⟩ := (hr.grown g1).2 i hi
    simp only [Option.some.injEq, Addr.mk.injEq, and_true] at e
    obtain ⟨rfl, rfl⟩ := e
    exact hcc
  have hs1 : W1.heap.size = w.heap.size + 2 := by rw [← hW1]; simp
  have HG : Hid (∀ O : Nat → Prop, (∀ k, O k → k < w.heap.size) → ¬ O cb → Gives Try.prog 89 #[.pointer (some ⟨w.heap.size, 0, none⟩), .pointer (some ⟨w.heap.size + 1, 0, none⟩)] (fun x : Pl => #[.agg #[.int .i64 x.1, .int .i64 x.2.1, .int .i64 x.2.2]]) (rTo C cs uw uh).flatten O W1) := fun O hO hOc =>
    unit_gives w.heap.size (w.heap.size + 1) X p wd ht rs n C hX hg cb coff m ccap cs hc hml uw uh HU HV huw huh O W1 bx bs hcell (fun e => by have := hO _ e; omega) (fun e => by have := hO _ e; omega) hOc (by omega)
  have HW := hide hW1
  have HG1 := hide g1
  clear hW1 hX hg bx bs hr g1 hcell
  go_enter Try.func78, Try.ntmps78
  go_wp2
  rw [unhide HW]
  go_ret
  exact ⟨_, _, rfl, enters_of Try.func89 (by kernel_rfl) rfl, unhide HG1, unhide HG⟩

theorem placesFn (an bn : Nat) (ha : an ≤ 4096) (hb : bn ≤ 4096) (c r k : Int) (hr0 : 0 ≤ r ∧ r ≤ 1000000) (hk0 : 0 ≤ k ∧ k ≤ 1000000) (w : World) :
    Calls Try.prog 77 #[.agg #[.int .i64 (an : Int), .int .i64 (bn : Int)], .int .i64 c, .int .i64 r, .int .i64 k] w fun e w' => (∃ lb, e = .returned (.func (.func 87) #[] lb) ∧
      ∀ O : Nat → Prop, (∀ q, O q → q < w.heap.size) → Gives Try.prog 87 lb (fun x : Pl => #[.agg #[.int .i64 x.1, .int .i64 x.2.1, .int .i64 x.2.2]]) (yTo c r k an bn) O w') ∧ w.grownBy w' none := by
  refine (callsIn_wide.1 (places_in Fence.wide 0 trivial rfl (an : Int) (bn : Int) c r k w)).mono ?_
  rintro e w' ⟨rfl, rfl⟩
  refine ⟨⟨_, rfl, fun O hO => ?_⟩, grown_alloc (grown_alloc (grown_alloc (World.grownBy_alloc _ _ _) _) _) _⟩
  refine places_gives w.heap.size (w.heap.size + 1) (w.heap.size + 2) (w.heap.size + 3) an bn ha hb c r k hr0 hk0 O _ ?_ ?_ ?_ ?_ (fun e => by have := hO _ e; omega) (fun e => by have := hO _ e; omega) (fun e => by have := hO _ e; omega) (fun e => by have := hO _ e; omega)
  · rw [Below.heap_alloc _ _ _ (by simp; omega), Below.heap_alloc _ _ _ (by simp; omega), Below.heap_alloc _ _ _ (by simp)]; exact heap_alloc_new _ _
  · rw [Below.heap_alloc _ _ _ (by simp), Below.heap_alloc _ _ _ (by simp)]
    have := heap_alloc_new (w.alloc (.cells #[.int .i64 (an : Int), .int .i64 (bn : Int)] 98)) (.cells #[.int .i64 c] 3)
    simpa using this
  · rw [Below.heap_alloc _ _ _ (by simp)]
    have := heap_alloc_new ((w.alloc (.cells #[.int .i64 (an : Int), .int .i64 (bn : Int)] 98)).alloc (.cells #[.int .i64 c] 3)) (.cells #[.int .i64 r] 3)
    simpa using this
  · have := heap_alloc_new (((w.alloc (.cells #[.int .i64 (an : Int), .int .i64 (bn : Int)] 98)).alloc (.cells #[.int .i64 c] 3)).alloc (.cells #[.int .i64 r] 3)) (.cells #[.int .i64 k] 3)
    simpa using this

set_option maxRecDepth 20000 in
set_option maxHeartbeats 3200000 in
theorem orderFn (X : Array Value) (p wd ht rs : Int) (n : Nat) (C : Nat → Nat → Int) (hX : Fx X p wd ht rs n C) (hg : Geo wd ht n C (mostA 1 C 1 n) (mostA 1 C 2 n)) (cb coff m ccap : Nat) (cs : List Int) (hc : okComps n cs = true) (w : World) (hr : Rd .i64 w (some ⟨cb, coff, none⟩) m cs) :
    Calls Try.prog 57 #[.agg X, .slice (some ⟨cb, coff, none⟩) m ccap] w (Hands w cb (unitsG wd ht n C cs).flatten) := by
  have hml := hr.1
  have hs := hX.size
  have hB := countG_bounds hg hc
  simp only [okComps, Bool.and_eq_true, decide_eq_true_eq] at hc
  obtain ⟨h1, h2⟩ := hc
  rw [hml] at h1 h2
  have hn4 := hg.n4
  obtain ⟨⟨hc0, hc1⟩, _⟩ := compsTo_at h1 0 h2
  obtain ⟨c, hcE⟩ := Int.eq_ofNat_of_zero_le hc0
  have hcn : c < n := by omega
  have hcb : cb < w.heap.size := hr.lt h2 cb coff rfl
  obtain ⟨wx, hW0⟩ : ∃ wx, w.alloc (.cells X 80) = wx := ⟨_, rfl⟩
  have G0 : w.grownBy wx none := by rw [← hW0]; exact grown_alloc (World.grownBy.refl _ _) _
  have hB0 : wx.heap[w.heap.size]? = some (.cells X 80 (0, 0)) := by rw [← hW0]; exact heap_alloc_new w _
  have hgs : w.heap.size < wx.heap.size := by rw [← hW0]; simp
  have HW := hide hW0
  have HX := hide hX
  have HG := hide hg
  have HG0 := hide G0
  clear hW0 hX hg G0
  obtain ⟨a, b, ha⟩ : ∃ a b, countG wd ht n C cs = (a, b) := ⟨_, _, rfl⟩
  rw [ha] at hB
  dsimp only at hB
  by_cases hm1 : m = 1
  · have hmI : ((m : Int) == 1) = true := by simp; omega
    have hcell : wx.cell? ⟨cb, coff, none⟩ = some (.int .i64 (c : Int)) := by
      obtain ⟨b', o', e, hcc⟩ := (hr.grown (unhide HG0)).2 0 h2
      simp only [Option.some.injEq, Addr.mk.injEq, and_true] at e
      obtain ⟨rfl, rfl⟩ := e
      rw [hcE, Nat.add_zero] at hcc
      exact hcc
    have HE : Hid (upI (upI (wd * C c 1) (mostA 1 C 1 n)) 8 = a ∧ upI (upI (ht * C c 2) (mostA 1 C 2 n)) 8 = b) := by
      have e := ha
      unfold countG at e
      rw [if_pos (by omega), hcE, Int.toNat_natCast] at e
      exact Prod.mk.inj e
    have HS : Hid ((unitsG wd ht n C cs).flatten = yTo (c : Int) 0 0 a.toNat b.toNat) := by
      unfold Hid unitsG
      rw [if_pos (by omega), r1To_flat, hcE, Int.toNat_natCast, (unhide HE).1, (unhide HE).2]
    obtain ⟨an, rfl⟩ := Int.eq_ofNat_of_zero_le (show 0 ≤ a by omega)
    obtain ⟨bn, rfl⟩ := Int.eq_ofNat_of_zero_le (show 0 ≤ b by omega)
    simp only [Int.toNat_natCast] at HS
    have hm1I : (0 : Int) < (m : Int) := by omega
    have HR := hide hr
    clear hr ha hcE hc0 hc1
    go_enter Try.func57, Try.ntmps57
    go_wp2
    rw [unhide HW]
    refine wp_region_noPanic ?_
    refine wp_region_tail (fun w' => w'.heap[w.heap.size]? = some (.cells X 80 (0, 0)) ∧ w'.cell? ⟨cb, coff, none⟩ = some (.int .i64 (c : Int))) [true, true, true, true, false, true, true, true, false, false] (by kernel_rfl) (fun _ _ _ _ _ h => h) rfl (by kernel_rfl) ⟨hB0, hcell⟩ ?_
    refine heldF_take (v := .agg X) (Or.inl ⟨by rfl, ?_⟩) ?_
    · intro w' hSw
      exact exec_load_row 80 _ rfl w.heap.size rfl X 80 hSw.1 _ Try.underlying80 rfl (by rw [hs]; kernel_rfl)
    simp only [Act.put, List.setIfInBounds_toArray, List.set_cons_zero, List.set_cons_succ]
    iterate 3
      refine heldF_take (v := ?_) (Or.inl ⟨by rfl, ?_⟩) ?_
      rotate_left 1
      · intro w' hSw
        try dsimp only at hSw
        go_simp
        try with_reducible rfl
      simp only [Act.put, List.setIfInBounds_toArray, List.set_cons_zero, List.set_cons_succ]
    refine heldF_skip ?_
    iterate 3
      refine heldF_take (v := ?_) (Or.inl ⟨by rfl, ?_⟩) ?_
      rotate_left 1
      · intro w' hSw
        try dsimp only at hSw
        go_simp
        try with_reducible rfl
      simp only [Act.put, List.setIfInBounds_toArray, List.set_cons_zero, List.set_cons_succ]
    refine heldF_skip (heldF_skip (heldF_nil ?_))
    iterate 4 refine tailF_skip ?_
    refine tailF_step (fun K hK => ?_)
    go_simp
    refine (needed X p wd ht rs n C (unhide HX) _ _ (unhide HG) c hcn _ _ (an : Int) (bn : Int) rfl rfl (unhide HE).1 (unhide HE).2 _).mono ?_
    rintro e w2 ⟨rfl, g2⟩
    have G2 : wx.grownBy w2 none := grown_trans (grown_drew (World.grownBy.refl _ _)) g2
    refine hK.out _ _ ⟨(G2.block w.heap.size hgs (by simp)).trans hB0, G2.cell hcell (by simp)⟩ ?_
    clear hK K
    iterate 3 refine tailF_skip ?_
    refine tailF_step (fun K hK => ?_)
    go_simp
    refine (placesFn an bn (by omega) (by omega) (c : Int) 0 0 (by omega) (by omega) w2).mono ?_
    rintro e w3 ⟨⟨lb, rfl, hgv⟩, g3⟩
    have G3 : wx.grownBy w3 none := grown_trans G2 g3
    refine hK.out _ _ ⟨(G3.block w.heap.size hgs (by simp)).trans hB0, G3.cell hcell (by simp)⟩ ?_
    clear hK K
    refine tailF_step (fun K hK => ?_)
    go_simp
    refine hK.out _ _ ⟨(G3.block w.heap.size hgs (by simp)).trans hB0, G3.cell hcell (by simp)⟩ ?_
    refine tailF_nil (NoPanic.normal ?_)
    clear hK K
    go_wp2
    go_ret
    have hs2 := G2.size
    exact ⟨_, _, rfl, enters_of Try.func87 (by kernel_rfl) rfl, grown_trans (unhide HG0) G3, fun O hO _ => by rw [unhide HS]; exact hgv O (fun q hq => by have := hO q hq; omega)⟩
  · have hmI : ((m : Int) == 1) = false := by simp; omega
    have HE : Hid (upI wd (8 * mostA 1 C 1 n) = a ∧ upI ht (8 * mostA 1 C 2 n) = b) := by
      have e := ha
      unfold countG at e
      rw [if_neg (by omega)] at e
      exact Prod.mk.inj e
    have HS : Hid ((unitsG wd ht n C cs).flatten = (rTo C cs a.toNat b.toNat).flatten) := by
      unfold Hid unitsG
      rw [if_neg (by omega), (unhide HE).1, (unhide HE).2]
    have hab : a ≤ 256 ∧ b ≤ 256 := by
      have h3 := unitsOf_bounds (unhide HG).wd (unhide HG).hb
      have h4 := unitsOf_bounds (unhide HG).ht (unhide HG).vb
      have h5 := (unhide HG).wd
      have h6 := (unhide HG).ht
      rw [(unhide HE).1] at h3
      rw [(unhide HE).2] at h4
      omega
    obtain ⟨an, rfl⟩ := Int.eq_ofNat_of_zero_le (show 0 ≤ a by omega)
    obtain ⟨bn, rfl⟩ := Int.eq_ofNat_of_zero_le (show 0 ≤ b by omega)
    simp only [Int.toNat_natCast] at HS
    have HR := hide (hr.grown (unhide HG0))
    have HC := hide h1
    clear hr ha hcE hc0 hc1 h1
    go_enter Try.func57, Try.ntmps57
    go_wp2_with (rw [unhide HW]; refine wpList_load_row rfl 80 _ rfl w.heap.size rfl X 80 hB0 _ Try.underlying80 rfl (by rw [hs]; kernel_rfl) ?_)
    refine (unitOrder X p wd ht rs n C (unhide HX) (unhide HG) cb coff m ccap cs (unhide HC) wx (unhide HR) h2 an bn (unhide HE).1 (unhide HE).2 (by omega) (by omega)).mono ?_
    rintro e w3 ⟨gf, lb, rfl, hen, g3, hgv⟩
    go_wp2
    go_ret
    exact ⟨_, _, rfl, hen, grown_trans (unhide HG0) g3, fun O hO hOc => by rw [unhide HS]; exact hgv O (fun q hq => by have := hO q hq; omega) hOc⟩

end Go.Proofs.Ytoeehfjbnbbijaa
