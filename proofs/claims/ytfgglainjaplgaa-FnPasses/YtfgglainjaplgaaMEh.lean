/-
  AnyTake, PassTold, PassPut, GeoHas, GeoHasC, PassImpl, PassOk.
-/
import Derived.Test.YtfgglainjaplgaaMEg

namespace Go.Proofs.Ytfgglainjaplgaa
open Go.RowKit

theorem anyH_take1 {P : Program} {md : Region.Mode} {Q : Exit → Act → World → Prop} {S : World → Prop} {l : List Oper} {i f : Nat} {o : Oper} {v : Value} {listed : Array Bool} {a : Act} {w : World} (ho : l[i]? = some o) (hB : (Region.noSelect l.toArray && Region.free md l.toArray listed i && (Region.ready md l.toArray listed).contains i) = true)
    (hQ : ∀ c a d v w, Q (.panic c) (Act.put a d v) w → Q (.panic c) a w) (hS : S w) (hy : YieldsIf P l.toArray S o v a) (h : wpAnyH P md l.toArray Q S f (listed.setIfInBounds i true) (a.put o.dst v) w) : wpAnyH P md l.toArray Q S (f + 1) listed a w := by
  rw [Bool.and_eq_true, Bool.and_eq_true] at hB
  exact wpAnyH_take (by simpa using ho) hB.1.1 hB.1.2 hB.2 (fun c a w hq => hQ c a _ _ w hq) hy hS h

end Go.Proofs.Ytfgglainjaplgaa

namespace Go.Proofs.Ytfgglainjaplgaa
open Go.RowKit

/-- A square and a scan in their boxes (and one for the answer, where there are three). -/
structure Tz (w W : World) (zs : List Int) (sx : Array Value) (lim : Nat) : Prop where
  qb : W.heap[w.heap.size]? = some (.cells (sq zs) 73 (0, 0))
  sb : W.heap[w.heap.size + 1]? = some (.cells sx 26 (0, 0))
  rb : lim = 3 → W.heap[w.heap.size + 2]? = some (.cells (sq zs64) 73 (0, 0))
  size : w.heap.size + lim ≤ W.heap.size
  few : 2 ≤ lim
  grown : w.grownBy W none
theorem Tz.new {w W W' : World} {zs : List Int} {sx : Array Value} {lim : Nat} (h : Tz w W zs sx lim) (g : W.grownBy W' none) : Tz w W' zs sx lim :=
  ⟨grown_atT g h.qb (by simp), grown_atT g h.sb (by simp), fun e => grown_atT g (h.rb e) (by simp), Nat.le_trans h.size g.size, h.few, grown_trans h.grown g⟩
theorem Tz.wrR {w W W' : World} {zs : List Int} {sx : Array Value} {lim : Nat} {row : Option Nat} (h : Tz w W zs sx lim) (g : W.grownBy W' row) (hk : ∀ k, row = some k → w.heap.size + lim ≤ k) : Tz w W' zs sx lim := by
  have hf := h.few
  exact ⟨grown_atT g h.qb (fun e => by have := hk _ e; omega), grown_atT g h.sb (fun e => by have := hk _ e; omega), fun e => grown_atT g (h.rb e) (fun e2 => by have := hk _ e2; omega), Nat.le_trans h.size g.size, h.few, grown_new h.grown g (fun x e => by have := hk x e; omega)⟩
theorem Tz.wr {w W W' : World} {zs : List Int} {sx : Array Value} {lim k : Nat} (h : Tz w W zs sx lim) (g : W.grownBy W' (some k)) (hk : w.heap.size + lim ≤ k) : Tz w W' zs sx lim := h.wrR g (fun x e => by simp at e; omega)

set_option maxRecDepth 20000 in
theorem slice_wave (b f m : Nat) (hf : f < 64) (hm : f + m ≤ 64) (w : World) : (Instr.sliceAt 73 (.pointer (some ⟨b, 0, none⟩)) (some (.int .i64 (f : Int))) (some (.int .i64 ((f : Int) + (m : Int)))) none).run Try.prog w = .ok (.slice (some ⟨b, f, none⟩) m (64 - f)) w := by
  have hl : Try.prog.arrayLen 73 = 64 := by kernel_rfl
  have hs : (sizeOf (Try.prog.elem 73)).run Try.prog w = .ok 1 w := by kernel_rfl
  rw [run_sliceAt_array_lh w _ _ (by kernel_rfl) .i64 .i64 _ _ (by omega) (by omega) (by rw [hl]; omega), hs, hl]
  simp only [Result.andThen_ok, slicedAt]
  rw [if_neg (by omega), Addr.add_lit]
  congr 2
  · simp
  · omega

/-- A list while it is told, beside the block's waves in their box. -/
structure Tm13 (w W : World) (zs : List Int) (sx : Array Value) (b : Nat) (Z : List Int) (v : Value) (A : List Int) : Prop where
  tz : Tz w W zs sx 2
  zb : W.heap[b]? = some (.cells (sq Z) 73 (0, 0))
  own : W.ownsRow (w.heap.size + 2) 3 1 v A.length (A.map (Value.int .i64))
  ne : ∀ g, v.ownBlock = some g → g ≠ b
theorem Tm13.new {w W W' : World} {zs : List Int} {sx : Array Value} {b : Nat} {Z : List Int} {v : Value} {A : List Int} (h : Tm13 w W zs sx b Z v A) (g : W.grownBy W' none) : Tm13 w W' zs sx b Z v A :=
  ⟨h.tz.new g, grown_atT g h.zb (by simp), own_grown h.own g, h.ne⟩
theorem Tm13.more {w W W' : World} {zs : List Int} {sx : Array Value} {b : Nat} {Z : List Int} {v v' : Value} {A B : List Int} (h : Tm13 w W zs sx b Z v A) (o : W'.ownsRow (w.heap.size + 2) 3 1 v' B.length (B.map (Value.int .i64))) (g : W.grownBy W' v.ownBlock) (hat : v'.ownBlock = v.ownBlock ∨ ∀ g, v'.ownBlock = some g → W.heap.size ≤ g) : Tm13 w W' zs sx b Z v' B := by
  refine ⟨h.tz.wrR g (fun k e => (h.own.lt k e).1), grown_atT g h.zb (fun e => h.ne b e rfl), o, fun q e => ?_⟩
  rcases hat with h1 | h1
  · exact h.ne q (by rw [← h1]; exact e)
  · have h2 := h1 q e
    have h3 := (Array.getElem?_eq_some_iff.1 h.zb).1
    omega

set_option maxRecDepth 20000 in
set_option maxHeartbeats 3200000 in
theorem told (zs : List Int) (hz : zs.length = 64) (v0 : Value) (cs : List Int) (k0 k1 : Nat) (hi lo : Int) (h1 : k0 ≤ k1) (h2 : k1 ≤ 63) (A : Array Value) (k : Int) (g : Nat) (rv : Value) (T : Int → Int)
    (HT : Hid (∀ W, Calls Try.prog 63 #[scV v0 ⟨cs, k0, k1, hi, lo⟩] W fun e w' => e = .returned (.agg A) ∧ W.grownBy w' none))
    (HK : Hid (∀ W, Calls Try.prog 62 #[scV v0 ⟨cs, k0, k1, hi, lo⟩] W fun e w' => e = .returned (.int .i64 k) ∧ W.grownBy w' none))
    (HX : Hid (∀ w, (Instr.index 85 (.agg A) (.int .i64 k)).run Try.prog w = .ok (.func (.func g) #[rv] #[]) w))
    (eg : ∀ args w, (callFunc g args).run Try.prog w = .ok (.enter g args) w)
    (HC : Hid (∀ j, j < 64 → ∀ W, Calls Try.prog g #[rv, .int .i64 ((zigged zs).getD j 0)] W fun e W' => e = .returned (.int .i64 (T ((zigged zs).getD j 0))) ∧ W.grownBy W' none))
    (L : List Int) (HL : Hid ((List.range (k1 + 1 - k0)).map (fun j => T ((zigged zs).getD (k0 + j) 0)) = L)) (w : World) :
    Calls Try.prog 53 #[.agg (sq zs), scV v0 ⟨cs, k0, k1, hi, lo⟩] w (Row13 w L) := by
  obtain ⟨Z, HZZ⟩ : ∃ Z, Hid (zigged zs = Z) := ⟨_, rfl⟩
  have HZL : Hid (Z.length = 64) := by rw [← unhide HZZ]; exact made_len _
  have HZS : Hid ((sq Z).size = 64) := by unfold Hid; rw [sq_size]; exact unhide HZL
  rw [unhide HZZ] at HC HL
  have HZ0 := hide hz
  unfold scV at HT HK ⊢
  dsimp only at HT HK ⊢
  have TB : Hid (Tz w ((w.alloc (.cells (sq zs) 73)).alloc (.cells #[v0, .int .i64 (k0 : Int), .int .i64 (k1 : Int), .int .i64 hi, .int .i64 lo] 26)) zs #[v0, .int .i64 (k0 : Int), .int .i64 (k1 : Int), .int .i64 hi, .int .i64 lo] 2) := by
    refine ⟨?_, ?_, fun e => absurd e (by decide), by simp, by decide, grown_alloc (World.grownBy_alloc _ _ _) _⟩
    · rw [Below.heap_alloc _ _ _ (by simp)]
      exact heap_alloc_new w _
    · have := heap_alloc_new (w.alloc (.cells (sq zs) 73)) (.cells #[v0, .int .i64 (k0 : Int), .int .i64 (k1 : Int), .int .i64 hi, .int .i64 lo] 26)
      simpa using this
  obtain ⟨m, HM⟩ : ∃ m, Hid (k1 + 1 = k0 + m) := ⟨k1 + 1 - k0, by unfold Hid; omega⟩
  have hm64 : k0 + m ≤ 64 := by have := unhide HM; omega
  have hk64 : k0 < 64 := by omega
  have e1 := i64_in ((k1 : Int) - (k0 : Int)) (by omega)
  have e2 : IntKind.i64.wrap ((k1 : Int) - (k0 : Int) + 1) = (m : Int) := by rw [i64_in _ (by omega)]; have := unhide HM; omega
  have e3 : IntKind.i64.wrap ((k1 : Int) + 1) = (k0 : Int) + (m : Int) := by rw [i64_in _ (by omega)]; have := unhide HM; omega
  have HL2 : Hid ((List.range m).map (fun j => T (Z.getD (k0 + j) 0)) = L) := by
    have h := unhide HL
    have e : k1 + 1 - k0 = m := by have := unhide HM; omega
    rw [e] at h
    exact h
  obtain ⟨i0, hi0, hz0, hz1, hz2⟩ := info_parts info_iS
  clear hz HL h1 h2
  go_enter Try.func53, Try.ntmps53
  go_wp2
  rename_i K hK
  generalize ((w.alloc (.cells (sq zs) 73)).alloc (.cells #[v0, .int .i64 (k0 : Int), .int .i64 (k1 : Int), .int .i64 hi, .int .i64 lo] 26)) = WB at *
  have REST : Hid (∀ (b : Nat) (Wx : World), Tz w Wx zs #[v0, .int .i64 (k0 : Int), .int .i64 (k1 : Int), .int .i64 hi, .int .i64 lo] 2 → w.heap.size + 2 ≤ b → Wx.heap[b]? = some (.cells (sq Z) 73 (0, 0)) →
      K { tmps := #[.agg (sq zs), .agg #[v0, .int .i64 (k0 : Int), .int .i64 (k1 : Int), .int .i64 hi, .int .i64 lo], .pointer (some ⟨w.heap.size, 0, none⟩), .pointer (some ⟨w.heap.size + 1, 0, none⟩), .slice none 0 0, .func (.func g) #[rv] #[], .pointer (some ⟨b, 0, none⟩), undef, undef, undef, .agg #[v0, .int .i64 (k0 : Int), .int .i64 (k1 : Int), .int .i64 hi, .int .i64 lo], .agg A, .agg #[v0, .int .i64 (k0 : Int), .int .i64 (k1 : Int), .int .i64 hi, .int .i64 lo], .int .i64 k, .func (.func g) #[rv] #[], .agg (sq zs), .agg (sq Z), undef, undef, undef, undef, undef, undef, undef, undef, undef, undef, undef, undef, undef, undef, undef, undef, undef, undef, undef, undef, undef, undef, undef, undef, undef, undef], defers := [] } Wx) := by
    intro b Wx hT hb hZb
    refine hK _ _ ?_
    clear hK TB
    have HT0 := hide hT
    have HB0 := hide hZb
    have hsl := slice_wave b k0 m hk64 hm64
    have hbs := (Array.getElem?_eq_some_iff.1 hZb).1
    have hts := hT.size
    obtain ⟨c0, c1, c2, c3, c4⟩ := scanCells hT.sb
    clear hT hZb
    go_wp2_with (at_make; refine wpList_make_own _ rfl _ _ 24 rfl (w.heap.size + 2) 3 i0 (.int .i64 0) 1 Try.underlying24 hi0 hz0 hz1 .i64 .i64 _ m rfl rfl rfl (by rw [hz2]; omega) (by unfold maxLen; omega) hts ?_)
    intro w2 hown hgrow
    have HF2 : Hid (Tm13 w w2 zs #[v0, .int .i64 (k0 : Int), .int .i64 (k1 : Int), .int .i64 hi, .int .i64 lo] b Z (.slice (some ⟨Wx.heap.size, 0, none⟩) 0 m) []) := ⟨(unhide HT0).new hgrow, grown_atT hgrow (unhide HB0) (by simp), hown, fun q e => by have e3 : Wx.heap.size = q := Option.some.inj e; omega⟩
    clear hown hgrow HT0 HB0 c0 c1 c2 c3 c4 hi0 hz0 hz1 hz2
    obtain ⟨c0, c1, c2, c3, c4⟩ := scanCells (unhide HF2).tz.sb
    go_wp2
    clear c0 c1 c2 c3 c4
    go_loopw [7, 31] (fun lv iv wr => ∃ (j : Nat) (so : Option Addr) (sc : Nat), j ≤ m ∧ iv = .int .i64 (j : Int) ∧ lv = .slice so j sc ∧ Hid (Tm13 w wr zs #[v0, .int .i64 (k0 : Int), .int .i64 (k1 : Int), .int .i64 hi, .int .i64 lo] b Z (.slice so j sc) ((List.range j).map (fun j => T (Z.getD (k0 + j) 0))))) (fun _ iv _ => m - (intOf iv).toNat)
    case atStart => exact ⟨0, _, _, Nat.zero_le _, rfl, rfl, HF2⟩
    case round =>
      clear HF2
      obtain ⟨j, so, sc, hj, rfl, rfl, hF⟩ := hrel
      by_cases hlt : j < m
      · obtain ⟨A1, HA⟩ : ∃ A, Hid ((List.range j).map (fun j => T (Z.getD (k0 + j) 0)) = A) := ⟨_, rfl⟩
        obtain ⟨R, HRR⟩ : ∃ R, Hid ((List.range (j + 1)).map (fun j => T (Z.getD (k0 + j) 0)) = R) := ⟨_, rfl⟩
        have HAL : Hid (A1.length = j) := by unfold Hid; rw [← unhide HA]; simp
        have HRL : Hid (R.length = j + 1) := by unfold Hid; rw [← unhide HRR]; simp
        have HNX : Hid (A1 ++ [T (Z.getD (k0 + j) 0)] = R) := by
          unfold Hid
          rw [← unhide HA, ← unhide HRR, List.range_succ, List.map_append]
          rfl
        have HCJ := hide (unhide HC (k0 + j) (by omega))
        have hcell := sq_cell (unhide hF).zb (k0 + j) (by rw [unhide HZL]; omega)
        generalize Z.getD (k0 + j) 0 = zv at HNX HCJ hcell
        obtain ⟨tv, HTV⟩ : ∃ tv, Hid (T zv = tv) := ⟨_, rfl⟩
        rw [unhide HTV] at HNX HCJ
        rw [unhide HA] at hF
        have hi1 : (j : Int) < (m : Int) := by omega
        clear HA HTV
        go_wp2_with fail
        refine (unhide HCJ wr).mono ?_
        rintro e w3 ⟨rfl, g3⟩
        have HF3 := hide ((unhide hF).new g3)
        have hsz3 := (unhide HF3).tz.size
        clear g3 hF hcell HCJ
        go_wp2_with (at_builtin; refine append_intS rfl _ _ rfl (w.heap.size + 2) (.slice so j sc) A1 rfl (unhide HF3).own tv rfl (by rw [unhide HAL]; omega) hsz3 R (unhide HNX) ?_)
        intro v4 w4 o4 g4 hat4
        have HF4 := hide ((unhide HF3).more o4 g4 hat4)
        rw [unhide HRL] at o4
        obtain ⟨so4, sc4, rfl⟩ := own_form o4
        clear o4 g4 hat4 HF3
        go_wp2
        go_roundw
        case rel => exact ⟨j + 1, so4, sc4, by omega, by go_num, rfl, by unfold Hid; rw [unhide HRR]; exact unhide HF4⟩
        case measure => simp [intOf]; omega
      · obtain rfl : j = m := by omega
        have HFE := hF
        have HLEN : Hid (L.length = j) := by unfold Hid; rw [← unhide HL2]; simp
        rw [unhide HL2] at HFE
        clear hF
        go_wp2
        go_ret
        refine ⟨so, sc, by rw [unhide HLEN]; rfl, ?_, (unhide HFE).tz.grown⟩
        have h := own_base (unhide HFE).own (show w.heap.size ≤ w.heap.size + 2 by omega)
        rw [unhide HLEN] at h ⊢
        exact h
  clear hK
  refine wp_region_noPanic ?_
  have T0 := hide ((unhide TB).new (grown_drew (World.grownBy.refl WB none)))
  clear TB
  refine wp_region_raw (fun W => Tz w W zs #[v0, .int .i64 (k0 : Int), .int .i64 (k1 : Int), .int .i64 hi, .int .i64 lo] 2) [true, false, true, false, false, true, false, false, false, false] (by kernel_rfl) (fun _ _ _ _ _ h => h) rfl (by kernel_rfl) (unhide T0) ?_
  generalize WB.drew = W0 at *
  refine heldF_take (v := .agg #[v0, .int .i64 (k0 : Int), .int .i64 (k1 : Int), .int .i64 hi, .int .i64 lo]) (Or.inl ⟨by rfl, ?_⟩) ?_
  · intro w' hSw
    exact exec_row 26 _ rfl (w.heap.size + 1) rfl #[v0, .int .i64 (k0 : Int), .int .i64 (k1 : Int), .int .i64 hi, .int .i64 lo] 26 hSw.sb _ Try.underlying26 rfl (by kernel_rfl)
  try simp only [Act.put, List.setIfInBounds_toArray, List.set_cons_zero, List.set_cons_succ]
  refine heldF_skip ?_
  refine heldF_take (v := .agg #[v0, .int .i64 (k0 : Int), .int .i64 (k1 : Int), .int .i64 hi, .int .i64 lo]) (Or.inl ⟨by rfl, ?_⟩) ?_
  · intro w' hSw
    exact exec_row 26 _ rfl (w.heap.size + 1) rfl #[v0, .int .i64 (k0 : Int), .int .i64 (k1 : Int), .int .i64 hi, .int .i64 lo] 26 hSw.sb _ Try.underlying26 rfl (by kernel_rfl)
  try simp only [Act.put, List.setIfInBounds_toArray, List.set_cons_zero, List.set_cons_succ]
  refine heldF_skip ?_
  refine heldF_skip ?_
  refine heldF_take (v := .agg (sq zs)) (Or.inl ⟨by rfl, ?_⟩) ?_
  · intro w' hSw
    exact exec_row 73 _ rfl w.heap.size rfl (sq zs) 73 hSw.qb _ Try.underlying73 rfl (by rw [sq_size, unhide HZ0]; kernel_rfl)
  try simp only [Act.put, List.setIfInBounds_toArray, List.set_cons_zero, List.set_cons_succ]
  refine heldF_skip (heldF_skip (heldF_skip (heldF_skip (heldF_nil ?_))))
  refine anyH_step2 (i := 1) (j := 7) rfl rfl (by kernel_rfl) (fun K hK => ?_) (fun K hK => ?_)
  · go_simp
    refine (unhide HT W0).mono ?_
    rintro e W1 ⟨rfl, g1⟩
    have T1 := hide ((unhide T0).new g1)
    have s1 := g1.size
    refine hK.out _ _ (unhide T1) ?_
    clear hK K g1
    try simp only [Act.put, List.setIfInBounds_toArray, List.set_cons_zero, List.set_cons_succ]
    refine anyH_step2 (i := 3) (j := 7) rfl rfl (by kernel_rfl) (fun K hK => ?_) (fun K hK => ?_)
    · go_simp
      refine (unhide HK W1).mono ?_
      rintro e W2 ⟨rfl, g2⟩
      have T2 := hide ((unhide T1).new g2)
      have s2 := g2.size
      refine hK.out _ _ (unhide T2) ?_
      clear hK K g2
      try simp only [Act.put, List.setIfInBounds_toArray, List.set_cons_zero, List.set_cons_succ]
      refine anyH_take1 (i := 4) (v := .func (.func g) #[rv] #[]) rfl (by kernel_rfl) (fun _ _ _ _ _ h => h) (unhide T2) (Or.inl ⟨by rfl, ?_⟩) ?_
      · intro w' hSw
        have hx := fun w => unhide HX w
        go_simp
        try with_reducible rfl
      try simp only [Act.put, List.setIfInBounds_toArray, List.set_cons_zero, List.set_cons_succ]
      refine anyH_step2 (i := 6) (j := 7) rfl rfl (by kernel_rfl) (fun K hK => ?_) (fun K hK => ?_)
      · go_simp
        refine (toZig zs (unhide HZ0) W2).mono ?_
        rintro e W3 ⟨rfl, g3⟩
        have T3 := hide ((unhide T2).new g3)
        have s3 := g3.size
        rw [unhide HZZ]
        refine hK.out _ _ (unhide T3) ?_
        clear hK K g3
        try simp only [Act.put, List.setIfInBounds_toArray, List.set_cons_zero, List.set_cons_succ]
        refine anyH_step1 (i := 7) rfl (by kernel_rfl) (fun K hK => ?_)
        go_simp
        have T4 := hide ((unhide T3).new (World.grownBy_alloc W3 (.cells #[.int .i64 0, .int .i64 0, .int .i64 0, .int .i64 0, .int .i64 0, .int .i64 0, .int .i64 0, .int .i64 0, .int .i64 0, .int .i64 0, .int .i64 0, .int .i64 0, .int .i64 0, .int .i64 0, .int .i64 0, .int .i64 0, .int .i64 0, .int .i64 0, .int .i64 0, .int .i64 0, .int .i64 0, .int .i64 0, .int .i64 0, .int .i64 0, .int .i64 0, .int .i64 0, .int .i64 0, .int .i64 0, .int .i64 0, .int .i64 0, .int .i64 0, .int .i64 0, .int .i64 0, .int .i64 0, .int .i64 0, .int .i64 0, .int .i64 0, .int .i64 0, .int .i64 0, .int .i64 0, .int .i64 0, .int .i64 0, .int .i64 0, .int .i64 0, .int .i64 0, .int .i64 0, .int .i64 0, .int .i64 0, .int .i64 0, .int .i64 0, .int .i64 0, .int .i64 0, .int .i64 0, .int .i64 0, .int .i64 0, .int .i64 0, .int .i64 0, .int .i64 0, .int .i64 0, .int .i64 0, .int .i64 0, .int .i64 0, .int .i64 0, .int .i64 0] 73) none))
        have N4 := hide (heap_alloc_new W3 (.cells #[.int .i64 0, .int .i64 0, .int .i64 0, .int .i64 0, .int .i64 0, .int .i64 0, .int .i64 0, .int .i64 0, .int .i64 0, .int .i64 0, .int .i64 0, .int .i64 0, .int .i64 0, .int .i64 0, .int .i64 0, .int .i64 0, .int .i64 0, .int .i64 0, .int .i64 0, .int .i64 0, .int .i64 0, .int .i64 0, .int .i64 0, .int .i64 0, .int .i64 0, .int .i64 0, .int .i64 0, .int .i64 0, .int .i64 0, .int .i64 0, .int .i64 0, .int .i64 0, .int .i64 0, .int .i64 0, .int .i64 0, .int .i64 0, .int .i64 0, .int .i64 0, .int .i64 0, .int .i64 0, .int .i64 0, .int .i64 0, .int .i64 0, .int .i64 0, .int .i64 0, .int .i64 0, .int .i64 0, .int .i64 0, .int .i64 0, .int .i64 0, .int .i64 0, .int .i64 0, .int .i64 0, .int .i64 0, .int .i64 0, .int .i64 0, .int .i64 0, .int .i64 0, .int .i64 0, .int .i64 0, .int .i64 0, .int .i64 0, .int .i64 0, .int .i64 0] 73))
        have s4 : W3.heap.size + 1 ≤ (W3.alloc (.cells #[.int .i64 0, .int .i64 0, .int .i64 0, .int .i64 0, .int .i64 0, .int .i64 0, .int .i64 0, .int .i64 0, .int .i64 0, .int .i64 0, .int .i64 0, .int .i64 0, .int .i64 0, .int .i64 0, .int .i64 0, .int .i64 0, .int .i64 0, .int .i64 0, .int .i64 0, .int .i64 0, .int .i64 0, .int .i64 0, .int .i64 0, .int .i64 0, .int .i64 0, .int .i64 0, .int .i64 0, .int .i64 0, .int .i64 0, .int .i64 0, .int .i64 0, .int .i64 0, .int .i64 0, .int .i64 0, .int .i64 0, .int .i64 0, .int .i64 0, .int .i64 0, .int .i64 0, .int .i64 0, .int .i64 0, .int .i64 0, .int .i64 0, .int .i64 0, .int .i64 0, .int .i64 0, .int .i64 0, .int .i64 0, .int .i64 0, .int .i64 0, .int .i64 0, .int .i64 0, .int .i64 0, .int .i64 0, .int .i64 0, .int .i64 0, .int .i64 0, .int .i64 0, .int .i64 0, .int .i64 0, .int .i64 0, .int .i64 0, .int .i64 0, .int .i64 0] 73)).heap.size := by simp
        refine hK.out _ _ (unhide T4) ?_
        clear hK K
        generalize (W3.alloc (.cells #[.int .i64 0, .int .i64 0, .int .i64 0, .int .i64 0, .int .i64 0, .int .i64 0, .int .i64 0, .int .i64 0, .int .i64 0, .int .i64 0, .int .i64 0, .int .i64 0, .int .i64 0, .int .i64 0, .int .i64 0, .int .i64 0, .int .i64 0, .int .i64 0, .int .i64 0, .int .i64 0, .int .i64 0, .int .i64 0, .int .i64 0, .int .i64 0, .int .i64 0, .int .i64 0, .int .i64 0, .int .i64 0, .int .i64 0, .int .i64 0, .int .i64 0, .int .i64 0, .int .i64 0, .int .i64 0, .int .i64 0, .int .i64 0, .int .i64 0, .int .i64 0, .int .i64 0, .int .i64 0, .int .i64 0, .int .i64 0, .int .i64 0, .int .i64 0, .int .i64 0, .int .i64 0, .int .i64 0, .int .i64 0, .int .i64 0, .int .i64 0, .int .i64 0, .int .i64 0, .int .i64 0, .int .i64 0, .int .i64 0, .int .i64 0, .int .i64 0, .int .i64 0, .int .i64 0, .int .i64 0, .int .i64 0, .int .i64 0, .int .i64 0, .int .i64 0] 73)) = W4 at *
        try simp only [Act.put, List.setIfInBounds_toArray, List.set_cons_zero, List.set_cons_succ]
        refine anyH_step1 (i := 8) rfl (by kernel_rfl) (fun K hK => ?_)
        go_simp
        refine hK.out _ _ (unhide T4) ?_
        clear hK K
        try simp only [Act.put, List.setIfInBounds_toArray, List.set_cons_zero, List.set_cons_succ]
        refine anyH_step1 (i := 9) rfl (by kernel_rfl) (fun K hK => ?_)
        refine step_store_row (by rfl) 73 _ _ rfl (W3.heap.size) rfl (sq Z) rfl #[.int .i64 0, .int .i64 0, .int .i64 0, .int .i64 0, .int .i64 0, .int .i64 0, .int .i64 0, .int .i64 0, .int .i64 0, .int .i64 0, .int .i64 0, .int .i64 0, .int .i64 0, .int .i64 0, .int .i64 0, .int .i64 0, .int .i64 0, .int .i64 0, .int .i64 0, .int .i64 0, .int .i64 0, .int .i64 0, .int .i64 0, .int .i64 0, .int .i64 0, .int .i64 0, .int .i64 0, .int .i64 0, .int .i64 0, .int .i64 0, .int .i64 0, .int .i64 0, .int .i64 0, .int .i64 0, .int .i64 0, .int .i64 0, .int .i64 0, .int .i64 0, .int .i64 0, .int .i64 0, .int .i64 0, .int .i64 0, .int .i64 0, .int .i64 0, .int .i64 0, .int .i64 0, .int .i64 0, .int .i64 0, .int .i64 0, .int .i64 0, .int .i64 0, .int .i64 0, .int .i64 0, .int .i64 0, .int .i64 0, .int .i64 0, .int .i64 0, .int .i64 0, .int .i64 0, .int .i64 0, .int .i64 0, .int .i64 0, .int .i64 0, .int .i64 0] 73 (unhide N4) (by rw [unhide HZS]; rfl) (by rw [unhide HZS]; kernel_rfl) (sq_one _) ?_
        intro W5 hB5 g5
        have T5 := hide ((unhide T4).wr g5 (by have := (unhide T0).size; omega))
        refine hK.out _ _ (unhide T5) ?_
        clear hK K
        try simp only [Act.put]
        refine wpAnyH_done (by kernel_rfl) (NoPanic.normal ?_) _
        exact unhide REST (W3.heap.size) _ (unhide T5) (by have := (unhide T0).size; omega) hB5
      · go_simp
        have T6 := hide ((unhide T2).new (World.grownBy_alloc W2 (.cells #[.int .i64 0, .int .i64 0, .int .i64 0, .int .i64 0, .int .i64 0, .int .i64 0, .int .i64 0, .int .i64 0, .int .i64 0, .int .i64 0, .int .i64 0, .int .i64 0, .int .i64 0, .int .i64 0, .int .i64 0, .int .i64 0, .int .i64 0, .int .i64 0, .int .i64 0, .int .i64 0, .int .i64 0, .int .i64 0, .int .i64 0, .int .i64 0, .int .i64 0, .int .i64 0, .int .i64 0, .int .i64 0, .int .i64 0, .int .i64 0, .int .i64 0, .int .i64 0, .int .i64 0, .int .i64 0, .int .i64 0, .int .i64 0, .int .i64 0, .int .i64 0, .int .i64 0, .int .i64 0, .int .i64 0, .int .i64 0, .int .i64 0, .int .i64 0, .int .i64 0, .int .i64 0, .int .i64 0, .int .i64 0, .int .i64 0, .int .i64 0, .int .i64 0, .int .i64 0, .int .i64 0, .int .i64 0, .int .i64 0, .int .i64 0, .int .i64 0, .int .i64 0, .int .i64 0, .int .i64 0, .int .i64 0, .int .i64 0, .int .i64 0, .int .i64 0] 73) none))
        have N6 := hide (heap_alloc_new W2 (.cells #[.int .i64 0, .int .i64 0, .int .i64 0, .int .i64 0, .int .i64 0, .int .i64 0, .int .i64 0, .int .i64 0, .int .i64 0, .int .i64 0, .int .i64 0, .int .i64 0, .int .i64 0, .int .i64 0, .int .i64 0, .int .i64 0, .int .i64 0, .int .i64 0, .int .i64 0, .int .i64 0, .int .i64 0, .int .i64 0, .int .i64 0, .int .i64 0, .int .i64 0, .int .i64 0, .int .i64 0, .int .i64 0, .int .i64 0, .int .i64 0, .int .i64 0, .int .i64 0, .int .i64 0, .int .i64 0, .int .i64 0, .int .i64 0, .int .i64 0, .int .i64 0, .int .i64 0, .int .i64 0, .int .i64 0, .int .i64 0, .int .i64 0, .int .i64 0, .int .i64 0, .int .i64 0, .int .i64 0, .int .i64 0, .int .i64 0, .int .i64 0, .int .i64 0, .int .i64 0, .int .i64 0, .int .i64 0, .int .i64 0, .int .i64 0, .int .i64 0, .int .i64 0, .int .i64 0, .int .i64 0, .int .i64 0, .int .i64 0, .int .i64 0, .int .i64 0] 73))
        have s6 : W2.heap.size + 1 ≤ (W2.alloc (.cells #[.int .i64 0, .int .i64 0, .int .i64 0, .int .i64 0, .int .i64 0, .int .i64 0, .int .i64 0, .int .i64 0, .int .i64 0, .int .i64 0, .int .i64 0, .int .i64 0, .int .i64 0, .int .i64 0, .int .i64 0, .int .i64 0, .int .i64 0, .int .i64 0, .int .i64 0, .int .i64 0, .int .i64 0, .int .i64 0, .int .i64 0, .int .i64 0, .int .i64 0, .int .i64 0, .int .i64 0, .int .i64 0, .int .i64 0, .int .i64 0, .int .i64 0, .int .i64 0, .int .i64 0, .int .i64 0, .int .i64 0, .int .i64 0, .int .i64 0, .int .i64 0, .int .i64 0, .int .i64 0, .int .i64 0, .int .i64 0, .int .i64 0, .int .i64 0, .int .i64 0, .int .i64 0, .int .i64 0, .int .i64 0, .int .i64 0, .int .i64 0, .int .i64 0, .int .i64 0, .int .i64 0, .int .i64 0, .int .i64 0, .int .i64 0, .int .i64 0, .int .i64 0, .int .i64 0, .int .i64 0, .int .i64 0, .int .i64 0, .int .i64 0, .int .i64 0] 73)).heap.size := by simp
        refine hK.out _ _ (unhide T6) ?_
        clear hK K
        generalize (W2.alloc (.cells #[.int .i64 0, .int .i64 0, .int .i64 0, .int .i64 0, .int .i64 0, .int .i64 0, .int .i64 0, .int .i64 0, .int .i64 0, .int .i64 0, .int .i64 0, .int .i64 0, .int .i64 0, .int .i64 0, .int .i64 0, .int .i64 0, .int .i64 0, .int .i64 0, .int .i64 0, .int .i64 0, .int .i64 0, .int .i64 0, .int .i64 0, .int .i64 0, .int .i64 0, .int .i64 0, .int .i64 0, .int .i64 0, .int .i64 0, .int .i64 0, .int .i64 0, .int .i64 0, .int .i64 0, .int .i64 0, .int .i64 0, .int .i64 0, .int .i64 0, .int .i64 0, .int .i64 0, .int .i64 0, .int .i64 0, .int .i64 0, .int .i64 0, .int .i64 0, .int .i64 0, .int .i64 0, .int .i64 0, .int .i64 0, .int .i64 0, .int .i64 0, .int .i64 0, .int .i64 0, .int .i64 0, .int .i64 0, .int .i64 0, .int .i64 0, .int .i64 0, .int .i64 0, .int .i64 0, .int .i64 0, .int .i64 0, .int .i64 0, .int .i64 0, .int .i64 0] 73)) = W6 at *
        try simp only [Act.put, List.setIfInBounds_toArray, List.set_cons_zero, List.set_cons_succ]
        refine anyH_step1 (i := 6) rfl (by kernel_rfl) (fun K hK => ?_)
        go_simp
        refine (toZig zs (unhide HZ0) W6).mono ?_
        rintro e W7 ⟨rfl, g7⟩
        have T7 := hide ((unhide T6).new g7)
        have s7 := g7.size
        rw [unhide HZZ]
        have N7 := hide (grown_atT g7 (unhide N6) (by simp))
        refine hK.out _ _ (unhide T7) ?_
        clear hK K g7
        try simp only [Act.put, List.setIfInBounds_toArray, List.set_cons_zero, List.set_cons_succ]
        refine anyH_step1 (i := 8) rfl (by kernel_rfl) (fun K hK => ?_)
        go_simp
        refine hK.out _ _ (unhide T7) ?_
        clear hK K
        try simp only [Act.put, List.setIfInBounds_toArray, List.set_cons_zero, List.set_cons_succ]
        refine anyH_step1 (i := 9) rfl (by kernel_rfl) (fun K hK => ?_)
        refine step_store_row (by rfl) 73 _ _ rfl (W2.heap.size) rfl (sq Z) rfl #[.int .i64 0, .int .i64 0, .int .i64 0, .int .i64 0, .int .i64 0, .int .i64 0, .int .i64 0, .int .i64 0, .int .i64 0, .int .i64 0, .int .i64 0, .int .i64 0, .int .i64 0, .int .i64 0, .int .i64 0, .int .i64 0, .int .i64 0, .int .i64 0, .int .i64 0, .int .i64 0, .int .i64 0, .int .i64 0, .int .i64 0, .int .i64 0, .int .i64 0, .int .i64 0, .int .i64 0, .int .i64 0, .int .i64 0, .int .i64 0, .int .i64 0, .int .i64 0, .int .i64 0, .int .i64 0, .int .i64 0, .int .i64 0, .int .i64 0, .int .i64 0, .int .i64 0, .int .i64 0, .int .i64 0, .int .i64 0, .int .i64 0, .int .i64 0, .int .i64 0, .int .i64 0, .int .i64 0, .int .i64 0, .int .i64 0, .int .i64 0, .int .i64 0, .int .i64 0, .int .i64 0, .int .i64 0, .int .i64 0, .int .i64 0, .int .i64 0, .int .i64 0, .int .i64 0, .int .i64 0, .int .i64 0, .int .i64 0, .int .i64 0, .int .i64 0] 73 (unhide N7) (by rw [unhide HZS]; rfl) (by rw [unhide HZS]; kernel_rfl) (sq_one _) ?_
        intro W8 hB8 g8
        have T8 := hide ((unhide T7).wr g8 (by have := (unhide T0).size; omega))
        refine hK.out _ _ (unhide T8) ?_
        clear hK K
        try simp only [Act.put]
        refine wpAnyH_done (by kernel_rfl) (NoPanic.normal ?_) _
        exact unhide REST (W2.heap.size) _ (unhide T8) (by have := (unhide T0).size; omega) hB8
    · go_simp
      have T9 := hide ((unhide T1).new (World.grownBy_alloc W1 (.cells #[.int .i64 0, .int .i64 0, .int .i64 0, .int .i64 0, .int .i64 0, .int .i64 0, .int .i64 0, .int .i64 0, .int .i64 0, .int .i64 0, .int .i64 0, .int .i64 0, .int .i64 0, .int .i64 0, .int .i64 0, .int .i64 0, .int .i64 0, .int .i64 0, .int .i64 0, .int .i64 0, .int .i64 0, .int .i64 0, .int .i64 0, .int .i64 0, .int .i64 0, .int .i64 0, .int .i64 0, .int .i64 0, .int .i64 0, .int .i64 0, .int .i64 0, .int .i64 0, .int .i64 0, .int .i64 0, .int .i64 0, .int .i64 0, .int .i64 0, .int .i64 0, .int .i64 0, .int .i64 0, .int .i64 0, .int .i64 0, .int .i64 0, .int .i64 0, .int .i64 0, .int .i64 0, .int .i64 0, .int .i64 0, .int .i64 0, .int .i64 0, .int .i64 0, .int .i64 0, .int .i64 0, .int .i64 0, .int .i64 0, .int .i64 0, .int .i64 0, .int .i64 0, .int .i64 0, .int .i64 0, .int .i64 0, .int .i64 0, .int .i64 0, .int .i64 0] 73) none))
      have N9 := hide (heap_alloc_new W1 (.cells #[.int .i64 0, .int .i64 0, .int .i64 0, .int .i64 0, .int .i64 0, .int .i64 0, .int .i64 0, .int .i64 0, .int .i64 0, .int .i64 0, .int .i64 0, .int .i64 0, .int .i64 0, .int .i64 0, .int .i64 0, .int .i64 0, .int .i64 0, .int .i64 0, .int .i64 0, .int .i64 0, .int .i64 0, .int .i64 0, .int .i64 0, .int .i64 0, .int .i64 0, .int .i64 0, .int .i64 0, .int .i64 0, .int .i64 0, .int .i64 0, .int .i64 0, .int .i64 0, .int .i64 0, .int .i64 0, .int .i64 0, .int .i64 0, .int .i64 0, .int .i64 0, .int .i64 0, .int .i64 0, .int .i64 0, .int .i64 0, .int .i64 0, .int .i64 0, .int .i64 0, .int .i64 0, .int .i64 0, .int .i64 0, .int .i64 0, .int .i64 0, .int .i64 0, .int .i64 0, .int .i64 0, .int .i64 0, .int .i64 0, .int .i64 0, .int .i64 0, .int .i64 0, .int .i64 0, .int .i64 0, .int .i64 0, .int .i64 0, .int .i64 0, .int .i64 0] 73))
      have s9 : W1.heap.size + 1 ≤ (W1.alloc (.cells #[.int .i64 0, .int .i64 0, .int .i64 0, .int .i64 0, .int .i64 0, .int .i64 0, .int .i64 0, .int .i64 0, .int .i64 0, .int .i64 0, .int .i64 0, .int .i64 0, .int .i64 0, .int .i64 0, .int .i64 0, .int .i64 0, .int .i64 0, .int .i64 0, .int .i64 0, .int .i64 0, .int .i64 0, .int .i64 0, .int .i64 0, .int .i64 0, .int .i64 0, .int .i64 0, .int .i64 0, .int .i64 0, .int .i64 0, .int .i64 0, .int .i64 0, .int .i64 0, .int .i64 0, .int .i64 0, .int .i64 0, .int .i64 0, .int .i64 0, .int .i64 0, .int .i64 0, .int .i64 0, .int .i64 0, .int .i64 0, .int .i64 0, .int .i64 0, .int .i64 0, .int .i64 0, .int .i64 0, .int .i64 0, .int .i64 0, .int .i64 0, .int .i64 0, .int .i64 0, .int .i64 0, .int .i64 0, .int .i64 0, .int .i64 0, .int .i64 0, .int .i64 0, .int .i64 0, .int .i64 0, .int .i64 0, .int .i64 0, .int .i64 0, .int .i64 0] 73)).heap.size := by simp
      refine hK.out _ _ (unhide T9) ?_
      clear hK K
      generalize (W1.alloc (.cells #[.int .i64 0, .int .i64 0, .int .i64 0, .int .i64 0, .int .i64 0, .int .i64 0, .int .i64 0, .int .i64 0, .int .i64 0, .int .i64 0, .int .i64 0, .int .i64 0, .int .i64 0, .int .i64 0, .int .i64 0, .int .i64 0, .int .i64 0, .int .i64 0, .int .i64 0, .int .i64 0, .int .i64 0, .int .i64 0, .int .i64 0, .int .i64 0, .int .i64 0, .int .i64 0, .int .i64 0, .int .i64 0, .int .i64 0, .int .i64 0, .int .i64 0, .int .i64 0, .int .i64 0, .int .i64 0, .int .i64 0, .int .i64 0, .int .i64 0, .int .i64 0, .int .i64 0, .int .i64 0, .int .i64 0, .int .i64 0, .int .i64 0, .int .i64 0, .int .i64 0, .int .i64 0, .int .i64 0, .int .i64 0, .int .i64 0, .int .i64 0, .int .i64 0, .int .i64 0, .int .i64 0, .int .i64 0, .int .i64 0, .int .i64 0, .int .i64 0, .int .i64 0, .int .i64 0, .int .i64 0, .int .i64 0, .int .i64 0, .int .i64 0, .int .i64 0] 73)) = W9 at *
      try simp only [Act.put, List.setIfInBounds_toArray, List.set_cons_zero, List.set_cons_succ]
      refine anyH_step1 (i := 3) rfl (by kernel_rfl) (fun K hK => ?_)
      go_simp
      refine (unhide HK W9).mono ?_
      rintro e W10 ⟨rfl, g10⟩
      have T10 := hide ((unhide T9).new g10)
      have s10 := g10.size
      have N10 := hide (grown_atT g10 (unhide N9) (by simp))
      refine hK.out _ _ (unhide T10) ?_
      clear hK K g10
      try simp only [Act.put, List.setIfInBounds_toArray, List.set_cons_zero, List.set_cons_succ]
      refine anyH_take1 (i := 4) (v := .func (.func g) #[rv] #[]) rfl (by kernel_rfl) (fun _ _ _ _ _ h => h) (unhide T10) (Or.inl ⟨by rfl, ?_⟩) ?_
      · intro w' hSw
        have hx := fun w => unhide HX w
        go_simp
        try with_reducible rfl
      try simp only [Act.put, List.setIfInBounds_toArray, List.set_cons_zero, List.set_cons_succ]
      refine anyH_step1 (i := 6) rfl (by kernel_rfl) (fun K hK => ?_)
      go_simp
      refine (toZig zs (unhide HZ0) W10).mono ?_
      rintro e W11 ⟨rfl, g11⟩
      have T11 := hide ((unhide T10).new g11)
      have s11 := g11.size
      rw [unhide HZZ]
      have N11 := hide (grown_atT g11 (unhide N10) (by simp))
      refine hK.out _ _ (unhide T11) ?_
      clear hK K g11
      try simp only [Act.put, List.setIfInBounds_toArray, List.set_cons_zero, List.set_cons_succ]
      refine anyH_step1 (i := 8) rfl (by kernel_rfl) (fun K hK => ?_)
      go_simp
      refine hK.out _ _ (unhide T11) ?_
      clear hK K
      try simp only [Act.put, List.setIfInBounds_toArray, List.set_cons_zero, List.set_cons_succ]
      refine anyH_step1 (i := 9) rfl (by kernel_rfl) (fun K hK => ?_)
      refine step_store_row (by rfl) 73 _ _ rfl (W1.heap.size) rfl (sq Z) rfl #[.int .i64 0, .int .i64 0, .int .i64 0, .int .i64 0, .int .i64 0, .int .i64 0, .int .i64 0, .int .i64 0, .int .i64 0, .int .i64 0, .int .i64 0, .int .i64 0, .int .i64 0, .int .i64 0, .int .i64 0, .int .i64 0, .int .i64 0, .int .i64 0, .int .i64 0, .int .i64 0, .int .i64 0, .int .i64 0, .int .i64 0, .int .i64 0, .int .i64 0, .int .i64 0, .int .i64 0, .int .i64 0, .int .i64 0, .int .i64 0, .int .i64 0, .int .i64 0, .int .i64 0, .int .i64 0, .int .i64 0, .int .i64 0, .int .i64 0, .int .i64 0, .int .i64 0, .int .i64 0, .int .i64 0, .int .i64 0, .int .i64 0, .int .i64 0, .int .i64 0, .int .i64 0, .int .i64 0, .int .i64 0, .int .i64 0, .int .i64 0, .int .i64 0, .int .i64 0, .int .i64 0, .int .i64 0, .int .i64 0, .int .i64 0, .int .i64 0, .int .i64 0, .int .i64 0, .int .i64 0, .int .i64 0, .int .i64 0, .int .i64 0, .int .i64 0] 73 (unhide N11) (by rw [unhide HZS]; rfl) (by rw [unhide HZS]; kernel_rfl) (sq_one _) ?_
      intro W12 hB12 g12
      have T12 := hide ((unhide T11).wr g12 (by have := (unhide T0).size; omega))
      refine hK.out _ _ (unhide T12) ?_
      clear hK K
      try simp only [Act.put]
      refine wpAnyH_done (by kernel_rfl) (NoPanic.normal ?_) _
      exact unhide REST (W1.heap.size) _ (unhide T12) (by have := (unhide T0).size; omega) hB12
  · go_simp
    have T13 := hide ((unhide T0).new (World.grownBy_alloc W0 (.cells #[.int .i64 0, .int .i64 0, .int .i64 0, .int .i64 0, .int .i64 0, .int .i64 0, .int .i64 0, .int .i64 0, .int .i64 0, .int .i64 0, .int .i64 0, .int .i64 0, .int .i64 0, .int .i64 0, .int .i64 0, .int .i64 0, .int .i64 0, .int .i64 0, .int .i64 0, .int .i64 0, .int .i64 0, .int .i64 0, .int .i64 0, .int .i64 0, .int .i64 0, .int .i64 0, .int .i64 0, .int .i64 0, .int .i64 0, .int .i64 0, .int .i64 0, .int .i64 0, .int .i64 0, .int .i64 0, .int .i64 0, .int .i64 0, .int .i64 0, .int .i64 0, .int .i64 0, .int .i64 0, .int .i64 0, .int .i64 0, .int .i64 0, .int .i64 0, .int .i64 0, .int .i64 0, .int .i64 0, .int .i64 0, .int .i64 0, .int .i64 0, .int .i64 0, .int .i64 0, .int .i64 0, .int .i64 0, .int .i64 0, .int .i64 0, .int .i64 0, .int .i64 0, .int .i64 0, .int .i64 0, .int .i64 0, .int .i64 0, .int .i64 0, .int .i64 0] 73) none))
    have N13 := hide (heap_alloc_new W0 (.cells #[.int .i64 0, .int .i64 0, .int .i64 0, .int .i64 0, .int .i64 0, .int .i64 0, .int .i64 0, .int .i64 0, .int .i64 0, .int .i64 0, .int .i64 0, .int .i64 0, .int .i64 0, .int .i64 0, .int .i64 0, .int .i64 0, .int .i64 0, .int .i64 0, .int .i64 0, .int .i64 0, .int .i64 0, .int .i64 0, .int .i64 0, .int .i64 0, .int .i64 0, .int .i64 0, .int .i64 0, .int .i64 0, .int .i64 0, .int .i64 0, .int .i64 0, .int .i64 0, .int .i64 0, .int .i64 0, .int .i64 0, .int .i64 0, .int .i64 0, .int .i64 0, .int .i64 0, .int .i64 0, .int .i64 0, .int .i64 0, .int .i64 0, .int .i64 0, .int .i64 0, .int .i64 0, .int .i64 0, .int .i64 0, .int .i64 0, .int .i64 0, .int .i64 0, .int .i64 0, .int .i64 0, .int .i64 0, .int .i64 0, .int .i64 0, .int .i64 0, .int .i64 0, .int .i64 0, .int .i64 0, .int .i64 0, .int .i64 0, .int .i64 0, .int .i64 0] 73))
    have s13 : W0.heap.size + 1 ≤ (W0.alloc (.cells #[.int .i64 0, .int .i64 0, .int .i64 0, .int .i64 0, .int .i64 0, .int .i64 0, .int .i64 0, .int .i64 0, .int .i64 0, .int .i64 0, .int .i64 0, .int .i64 0, .int .i64 0, .int .i64 0, .int .i64 0, .int .i64 0, .int .i64 0, .int .i64 0, .int .i64 0, .int .i64 0, .int .i64 0, .int .i64 0, .int .i64 0, .int .i64 0, .int .i64 0, .int .i64 0, .int .i64 0, .int .i64 0, .int .i64 0, .int .i64 0, .int .i64 0, .int .i64 0, .int .i64 0, .int .i64 0, .int .i64 0, .int .i64 0, .int .i64 0, .int .i64 0, .int .i64 0, .int .i64 0, .int .i64 0, .int .i64 0, .int .i64 0, .int .i64 0, .int .i64 0, .int .i64 0, .int .i64 0, .int .i64 0, .int .i64 0, .int .i64 0, .int .i64 0, .int .i64 0, .int .i64 0, .int .i64 0, .int .i64 0, .int .i64 0, .int .i64 0, .int .i64 0, .int .i64 0, .int .i64 0, .int .i64 0, .int .i64 0, .int .i64 0, .int .i64 0] 73)).heap.size := by simp
    refine hK.out _ _ (unhide T13) ?_
    clear hK K
    generalize (W0.alloc (.cells #[.int .i64 0, .int .i64 0, .int .i64 0, .int .i64 0, .int .i64 0, .int .i64 0, .int .i64 0, .int .i64 0, .int .i64 0, .int .i64 0, .int .i64 0, .int .i64 0, .int .i64 0, .int .i64 0, .int .i64 0, .int .i64 0, .int .i64 0, .int .i64 0, .int .i64 0, .int .i64 0, .int .i64 0, .int .i64 0, .int .i64 0, .int .i64 0, .int .i64 0, .int .i64 0, .int .i64 0, .int .i64 0, .int .i64 0, .int .i64 0, .int .i64 0, .int .i64 0, .int .i64 0, .int .i64 0, .int .i64 0, .int .i64 0, .int .i64 0, .int .i64 0, .int .i64 0, .int .i64 0, .int .i64 0, .int .i64 0, .int .i64 0, .int .i64 0, .int .i64 0, .int .i64 0, .int .i64 0, .int .i64 0, .int .i64 0, .int .i64 0, .int .i64 0, .int .i64 0, .int .i64 0, .int .i64 0, .int .i64 0, .int .i64 0, .int .i64 0, .int .i64 0, .int .i64 0, .int .i64 0, .int .i64 0, .int .i64 0, .int .i64 0, .int .i64 0] 73)) = W13 at *
    try simp only [Act.put, List.setIfInBounds_toArray, List.set_cons_zero, List.set_cons_succ]
    refine anyH_step1 (i := 1) rfl (by kernel_rfl) (fun K hK => ?_)
    go_simp
    refine (unhide HT W13).mono ?_
    rintro e W14 ⟨rfl, g14⟩
    have T14 := hide ((unhide T13).new g14)
    have s14 := g14.size
    have N14 := hide (grown_atT g14 (unhide N13) (by simp))
    refine hK.out _ _ (unhide T14) ?_
    clear hK K g14
    try simp only [Act.put, List.setIfInBounds_toArray, List.set_cons_zero, List.set_cons_succ]
    refine anyH_step1 (i := 3) rfl (by kernel_rfl) (fun K hK => ?_)
    go_simp
    refine (unhide HK W14).mono ?_
    rintro e W15 ⟨rfl, g15⟩
    have T15 := hide ((unhide T14).new g15)
    have s15 := g15.size
    have N15 := hide (grown_atT g15 (unhide N14) (by simp))
    refine hK.out _ _ (unhide T15) ?_
    clear hK K g15
    try simp only [Act.put, List.setIfInBounds_toArray, List.set_cons_zero, List.set_cons_succ]
    refine anyH_take1 (i := 4) (v := .func (.func g) #[rv] #[]) rfl (by kernel_rfl) (fun _ _ _ _ _ h => h) (unhide T15) (Or.inl ⟨by rfl, ?_⟩) ?_
    · intro w' hSw
      have hx := fun w => unhide HX w
      go_simp
      try with_reducible rfl
    try simp only [Act.put, List.setIfInBounds_toArray, List.set_cons_zero, List.set_cons_succ]
    refine anyH_step1 (i := 6) rfl (by kernel_rfl) (fun K hK => ?_)
    go_simp
    refine (toZig zs (unhide HZ0) W15).mono ?_
    rintro e W16 ⟨rfl, g16⟩
    have T16 := hide ((unhide T15).new g16)
    have s16 := g16.size
    rw [unhide HZZ]
    have N16 := hide (grown_atT g16 (unhide N15) (by simp))
    refine hK.out _ _ (unhide T16) ?_
    clear hK K g16
    try simp only [Act.put, List.setIfInBounds_toArray, List.set_cons_zero, List.set_cons_succ]
    refine anyH_step1 (i := 8) rfl (by kernel_rfl) (fun K hK => ?_)
    go_simp
    refine hK.out _ _ (unhide T16) ?_
    clear hK K
    try simp only [Act.put, List.setIfInBounds_toArray, List.set_cons_zero, List.set_cons_succ]
    refine anyH_step1 (i := 9) rfl (by kernel_rfl) (fun K hK => ?_)
    refine step_store_row (by rfl) 73 _ _ rfl (W0.heap.size) rfl (sq Z) rfl #[.int .i64 0, .int .i64 0, .int .i64 0, .int .i64 0, .int .i64 0, .int .i64 0, .int .i64 0, .int .i64 0, .int .i64 0, .int .i64 0, .int .i64 0, .int .i64 0, .int .i64 0, .int .i64 0, .int .i64 0, .int .i64 0, .int .i64 0, .int .i64 0, .int .i64 0, .int .i64 0, .int .i64 0, .int .i64 0, .int .i64 0, .int .i64 0, .int .i64 0, .int .i64 0, .int .i64 0, .int .i64 0, .int .i64 0, .int .i64 0, .int .i64 0, .int .i64 0, .int .i64 0, .int .i64 0, .int .i64 0, .int .i64 0, .int .i64 0, .int .i64 0, .int .i64 0, .int .i64 0, .int .i64 0, .int .i64 0, .int .i64 0, .int .i64 0, .int .i64 0, .int .i64 0, .int .i64 0, .int .i64 0, .int .i64 0, .int .i64 0, .int .i64 0, .int .i64 0, .int .i64 0, .int .i64 0, .int .i64 0, .int .i64 0, .int .i64 0, .int .i64 0, .int .i64 0, .int .i64 0, .int .i64 0, .int .i64 0, .int .i64 0, .int .i64 0] 73 (unhide N16) (by rw [unhide HZS]; rfl) (by rw [unhide HZS]; kernel_rfl) (sq_one _) ?_
    intro W17 hB17 g17
    have T17 := hide ((unhide T16).wr g17 (by have := (unhide T0).size; omega))
    refine hK.out _ _ (unhide T17) ?_
    clear hK K
    try simp only [Act.put]
    refine wpAnyH_done (by kernel_rfl) (NoPanic.normal ?_) _
    exact unhide REST (W0.heap.size) _ (unhide T17) (by have := (unhide T0).size; omega) hB17
end Go.Proofs.Ytfgglainjaplgaa

namespace Go.Proofs.Ytfgglainjaplgaa
open Go.RowKit

/-- One number put, by what becomes of it. -/
def stepO (f : Int → Int → Option Int) (k : Nat) (n : Int) (z : List Int) : Option (List Int) := (f (z.getD k 0) n).map fun y => z.set k y
/-- Waves while what was told is put into them, in their box. -/
structure Tp13 (w W : World) (zs : List Int) (sx : Array Value) (b : Nat) (Y : List Int) : Prop where
  tz : Tz w W zs sx 3
  zb : W.heap[b]? = some (.cells (sq Y) 73 (0, 0))
  lo : w.heap.size + 3 ≤ b
  len : Y.length = 64
  lev : ∀ j, j < 64 → -16383 ≤ Y.getD j 0 ∧ Y.getD j 0 ≤ 16383
theorem Tp13.new {w W W' : World} {zs : List Int} {sx : Array Value} {b : Nat} {Y : List Int} (h : Tp13 w W zs sx b Y) (g : W.grownBy W' none) : Tp13 w W' zs sx b Y :=
  ⟨h.tz.new g, grown_atT g h.zb (by simp), h.lo, h.len, h.lev⟩
theorem Tp13.put {w W : World} {zs : List Int} {sx : Array Value} {b : Nat} {Y : List Int} (h : Tp13 w W zs sx b Y) (k : Nat) (y : Int) (hy : -16383 ≤ y ∧ y ≤ 16383) : Tp13 w (W.setCell ⟨b, k, none⟩ (.int .i64 y)) zs sx b (Y.set k y) := by
  have hl := h.len
  refine ⟨h.tz.wr (grown_set W b k _) h.lo, ?_, h.lo, by rw [List.length_set]; exact h.len, fun j hj => ?_⟩
  · rw [heap_setCell_same W b k _ _ _ h.zb]
    congr 2
    unfold sq
    rw [List.map_set]
    simp
  · by_cases e : k = j
    · subst e
      have : (Y.set k y).getD k 0 = y := by simp [hl, hj]
      rw [this]; exact hy
    · have : (Y.set k y).getD j 0 = Y.getD j 0 := by simp [e]
      rw [this]; exact h.lev j hj

set_option maxRecDepth 20000 in
set_option maxHeartbeats 6400000 in
theorem withTold (zs : List Int) (hz : zs.length = 64) (hlv : ∀ j, j < 64 → -16383 ≤ (zigged zs).getD j 0 ∧ (zigged zs).getD j 0 ≤ 16383) (v0 : Value) (cs : List Int) (k0 k1 : Nat) (hi lo : Int) (h1 : k0 ≤ k1) (h2 : k1 ≤ 63) (A : Array Value) (k : Int) (g : Nat) (rv : Value) (f : Int → Int → Option Int)
    (HT : Hid (∀ W, Calls Try.prog 65 #[scV v0 ⟨cs, k0, k1, hi, lo⟩] W fun e w' => e = .returned (.agg A) ∧ W.grownBy w' none))
    (HK : Hid (∀ W, Calls Try.prog 62 #[scV v0 ⟨cs, k0, k1, hi, lo⟩] W fun e w' => e = .returned (.int .i64 k) ∧ W.grownBy w' none))
    (HX : Hid (∀ w, (Instr.index 90 (.agg A) (.int .i64 k)).run Try.prog w = .ok (.func (.func g) #[rv] #[]) w))
    (eg : ∀ args w, (callFunc g args).run Try.prog w = .ok (.enter g args) w)
    (HF : Hid (∀ x t y : Int, f x t = some y → -16383 ≤ y ∧ y ≤ 16383))
    (HC : Hid (∀ x t : Int, -16383 ≤ x ∧ x ≤ 16383 → ∀ W, Calls Try.prog g #[rv, .int .i64 x, .int .i64 t] W fun e W' => ∃ y : Int, (e = .returned (.tuple #[.int .i64 y, .bool (f x t).isSome]) ∧ ((f x t).isSome = true → f x t = some y)) ∧ W.grownBy W' none))
    (bo : Option Addr) (ln lc : Nat) (ls : List Int) (w : World) (hr : Rd .i64 w bo ln ls) (hln : ln ≤ 1048576) (R : Option (List Int)) (HR : Hid ((if (ln : Int) = (k1 : Int) - (k0 : Int) + 1 then putT (stepO f) k0 ls (zigged zs) ln else none) = R)) :
    Calls Try.prog 55 #[.agg (sq zs), scV v0 ⟨cs, k0, k1, hi, lo⟩, .slice bo ln lc] w fun e w' => (∃ ys, e = .returned (.tuple #[.agg (sq ys), .bool R.isSome]) ∧ ys.length = 64 ∧ (∀ z, R = some z → ys = unzigged z)) ∧ w.grownBy w' none := by
  obtain ⟨Z, HZZ⟩ : ∃ Z, Hid (zigged zs = Z) := ⟨_, rfl⟩
  have HZL : Hid (Z.length = 64) := by rw [← unhide HZZ]; exact made_len _
  have HZS : Hid ((sq Z).size = 64) := by unfold Hid; rw [sq_size]; exact unhide HZL
  rw [unhide HZZ] at HR hlv
  have HZ0 := hide hz
  have HLV := hide hlv
  have HRD := hide hr
  unfold scV at HT HK ⊢
  dsimp only at HT HK ⊢
  have TB : Hid (Tz w (((w.alloc (.cells (sq zs) 73)).alloc (.cells #[v0, .int .i64 (k0 : Int), .int .i64 (k1 : Int), .int .i64 hi, .int .i64 lo] 26)).alloc (.cells #[.int .i64 0, .int .i64 0, .int .i64 0, .int .i64 0, .int .i64 0, .int .i64 0, .int .i64 0, .int .i64 0, .int .i64 0, .int .i64 0, .int .i64 0, .int .i64 0, .int .i64 0, .int .i64 0, .int .i64 0, .int .i64 0, .int .i64 0, .int .i64 0, .int .i64 0, .int .i64 0, .int .i64 0, .int .i64 0, .int .i64 0, .int .i64 0, .int .i64 0, .int .i64 0, .int .i64 0, .int .i64 0, .int .i64 0, .int .i64 0, .int .i64 0, .int .i64 0, .int .i64 0, .int .i64 0, .int .i64 0, .int .i64 0, .int .i64 0, .int .i64 0, .int .i64 0, .int .i64 0, .int .i64 0, .int .i64 0, .int .i64 0, .int .i64 0, .int .i64 0, .int .i64 0, .int .i64 0, .int .i64 0, .int .i64 0, .int .i64 0, .int .i64 0, .int .i64 0, .int .i64 0, .int .i64 0, .int .i64 0, .int .i64 0, .int .i64 0, .int .i64 0, .int .i64 0, .int .i64 0, .int .i64 0, .int .i64 0, .int .i64 0, .int .i64 0] 73)) zs #[v0, .int .i64 (k0 : Int), .int .i64 (k1 : Int), .int .i64 hi, .int .i64 lo] 3) := by
    refine ⟨?_, ?_, fun _ => ?_, by simp, by decide, grown_alloc (grown_alloc (World.grownBy_alloc _ _ _) _) _⟩
    · rw [Below.heap_alloc _ _ _ (by simp; omega), Below.heap_alloc _ _ _ (by simp)]
      exact heap_alloc_new w _
    · rw [Below.heap_alloc _ _ _ (by simp)]
      have := heap_alloc_new (w.alloc (.cells (sq zs) 73)) (.cells #[v0, .int .i64 (k0 : Int), .int .i64 (k1 : Int), .int .i64 hi, .int .i64 lo] 26)
      simpa using this
    · have := heap_alloc_new ((w.alloc (.cells (sq zs) 73)).alloc (.cells #[v0, .int .i64 (k0 : Int), .int .i64 (k1 : Int), .int .i64 hi, .int .i64 lo] 26)) (.cells #[.int .i64 0, .int .i64 0, .int .i64 0, .int .i64 0, .int .i64 0, .int .i64 0, .int .i64 0, .int .i64 0, .int .i64 0, .int .i64 0, .int .i64 0, .int .i64 0, .int .i64 0, .int .i64 0, .int .i64 0, .int .i64 0, .int .i64 0, .int .i64 0, .int .i64 0, .int .i64 0, .int .i64 0, .int .i64 0, .int .i64 0, .int .i64 0, .int .i64 0, .int .i64 0, .int .i64 0, .int .i64 0, .int .i64 0, .int .i64 0, .int .i64 0, .int .i64 0, .int .i64 0, .int .i64 0, .int .i64 0, .int .i64 0, .int .i64 0, .int .i64 0, .int .i64 0, .int .i64 0, .int .i64 0, .int .i64 0, .int .i64 0, .int .i64 0, .int .i64 0, .int .i64 0, .int .i64 0, .int .i64 0, .int .i64 0, .int .i64 0, .int .i64 0, .int .i64 0, .int .i64 0, .int .i64 0, .int .i64 0, .int .i64 0, .int .i64 0, .int .i64 0, .int .i64 0, .int .i64 0, .int .i64 0, .int .i64 0, .int .i64 0, .int .i64 0] 73)
      rw [sq_z64]
      simpa using this
  obtain ⟨c0, c1, c2, c3, c4⟩ := scanCells (unhide TB).sb
  have e1 := i64_in ((k1 : Int) - (k0 : Int)) (by omega)
  have e2 := i64_in ((k1 : Int) - (k0 : Int) + 1) (by omega)
  obtain ⟨WB, HWB⟩ : ∃ WB, Hid (((w.alloc (.cells (sq zs) 73)).alloc (.cells #[v0, .int .i64 (k0 : Int), .int .i64 (k1 : Int), .int .i64 hi, .int .i64 lo] 26)).alloc (.cells #[.int .i64 0, .int .i64 0, .int .i64 0, .int .i64 0, .int .i64 0, .int .i64 0, .int .i64 0, .int .i64 0, .int .i64 0, .int .i64 0, .int .i64 0, .int .i64 0, .int .i64 0, .int .i64 0, .int .i64 0, .int .i64 0, .int .i64 0, .int .i64 0, .int .i64 0, .int .i64 0, .int .i64 0, .int .i64 0, .int .i64 0, .int .i64 0, .int .i64 0, .int .i64 0, .int .i64 0, .int .i64 0, .int .i64 0, .int .i64 0, .int .i64 0, .int .i64 0, .int .i64 0, .int .i64 0, .int .i64 0, .int .i64 0, .int .i64 0, .int .i64 0, .int .i64 0, .int .i64 0, .int .i64 0, .int .i64 0, .int .i64 0, .int .i64 0, .int .i64 0, .int .i64 0, .int .i64 0, .int .i64 0, .int .i64 0, .int .i64 0, .int .i64 0, .int .i64 0, .int .i64 0, .int .i64 0, .int .i64 0, .int .i64 0, .int .i64 0, .int .i64 0, .int .i64 0, .int .i64 0, .int .i64 0, .int .i64 0, .int .i64 0, .int .i64 0] 73) = WB) := ⟨_, rfl⟩
  have hr0 := unhide HR
  have NOO : Hid (∀ W, Tz w W zs #[v0, .int .i64 (k0 : Int), .int .i64 (k1 : Int), .int .i64 hi, .int .i64 lo] 3 → R = none → ∀ W', W'.heap[w.heap.size + 2]? = some (.cells #[.int .i64 0, .int .i64 0, .int .i64 0, .int .i64 0, .int .i64 0, .int .i64 0, .int .i64 0, .int .i64 0, .int .i64 0, .int .i64 0, .int .i64 0, .int .i64 0, .int .i64 0, .int .i64 0, .int .i64 0, .int .i64 0, .int .i64 0, .int .i64 0, .int .i64 0, .int .i64 0, .int .i64 0, .int .i64 0, .int .i64 0, .int .i64 0, .int .i64 0, .int .i64 0, .int .i64 0, .int .i64 0, .int .i64 0, .int .i64 0, .int .i64 0, .int .i64 0, .int .i64 0, .int .i64 0, .int .i64 0, .int .i64 0, .int .i64 0, .int .i64 0, .int .i64 0, .int .i64 0, .int .i64 0, .int .i64 0, .int .i64 0, .int .i64 0, .int .i64 0, .int .i64 0, .int .i64 0, .int .i64 0, .int .i64 0, .int .i64 0, .int .i64 0, .int .i64 0, .int .i64 0, .int .i64 0, .int .i64 0, .int .i64 0, .int .i64 0, .int .i64 0, .int .i64 0, .int .i64 0, .int .i64 0, .int .i64 0, .int .i64 0, .int .i64 0] 73 (0, 0)) → W.grownBy W' (some (w.heap.size + 2)) → (∃ ys, Ending.returned (.tuple #[.agg #[.int .i64 0, .int .i64 0, .int .i64 0, .int .i64 0, .int .i64 0, .int .i64 0, .int .i64 0, .int .i64 0, .int .i64 0, .int .i64 0, .int .i64 0, .int .i64 0, .int .i64 0, .int .i64 0, .int .i64 0, .int .i64 0, .int .i64 0, .int .i64 0, .int .i64 0, .int .i64 0, .int .i64 0, .int .i64 0, .int .i64 0, .int .i64 0, .int .i64 0, .int .i64 0, .int .i64 0, .int .i64 0, .int .i64 0, .int .i64 0, .int .i64 0, .int .i64 0, .int .i64 0, .int .i64 0, .int .i64 0, .int .i64 0, .int .i64 0, .int .i64 0, .int .i64 0, .int .i64 0, .int .i64 0, .int .i64 0, .int .i64 0, .int .i64 0, .int .i64 0, .int .i64 0, .int .i64 0, .int .i64 0, .int .i64 0, .int .i64 0, .int .i64 0, .int .i64 0, .int .i64 0, .int .i64 0, .int .i64 0, .int .i64 0, .int .i64 0, .int .i64 0, .int .i64 0, .int .i64 0, .int .i64 0, .int .i64 0, .int .i64 0, .int .i64 0], .bool false]) = .returned (.tuple #[.agg (sq ys), .bool R.isSome]) ∧ ys.length = 64 ∧ (∀ z, R = some z → ys = unzigged z)) ∧ w.grownBy W' none) := fun W hT hR W' _ g => by
    subst hR
    refine ⟨⟨zs64, by rw [sq_z64]; rfl, zs64_len, fun z e => by cases e⟩, grown_new hT.grown g (fun q e => by simp at e; omega)⟩
  clear hz hlv hr HR
  by_cases hlen : (ln : Int) = (k1 : Int) - (k0 : Int) + 1
  · have hq : ((ln : Int) != (k1 : Int) - (k0 : Int) + 1) = false := by simp [hlen]
    rw [if_pos hlen] at hr0
    have HR0 := hide hr0
    have hk64 : k0 + ln ≤ 64 := by omega
    clear hr0 hlen h1 h2
    go_enter Try.func55, Try.ntmps55
    go_wp2
    rename_i K hK
    rw [unhide HWB] at TB
    rw [unhide HWB]
    clear HWB c0 c1 c2 c3 c4 hq
    have REST : Hid (∀ (b : Nat) (Wx : World), Tz w Wx zs #[v0, .int .i64 (k0 : Int), .int .i64 (k1 : Int), .int .i64 hi, .int .i64 lo] 3 → w.heap.size + 3 ≤ b → Wx.heap[b]? = some (.cells (sq Z) 73 (0, 0)) →
        K { tmps := #[.agg (sq zs), .agg #[v0, .int .i64 (k0 : Int), .int .i64 (k1 : Int), .int .i64 hi, .int .i64 lo], .slice bo ln lc, .pointer (some ⟨w.heap.size, 0, none⟩), .pointer (some ⟨w.heap.size + 1, 0, none⟩), undef, .pointer (some ⟨w.heap.size + 2, 0, none⟩), .bool false, .func (.func g) #[rv] #[], .pointer (some ⟨b, 0, none⟩), undef, undef, undef, undef, .slice bo ln lc, .int .i64 (ln : Int), .pointer (some ⟨w.heap.size + 1, 2, none⟩), .int .i64 (k1 : Int), .pointer (some ⟨w.heap.size + 1, 1, none⟩), .int .i64 (k0 : Int), .int .i64 ((k1 : Int) - (k0 : Int)), .int .i64 ((k1 : Int) - (k0 : Int) + 1), .bool false, undef, .agg #[v0, .int .i64 (k0 : Int), .int .i64 (k1 : Int), .int .i64 hi, .int .i64 lo], .agg A, .agg #[v0, .int .i64 (k0 : Int), .int .i64 (k1 : Int), .int .i64 hi, .int .i64 lo], .int .i64 k, .func (.func g) #[rv] #[], .agg (sq zs), .agg (sq Z), undef, undef, undef, undef, undef, undef, undef, undef, undef, undef, undef, undef, undef, undef, undef, undef, undef, undef, undef, undef, undef, undef, undef, undef, undef, undef, undef, undef, undef, undef, undef], defers := [] } Wx) := by
      intro b Wx hT hb hZb
      refine hK _ _ ?_
      clear hK TB
      have HF0 : Hid (Tp13 w Wx zs #[v0, .int .i64 (k0 : Int), .int .i64 (k1 : Int), .int .i64 hi, .int .i64 lo] b Z) := ⟨hT, hZb, hb, unhide HZL, unhide HLV⟩
      clear hT hZb
      go_wp2
      go_loopw [33] (fun iv wr => ∃ (j : Nat) (Y : List Int), j ≤ ln ∧ iv = .int .i64 (j : Int) ∧ Hid (putT (stepO f) k0 ls Z j = some Y) ∧ Hid (Tp13 w wr zs #[v0, .int .i64 (k0 : Int), .int .i64 (k1 : Int), .int .i64 hi, .int .i64 lo] b Y)) (fun iv _ => ln - (intOf iv).toNat)
      case atStart => exact ⟨0, Z, Nat.zero_le _, rfl, rfl, HF0⟩
      case round =>
        clear HF0
        obtain ⟨j, Y, hj, rfl, hP, hF⟩ := hrel
        by_cases hlt : j < ln
        · obtain ⟨rb, roff, rfl, hcb⟩ := (unhide HRD).2 j hlt
          have hcell := (unhide hF).tz.grown.cell hcb (by simp)
          have hkj : k0 + j < 64 := by omega
          have hwave := sq_cell (unhide hF).zb (k0 + j) (by rw [(unhide hF).len]; omega)
          have hlevj := (unhide hF).lev (k0 + j) hkj
          have HNX := hide (putT_next (unhide hP))
          have HST : Hid (stepO f (k0 + j) (ls.getD j 0) Y = (f (Y.getD (k0 + j) 0) (ls.getD j 0)).map fun y => Y.set (k0 + j) y) := rfl
          have HCJ := hide (unhide HC (Y.getD (k0 + j) 0) (ls.getD j 0) hlevj)
          have HFJ := hide (unhide HF (Y.getD (k0 + j) 0) (ls.getD j 0))
          generalize ls.getD j 0 = tv at hcell HNX HST HCJ HFJ
          generalize Y.getD (k0 + j) 0 = zv at hwave HST HCJ HFJ hlevj
          obtain ⟨fo, HFO⟩ : ∃ fo, Hid (f zv tv = fo) := ⟨_, rfl⟩
          rw [unhide HFO] at HST HCJ HFJ
          have hi1 : (j : Int) < (ln : Int) := by omega
          have e5 := i64_in ((k0 : Int) + (j : Int)) (by omega)
          have e6 : ((k0 : Int) + (j : Int)) = ((k0 + j : Nat) : Int) := by omega
          have e7 : (0 : Int) ≤ (k0 : Int) + (j : Int) := by omega
          have e8 : (k0 : Int) + (j : Int) < 64 := by omega
          have e9 : ((k0 : Int) + (j : Int)).toNat = k0 + j := by omega
          obtain ⟨c0, c1, c2, c3, c4⟩ := scanCells (unhide hF).tz.sb
          clear HFO hcb e6
          go_wp2_with fail
          refine (unhide HCJ wr).mono ?_
          rintro e w3 ⟨y, ⟨rfl, hy⟩, g3⟩
          have HF3 := hide ((unhide hF).new g3)
          clear hF c0 c1 c2 c3 c4 hcell hwave HCJ g3
          cases fo with
          | none =>
            have hRN : R = none := by
              rw [← unhide HR0]
              exact putT_none (by rw [unhide HNX, unhide HST]; rfl) ln (by omega)
            have HNO := hide (unhide NOO w3 (unhide HF3).tz hRN)
            have HRB := hide ((unhide HF3).tz.rb rfl)
            clear hy HFJ hRN
            go_wp2_with (refine store_row rfl 73 _ _ rfl (w.heap.size + 2) rfl #[.int .i64 0, .int .i64 0, .int .i64 0, .int .i64 0, .int .i64 0, .int .i64 0, .int .i64 0, .int .i64 0, .int .i64 0, .int .i64 0, .int .i64 0, .int .i64 0, .int .i64 0, .int .i64 0, .int .i64 0, .int .i64 0, .int .i64 0, .int .i64 0, .int .i64 0, .int .i64 0, .int .i64 0, .int .i64 0, .int .i64 0, .int .i64 0, .int .i64 0, .int .i64 0, .int .i64 0, .int .i64 0, .int .i64 0, .int .i64 0, .int .i64 0, .int .i64 0, .int .i64 0, .int .i64 0, .int .i64 0, .int .i64 0, .int .i64 0, .int .i64 0, .int .i64 0, .int .i64 0, .int .i64 0, .int .i64 0, .int .i64 0, .int .i64 0, .int .i64 0, .int .i64 0, .int .i64 0, .int .i64 0, .int .i64 0, .int .i64 0, .int .i64 0, .int .i64 0, .int .i64 0, .int .i64 0, .int .i64 0, .int .i64 0, .int .i64 0, .int .i64 0, .int .i64 0, .int .i64 0, .int .i64 0, .int .i64 0, .int .i64 0, .int .i64 0] rfl (sq zs64) 73 (unhide HRB) (by rw [sq_size, zs64_len]; rfl) (by kernel_rfl) z64_one ?_; intro w6 hB6 g6)
            refine bodyPost_ret (v := .tuple #[.agg #[.int .i64 0, .int .i64 0, .int .i64 0, .int .i64 0, .int .i64 0, .int .i64 0, .int .i64 0, .int .i64 0, .int .i64 0, .int .i64 0, .int .i64 0, .int .i64 0, .int .i64 0, .int .i64 0, .int .i64 0, .int .i64 0, .int .i64 0, .int .i64 0, .int .i64 0, .int .i64 0, .int .i64 0, .int .i64 0, .int .i64 0, .int .i64 0, .int .i64 0, .int .i64 0, .int .i64 0, .int .i64 0, .int .i64 0, .int .i64 0, .int .i64 0, .int .i64 0, .int .i64 0, .int .i64 0, .int .i64 0, .int .i64 0, .int .i64 0, .int .i64 0, .int .i64 0, .int .i64 0, .int .i64 0, .int .i64 0, .int .i64 0, .int .i64 0, .int .i64 0, .int .i64 0, .int .i64 0, .int .i64 0, .int .i64 0, .int .i64 0, .int .i64 0, .int .i64 0, .int .i64 0, .int .i64 0, .int .i64 0, .int .i64 0, .int .i64 0, .int .i64 0, .int .i64 0, .int .i64 0, .int .i64 0, .int .i64 0, .int .i64 0, .int .i64 0], .bool false]) ?_ rfl (unhide HNO w6 hB6 g6)
            exact results_c2 (p := 6) (q := 7) (ty := 73) rfl _ _ _ (w.heap.size + 2) rfl _ (run_loadVar_row w6 _ 73 73 _ (0, 0) _ hB6 Try.underlying73 rfl (by kernel_rfl))
          | some y0 =>
            obtain rfl : y0 = y := by have := hy rfl; exact Option.some.inj this
            have HF4 := hide ((unhide HF3).put (k0 + j) y0 (unhide HFJ y0 rfl))
            have HP4 : Hid (putT (stepO f) k0 ls Z (j + 1) = some (Y.set (k0 + j) y0)) := by unfold Hid; rw [unhide HNX, unhide HST]; rfl
            have hw4 := sq_cell (unhide HF3).zb (k0 + j) (by rw [(unhide HF3).len]; omega)
            have hf4 := sq_frozen (unhide HF3).zb (k0 + j)
            obtain ⟨c0, c1, c2, c3, c4⟩ := scanCells (unhide HF3).tz.sb
            clear hy HFJ HST HNX HF3
            go_wp2
            go_roundw
            case rel => exact ⟨j + 1, _, by omega, by go_num, HP4, HF4⟩
            case measure => simp [intOf]; omega
        · obtain rfl : j = ln := by omega
          have hRS : R = some Y := by rw [← unhide HR0]; exact unhide hP
          have HYS : Hid ((sq Y).size = 64) := by unfold Hid; rw [sq_size]; exact (unhide hF).len
          have HYL := hide (unhide hF).len
          have HZB := hide (unhide hF).zb
          have HUL : Hid ((sq (unzigged Y)).size = 64) := by unfold Hid; rw [sq_size]; exact made_len _
          have HUF := hide (fromZig Y (unhide HYL) wr)
          have hTF := hF
          clear hP hF
          go_wp2_with (refine load_row rfl 73 _ rfl b rfl (sq Y) 73 (unhide HZB) _ Try.underlying73 rfl (by rw [unhide HYS]; kernel_rfl) ?_)
          refine (unhide HUF).mono ?_
          rintro e w5 ⟨rfl, g5⟩
          have HT5 := hide ((unhide hTF).tz.new g5)
          have HRB := hide ((unhide HT5).rb rfl)
          clear g5 HUF hTF HZB
          go_wp2_with (refine store_row rfl 73 _ _ rfl (w.heap.size + 2) rfl (sq (unzigged Y)) rfl (sq zs64) 73 (unhide HRB) (by rw [unhide HUL, sq_size, zs64_len]) (by rw [unhide HUL]; kernel_rfl) (sq_one _) ?_; intro w6 hB6 g6)
          refine bodyPost_ret (v := .tuple #[.agg (sq (unzigged Y)), .bool true]) ?_ rfl ⟨⟨unzigged Y, by rw [hRS]; rfl, made_len _, fun z e => by rw [hRS] at e; rw [Option.some.inj e]⟩, grown_new (unhide HT5).grown g6 (fun q e => by simp at e; omega)⟩
          exact results_c2 (p := 6) (q := 7) (ty := 73) rfl _ _ _ (w.heap.size + 2) rfl _ (run_loadVar_row w6 _ 73 73 _ (0, 0) _ hB6 Try.underlying73 rfl (by rw [unhide HUL]; kernel_rfl))
    clear hK
    refine wp_region_noPanic ?_
    have T0 := hide ((unhide TB).new (grown_drew (World.grownBy.refl WB none)))
    clear TB
    refine wp_region_raw (fun W => Tz w W zs #[v0, .int .i64 (k0 : Int), .int .i64 (k1 : Int), .int .i64 hi, .int .i64 lo] 3) [true, false, true, false, false, true, false, false, false, false] (by kernel_rfl) (fun _ _ _ _ _ h => h) rfl (by kernel_rfl) (unhide T0) ?_
    generalize WB.drew = W0 at *
    refine heldF_take (v := .agg #[v0, .int .i64 (k0 : Int), .int .i64 (k1 : Int), .int .i64 hi, .int .i64 lo]) (Or.inl ⟨by rfl, ?_⟩) ?_
    · intro w' hSw
      exact exec_row 26 _ rfl (w.heap.size + 1) rfl #[v0, .int .i64 (k0 : Int), .int .i64 (k1 : Int), .int .i64 hi, .int .i64 lo] 26 hSw.sb _ Try.underlying26 rfl (by kernel_rfl)
    try simp only [Act.put, List.setIfInBounds_toArray, List.set_cons_zero, List.set_cons_succ]
    refine heldF_skip ?_
    refine heldF_take (v := .agg #[v0, .int .i64 (k0 : Int), .int .i64 (k1 : Int), .int .i64 hi, .int .i64 lo]) (Or.inl ⟨by rfl, ?_⟩) ?_
    · intro w' hSw
      exact exec_row 26 _ rfl (w.heap.size + 1) rfl #[v0, .int .i64 (k0 : Int), .int .i64 (k1 : Int), .int .i64 hi, .int .i64 lo] 26 hSw.sb _ Try.underlying26 rfl (by kernel_rfl)
    try simp only [Act.put, List.setIfInBounds_toArray, List.set_cons_zero, List.set_cons_succ]
    refine heldF_skip ?_
    refine heldF_skip ?_
    refine heldF_take (v := .agg (sq zs)) (Or.inl ⟨by rfl, ?_⟩) ?_
    · intro w' hSw
      exact exec_row 73 _ rfl w.heap.size rfl (sq zs) 73 hSw.qb _ Try.underlying73 rfl (by rw [sq_size, unhide HZ0]; kernel_rfl)
    try simp only [Act.put, List.setIfInBounds_toArray, List.set_cons_zero, List.set_cons_succ]
    refine heldF_skip (heldF_skip (heldF_skip (heldF_skip (heldF_nil ?_))))
    refine anyH_step2 (i := 1) (j := 7) rfl rfl (by kernel_rfl) (fun K hK => ?_) (fun K hK => ?_)
    · go_simp
      refine (unhide HT W0).mono ?_
      rintro e W1 ⟨rfl, g1⟩
      have T1 := hide ((unhide T0).new g1)
      have s1 := g1.size
      refine hK.out _ _ (unhide T1) ?_
      clear hK K g1
      try simp only [Act.put, List.setIfInBounds_toArray, List.set_cons_zero, List.set_cons_succ]
      refine anyH_step2 (i := 3) (j := 7) rfl rfl (by kernel_rfl) (fun K hK => ?_) (fun K hK => ?_)
      · go_simp
        refine (unhide HK W1).mono ?_
        rintro e W2 ⟨rfl, g2⟩
        have T2 := hide ((unhide T1).new g2)
        have s2 := g2.size
        refine hK.out _ _ (unhide T2) ?_
        clear hK K g2
        try simp only [Act.put, List.setIfInBounds_toArray, List.set_cons_zero, List.set_cons_succ]
        refine anyH_take1 (i := 4) (v := .func (.func g) #[rv] #[]) rfl (by kernel_rfl) (fun _ _ _ _ _ h => h) (unhide T2) (Or.inl ⟨by rfl, ?_⟩) ?_
        · intro w' hSw
          have hx := fun w => unhide HX w
          go_simp
          try with_reducible rfl
        try simp only [Act.put, List.setIfInBounds_toArray, List.set_cons_zero, List.set_cons_succ]
        refine anyH_step2 (i := 6) (j := 7) rfl rfl (by kernel_rfl) (fun K hK => ?_) (fun K hK => ?_)
        · go_simp
          refine (toZig zs (unhide HZ0) W2).mono ?_
          rintro e W3 ⟨rfl, g3⟩
          have T3 := hide ((unhide T2).new g3)
          have s3 := g3.size
          rw [unhide HZZ]
          refine hK.out _ _ (unhide T3) ?_
          clear hK K g3
          try simp only [Act.put, List.setIfInBounds_toArray, List.set_cons_zero, List.set_cons_succ]
          refine anyH_step1 (i := 7) rfl (by kernel_rfl) (fun K hK => ?_)
          go_simp
          have T4 := hide ((unhide T3).new (World.grownBy_alloc W3 (.cells #[.int .i64 0, .int .i64 0, .int .i64 0, .int .i64 0, .int .i64 0, .int .i64 0, .int .i64 0, .int .i64 0, .int .i64 0, .int .i64 0, .int .i64 0, .int .i64 0, .int .i64 0, .int .i64 0, .int .i64 0, .int .i64 0, .int .i64 0, .int .i64 0, .int .i64 0, .int .i64 0, .int .i64 0, .int .i64 0, .int .i64 0, .int .i64 0, .int .i64 0, .int .i64 0, .int .i64 0, .int .i64 0, .int .i64 0, .int .i64 0, .int .i64 0, .int .i64 0, .int .i64 0, .int .i64 0, .int .i64 0, .int .i64 0, .int .i64 0, .int .i64 0, .int .i64 0, .int .i64 0, .int .i64 0, .int .i64 0, .int .i64 0, .int .i64 0, .int .i64 0, .int .i64 0, .int .i64 0, .int .i64 0, .int .i64 0, .int .i64 0, .int .i64 0, .int .i64 0, .int .i64 0, .int .i64 0, .int .i64 0, .int .i64 0, .int .i64 0, .int .i64 0, .int .i64 0, .int .i64 0, .int .i64 0, .int .i64 0, .int .i64 0, .int .i64 0] 73) none))
          have N4 := hide (heap_alloc_new W3 (.cells #[.int .i64 0, .int .i64 0, .int .i64 0, .int .i64 0, .int .i64 0, .int .i64 0, .int .i64 0, .int .i64 0, .int .i64 0, .int .i64 0, .int .i64 0, .int .i64 0, .int .i64 0, .int .i64 0, .int .i64 0, .int .i64 0, .int .i64 0, .int .i64 0, .int .i64 0, .int .i64 0, .int .i64 0, .int .i64 0, .int .i64 0, .int .i64 0, .int .i64 0, .int .i64 0, .int .i64 0, .int .i64 0, .int .i64 0, .int .i64 0, .int .i64 0, .int .i64 0, .int .i64 0, .int .i64 0, .int .i64 0, .int .i64 0, .int .i64 0, .int .i64 0, .int .i64 0, .int .i64 0, .int .i64 0, .int .i64 0, .int .i64 0, .int .i64 0, .int .i64 0, .int .i64 0, .int .i64 0, .int .i64 0, .int .i64 0, .int .i64 0, .int .i64 0, .int .i64 0, .int .i64 0, .int .i64 0, .int .i64 0, .int .i64 0, .int .i64 0, .int .i64 0, .int .i64 0, .int .i64 0, .int .i64 0, .int .i64 0, .int .i64 0, .int .i64 0] 73))
          have s4 : W3.heap.size + 1 ≤ (W3.alloc (.cells #[.int .i64 0, .int .i64 0, .int .i64 0, .int .i64 0, .int .i64 0, .int .i64 0, .int .i64 0, .int .i64 0, .int .i64 0, .int .i64 0, .int .i64 0, .int .i64 0, .int .i64 0, .int .i64 0, .int .i64 0, .int .i64 0, .int .i64 0, .int .i64 0, .int .i64 0, .int .i64 0, .int .i64 0, .int .i64 0, .int .i64 0, .int .i64 0, .int .i64 0, .int .i64 0, .int .i64 0, .int .i64 0, .int .i64 0, .int .i64 0, .int .i64 0, .int .i64 0, .int .i64 0, .int .i64 0, .int .i64 0, .int .i64 0, .int .i64 0, .int .i64 0, .int .i64 0, .int .i64 0, .int .i64 0, .int .i64 0, .int .i64 0, .int .i64 0, .int .i64 0, .int .i64 0, .int .i64 0, .int .i64 0, .int .i64 0, .int .i64 0, .int .i64 0, .int .i64 0, .int .i64 0, .int .i64 0, .int .i64 0, .int .i64 0, .int .i64 0, .int .i64 0, .int .i64 0, .int .i64 0, .int .i64 0, .int .i64 0, .int .i64 0, .int .i64 0] 73)).heap.size := by simp
          refine hK.out _ _ (unhide T4) ?_
          clear hK K
          generalize (W3.alloc (.cells #[.int .i64 0, .int .i64 0, .int .i64 0, .int .i64 0, .int .i64 0, .int .i64 0, .int .i64 0, .int .i64 0, .int .i64 0, .int .i64 0, .int .i64 0, .int .i64 0, .int .i64 0, .int .i64 0, .int .i64 0, .int .i64 0, .int .i64 0, .int .i64 0, .int .i64 0, .int .i64 0, .int .i64 0, .int .i64 0, .int .i64 0, .int .i64 0, .int .i64 0, .int .i64 0, .int .i64 0, .int .i64 0, .int .i64 0, .int .i64 0, .int .i64 0, .int .i64 0, .int .i64 0, .int .i64 0, .int .i64 0, .int .i64 0, .int .i64 0, .int .i64 0, .int .i64 0, .int .i64 0, .int .i64 0, .int .i64 0, .int .i64 0, .int .i64 0, .int .i64 0, .int .i64 0, .int .i64 0, .int .i64 0, .int .i64 0, .int .i64 0, .int .i64 0, .int .i64 0, .int .i64 0, .int .i64 0, .int .i64 0, .int .i64 0, .int .i64 0, .int .i64 0, .int .i64 0, .int .i64 0, .int .i64 0, .int .i64 0, .int .i64 0, .int .i64 0] 73)) = W4 at *
          try simp only [Act.put, List.setIfInBounds_toArray, List.set_cons_zero, List.set_cons_succ]
          refine anyH_step1 (i := 8) rfl (by kernel_rfl) (fun K hK => ?_)
          go_simp
          refine hK.out _ _ (unhide T4) ?_
          clear hK K
          try simp only [Act.put, List.setIfInBounds_toArray, List.set_cons_zero, List.set_cons_succ]
          refine anyH_step1 (i := 9) rfl (by kernel_rfl) (fun K hK => ?_)
          refine step_store_row (by rfl) 73 _ _ rfl (W3.heap.size) rfl (sq Z) rfl #[.int .i64 0, .int .i64 0, .int .i64 0, .int .i64 0, .int .i64 0, .int .i64 0, .int .i64 0, .int .i64 0, .int .i64 0, .int .i64 0, .int .i64 0, .int .i64 0, .int .i64 0, .int .i64 0, .int .i64 0, .int .i64 0, .int .i64 0, .int .i64 0, .int .i64 0, .int .i64 0, .int .i64 0, .int .i64 0, .int .i64 0, .int .i64 0, .int .i64 0, .int .i64 0, .int .i64 0, .int .i64 0, .int .i64 0, .int .i64 0, .int .i64 0, .int .i64 0, .int .i64 0, .int .i64 0, .int .i64 0, .int .i64 0, .int .i64 0, .int .i64 0, .int .i64 0, .int .i64 0, .int .i64 0, .int .i64 0, .int .i64 0, .int .i64 0, .int .i64 0, .int .i64 0, .int .i64 0, .int .i64 0, .int .i64 0, .int .i64 0, .int .i64 0, .int .i64 0, .int .i64 0, .int .i64 0, .int .i64 0, .int .i64 0, .int .i64 0, .int .i64 0, .int .i64 0, .int .i64 0, .int .i64 0, .int .i64 0, .int .i64 0, .int .i64 0] 73 (unhide N4) (by rw [unhide HZS]; rfl) (by rw [unhide HZS]; kernel_rfl) (sq_one _) ?_
          intro W5 hB5 g5
          have T5 := hide ((unhide T4).wr g5 (by have := (unhide T0).size; omega))
          refine hK.out _ _ (unhide T5) ?_
          clear hK K
          try simp only [Act.put]
          refine wpAnyH_done (by kernel_rfl) (NoPanic.normal ?_) _
          exact unhide REST (W3.heap.size) _ (unhide T5) (by have := (unhide T0).size; omega) hB5
        · go_simp
          have T6 := hide ((unhide T2).new (World.grownBy_alloc W2 (.cells #[.int .i64 0, .int .i64 0, .int .i64 0, .int .i64 0, .int .i64 0, .int .i64 0, .int .i64 0, .int .i64 0, .int .i64 0, .int .i64 0, .int .i64 0, .int .i64 0, .int .i64 0, .int .i64 0, .int .i64 0, .int .i64 0, .int .i64 0, .int .i64 0, .int .i64 0, .int .i64 0, .int .i64 0, .int .i64 0, .int .i64 0, .int .i64 0, .int .i64 0, .int .i64 0, .int .i64 0, .int .i64 0, .int .i64 0, .int .i64 0, .int .i64 0, .int .i64 0, .int .i64 0, .int .i64 0, .int .i64 0, .int .i64 0, .int .i64 0, .int .i64 0, .int .i64 0, .int .i64 0, .int .i64 0, .int .i64 0, .int .i64 0, .int .i64 0, .int .i64 0, .int .i64 0, .int .i64 0, .int .i64 0, .int .i64 0, .int .i64 0, .int .i64 0, .int .i64 0, .int .i64 0, .int .i64 0, .int .i64 0, .int .i64 0, .int .i64 0, .int .i64 0, .int .i64 0, .int .i64 0, .int .i64 0, .int .i64 0, .int .i64 0, .int .i64 0] 73) none))
          have N6 := hide (heap_alloc_new W2 (.cells #[.int .i64 0, .int .i64 0, .int .i64 0, .int .i64 0, .int .i64 0, .int .i64 0, .int .i64 0, .int .i64 0, .int .i64 0, .int .i64 0, .int .i64 0, .int .i64 0, .int .i64 0, .int .i64 0, .int .i64 0, .int .i64 0, .int .i64 0, .int .i64 0, .int .i64 0, .int .i64 0, .int .i64 0, .int .i64 0, .int .i64 0, .int .i64 0, .int .i64 0, .int .i64 0, .int .i64 0, .int .i64 0, .int .i64 0, .int .i64 0, .int .i64 0, .int .i64 0, .int .i64 0, .int .i64 0, .int .i64 0, .int .i64 0, .int .i64 0, .int .i64 0, .int .i64 0, .int .i64 0, .int .i64 0, .int .i64 0, .int .i64 0, .int .i64 0, .int .i64 0, .int .i64 0, .int .i64 0, .int .i64 0, .int .i64 0, .int .i64 0, .int .i64 0, .int .i64 0, .int .i64 0, .int .i64 0, .int .i64 0, .int .i64 0, .int .i64 0, .int .i64 0, .int .i64 0, .int .i64 0, .int .i64 0, .int .i64 0, .int .i64 0, .int .i64 0] 73))
          have s6 : W2.heap.size + 1 ≤ (W2.alloc (.cells #[.int .i64 0, .int .i64 0, .int .i64 0, .int .i64 0, .int .i64 0, .int .i64 0, .int .i64 0, .int .i64 0, .int .i64 0, .int .i64 0, .int .i64 0, .int .i64 0, .int .i64 0, .int .i64 0, .int .i64 0, .int .i64 0, .int .i64 0, .int .i64 0, .int .i64 0, .int .i64 0, .int .i64 0, .int .i64 0, .int .i64 0, .int .i64 0, .int .i64 0, .int .i64 0, .int .i64 0, .int .i64 0, .int .i64 0, .int .i64 0, .int .i64 0, .int .i64 0, .int .i64 0, .int .i64 0, .int .i64 0, .int .i64 0, .int .i64 0, .int .i64 0, .int .i64 0, .int .i64 0, .int .i64 0, .int .i64 0, .int .i64 0, .int .i64 0, .int .i64 0, .int .i64 0, .int .i64 0, .int .i64 0, .int .i64 0, .int .i64 0, .int .i64 0, .int .i64 0, .int .i64 0, .int .i64 0, .int .i64 0, .int .i64 0, .int .i64 0, .int .i64 0, .int .i64 0, .int .i64 0, .int .i64 0, .int .i64 0, .int .i64 0, .int .i64 0] 73)).heap.size := by simp
          refine hK.out _ _ (unhide T6) ?_
          clear hK K
          generalize (W2.alloc (.cells #[.int .i64 0, .int .i64 0, .int .i64 0, .int .i64 0, .int .i64 0, .int .i64 0, .int .i64 0, .int .i64 0, .int .i64 0, .int .i64 0, .int .i64 0, .int .i64 0, .int .i64 0, .int .i64 0, .int .i64 0, .int .i64 0, .int .i64 0, .int .i64 0, .int .i64 0, .int .i64 0, .int .i64 0, .int .i64 0, .int .i64 0, .int .i64 0, .int .i64 0, .int .i64 0, .int .i64 0, .int .i64 0, .int .i64 0, .int .i64 0, .int .i64 0, .int .i64 0, .int .i64 0, .int .i64 0, .int .i64 0, .int .i64 0, .int .i64 0, .int .i64 0, .int .i64 0, .int .i64 0, .int .i64 0, .int .i64 0, .int .i64 0, .int .i64 0, .int .i64 0, .int .i64 0, .int .i64 0, .int .i64 0, .int .i64 0, .int .i64 0, .int .i64 0, .int .i64 0, .int .i64 0, .int .i64 0, .int .i64 0, .int .i64 0, .int .i64 0, .int .i64 0, .int .i64 0, .int .i64 0, .int .i64 0, .int .i64 0, .int .i64 0, .int .i64 0] 73)) = W6 at *
          try simp only [Act.put, List.setIfInBounds_toArray, List.set_cons_zero, List.set_cons_succ]
          refine anyH_step1 (i := 6) rfl (by kernel_rfl) (fun K hK => ?_)
          go_simp
          refine (toZig zs (unhide HZ0) W6).mono ?_
          rintro e W7 ⟨rfl, g7⟩
          have T7 := hide ((unhide T6).new g7)
          have s7 := g7.size
          rw [unhide HZZ]
          have N7 := hide (grown_atT g7 (unhide N6) (by simp))
          refine hK.out _ _ (unhide T7) ?_
          clear hK K g7
          try simp only [Act.put, List.setIfInBounds_toArray, List.set_cons_zero, List.set_cons_succ]
          refine anyH_step1 (i := 8) rfl (by kernel_rfl) (fun K hK => ?_)
          go_simp
          refine hK.out _ _ (unhide T7) ?_
          clear hK K
          try simp only [Act.put, List.setIfInBounds_toArray, List.set_cons_zero, List.set_cons_succ]
          refine anyH_step1 (i := 9) rfl (by kernel_rfl) (fun K hK => ?_)
          refine step_store_row (by rfl) 73 _ _ rfl (W2.heap.size) rfl (sq Z) rfl #[.int .i64 0, .int .i64 0, .int .i64 0, .int .i64 0, .int .i64 0, .int .i64 0, .int .i64 0, .int .i64 0, .int .i64 0, .int .i64 0, .int .i64 0, .int .i64 0, .int .i64 0, .int .i64 0, .int .i64 0, .int .i64 0, .int .i64 0, .int .i64 0, .int .i64 0, .int .i64 0, .int .i64 0, .int .i64 0, .int .i64 0, .int .i64 0, .int .i64 0, .int .i64 0, .int .i64 0, .int .i64 0, .int .i64 0, .int .i64 0, .int .i64 0, .int .i64 0, .int .i64 0, .int .i64 0, .int .i64 0, .int .i64 0, .int .i64 0, .int .i64 0, .int .i64 0, .int .i64 0, .int .i64 0, .int .i64 0, .int .i64 0, .int .i64 0, .int .i64 0, .int .i64 0, .int .i64 0, .int .i64 0, .int .i64 0, .int .i64 0, .int .i64 0, .int .i64 0, .int .i64 0, .int .i64 0, .int .i64 0, .int .i64 0, .int .i64 0, .int .i64 0, .int .i64 0, .int .i64 0, .int .i64 0, .int .i64 0, .int .i64 0, .int .i64 0] 73 (unhide N7) (by rw [unhide HZS]; rfl) (by rw [unhide HZS]; kernel_rfl) (sq_one _) ?_
          intro W8 hB8 g8
          have T8 := hide ((unhide T7).wr g8 (by have := (unhide T0).size; omega))
          refine hK.out _ _ (unhide T8) ?_
          clear hK K
          try simp only [Act.put]
          refine wpAnyH_done (by kernel_rfl) (NoPanic.normal ?_) _
          exact unhide REST (W2.heap.size) _ (unhide T8) (by have := (unhide T0).size; omega) hB8
      · go_simp
        have T9 := hide ((unhide T1).new (World.grownBy_alloc W1 (.cells #[.int .i64 0, .int .i64 0, .int .i64 0, .int .i64 0, .int .i64 0, .int .i64 0, .int .i64 0, .int .i64 0, .int .i64 0, .int .i64 0, .int .i64 0, .int .i64 0, .int .i64 0, .int .i64 0, .int .i64 0, .int .i64 0, .int .i64 0, .int .i64 0, .int .i64 0, .int .i64 0, .int .i64 0, .int .i64 0, .int .i64 0, .int .i64 0, .int .i64 0, .int .i64 0, .int .i64 0, .int .i64 0, .int .i64 0, .int .i64 0, .int .i64 0, .int .i64 0, .int .i64 0, .int .i64 0, .int .i64 0, .int .i64 0, .int .i64 0, .int .i64 0, .int .i64 0, .int .i64 0, .int .i64 0, .int .i64 0, .int .i64 0, .int .i64 0, .int .i64 0, .int .i64 0, .int .i64 0, .int .i64 0, .int .i64 0, .int .i64 0, .int .i64 0, .int .i64 0, .int .i64 0, .int .i64 0, .int .i64 0, .int .i64 0, .int .i64 0, .int .i64 0, .int .i64 0, .int .i64 0, .int .i64 0, .int .i64 0, .int .i64 0, .int .i64 0] 73) none))
        have N9 := hide (heap_alloc_new W1 (.cells #[.int .i64 0, .int .i64 0, .int .i64 0, .int .i64 0, .int .i64 0, .int .i64 0, .int .i64 0, .int .i64 0, .int .i64 0, .int .i64 0, .int .i64 0, .int .i64 0, .int .i64 0, .int .i64 0, .int .i64 0, .int .i64 0, .int .i64 0, .int .i64 0, .int .i64 0, .int .i64 0, .int .i64 0, .int .i64 0, .int .i64 0, .int .i64 0, .int .i64 0, .int .i64 0, .int .i64 0, .int .i64 0, .int .i64 0, .int .i64 0, .int .i64 0, .int .i64 0, .int .i64 0, .int .i64 0, .int .i64 0, .int .i64 0, .int .i64 0, .int .i64 0, .int .i64 0, .int .i64 0, .int .i64 0, .int .i64 0, .int .i64 0, .int .i64 0, .int .i64 0, .int .i64 0, .int .i64 0, .int .i64 0, .int .i64 0, .int .i64 0, .int .i64 0, .int .i64 0, .int .i64 0, .int .i64 0, .int .i64 0, .int .i64 0, .int .i64 0, .int .i64 0, .int .i64 0, .int .i64 0, .int .i64 0, .int .i64 0, .int .i64 0, .int .i64 0] 73))
        have s9 : W1.heap.size + 1 ≤ (W1.alloc (.cells #[.int .i64 0, .int .i64 0, .int .i64 0, .int .i64 0, .int .i64 0, .int .i64 0, .int .i64 0, .int .i64 0, .int .i64 0, .int .i64 0, .int .i64 0, .int .i64 0, .int .i64 0, .int .i64 0, .int .i64 0, .int .i64 0, .int .i64 0, .int .i64 0, .int .i64 0, .int .i64 0, .int .i64 0, .int .i64 0, .int .i64 0, .int .i64 0, .int .i64 0, .int .i64 0, .int .i64 0, .int .i64 0, .int .i64 0, .int .i64 0, .int .i64 0, .int .i64 0, .int .i64 0, .int .i64 0, .int .i64 0, .int .i64 0, .int .i64 0, .int .i64 0, .int .i64 0, .int .i64 0, .int .i64 0, .int .i64 0, .int .i64 0, .int .i64 0, .int .i64 0, .int .i64 0, .int .i64 0, .int .i64 0, .int .i64 0, .int .i64 0, .int .i64 0, .int .i64 0, .int .i64 0, .int .i64 0, .int .i64 0, .int .i64 0, .int .i64 0, .int .i64 0, .int .i64 0, .int .i64 0, .int .i64 0, .int .i64 0, .int .i64 0, .int .i64 0] 73)).heap.size := by simp
        refine hK.out _ _ (unhide T9) ?_
        clear hK K
        generalize (W1.alloc (.cells #[.int .i64 0, .int .i64 0, .int .i64 0, .int .i64 0, .int .i64 0, .int .i64 0, .int .i64 0, .int .i64 0, .int .i64 0, .int .i64 0, .int .i64 0, .int .i64 0, .int .i64 0, .int .i64 0, .int .i64 0, .int .i64 0, .int .i64 0, .int .i64 0, .int .i64 0, .int .i64 0, .int .i64 0, .int .i64 0, .int .i64 0, .int .i64 0, .int .i64 0, .int .i64 0, .int .i64 0, .int .i64 0, .int .i64 0, .int .i64 0, .int .i64 0, .int .i64 0, .int .i64 0, .int .i64 0, .int .i64 0, .int .i64 0, .int .i64 0, .int .i64 0, .int .i64 0, .int .i64 0, .int .i64 0, .int .i64 0, .int .i64 0, .int .i64 0, .int .i64 0, .int .i64 0, .int .i64 0, .int .i64 0, .int .i64 0, .int .i64 0, .int .i64 0, .int .i64 0, .int .i64 0, .int .i64 0, .int .i64 0, .int .i64 0, .int .i64 0, .int .i64 0, .int .i64 0, .int .i64 0, .int .i64 0, .int .i64 0, .int .i64 0, .int .i64 0] 73)) = W9 at *
        try simp only [Act.put, List.setIfInBounds_toArray, List.set_cons_zero, List.set_cons_succ]
        refine anyH_step1 (i := 3) rfl (by kernel_rfl) (fun K hK => ?_)
        go_simp
        refine (unhide HK W9).mono ?_
        rintro e W10 ⟨rfl, g10⟩
        have T10 := hide ((unhide T9).new g10)
        have s10 := g10.size
        have N10 := hide (grown_atT g10 (unhide N9) (by simp))
        refine hK.out _ _ (unhide T10) ?_
        clear hK K g10
        try simp only [Act.put, List.setIfInBounds_toArray, List.set_cons_zero, List.set_cons_succ]
        refine anyH_take1 (i := 4) (v := .func (.func g) #[rv] #[]) rfl (by kernel_rfl) (fun _ _ _ _ _ h => h) (unhide T10) (Or.inl ⟨by rfl, ?_⟩) ?_
        · intro w' hSw
          have hx := fun w => unhide HX w
          go_simp
          try with_reducible rfl
        try simp only [Act.put, List.setIfInBounds_toArray, List.set_cons_zero, List.set_cons_succ]
        refine anyH_step1 (i := 6) rfl (by kernel_rfl) (fun K hK => ?_)
        go_simp
        refine (toZig zs (unhide HZ0) W10).mono ?_
        rintro e W11 ⟨rfl, g11⟩
        have T11 := hide ((unhide T10).new g11)
        have s11 := g11.size
        rw [unhide HZZ]
        have N11 := hide (grown_atT g11 (unhide N10) (by simp))
        refine hK.out _ _ (unhide T11) ?_
        clear hK K g11
        try simp only [Act.put, List.setIfInBounds_toArray, List.set_cons_zero, List.set_cons_succ]
        refine anyH_step1 (i := 8) rfl (by kernel_rfl) (fun K hK => ?_)
        go_simp
        refine hK.out _ _ (unhide T11) ?_
        clear hK K
        try simp only [Act.put, List.setIfInBounds_toArray, List.set_cons_zero, List.set_cons_succ]
        refine anyH_step1 (i := 9) rfl (by kernel_rfl) (fun K hK => ?_)
        refine step_store_row (by rfl) 73 _ _ rfl (W1.heap.size) rfl (sq Z) rfl #[.int .i64 0, .int .i64 0, .int .i64 0, .int .i64 0, .int .i64 0, .int .i64 0, .int .i64 0, .int .i64 0, .int .i64 0, .int .i64 0, .int .i64 0, .int .i64 0, .int .i64 0, .int .i64 0, .int .i64 0, .int .i64 0, .int .i64 0, .int .i64 0, .int .i64 0, .int .i64 0, .int .i64 0, .int .i64 0, .int .i64 0, .int .i64 0, .int .i64 0, .int .i64 0, .int .i64 0, .int .i64 0, .int .i64 0, .int .i64 0, .int .i64 0, .int .i64 0, .int .i64 0, .int .i64 0, .int .i64 0, .int .i64 0, .int .i64 0, .int .i64 0, .int .i64 0, .int .i64 0, .int .i64 0, .int .i64 0, .int .i64 0, .int .i64 0, .int .i64 0, .int .i64 0, .int .i64 0, .int .i64 0, .int .i64 0, .int .i64 0, .int .i64 0, .int .i64 0, .int .i64 0, .int .i64 0, .int .i64 0, .int .i64 0, .int .i64 0, .int .i64 0, .int .i64 0, .int .i64 0, .int .i64 0, .int .i64 0, .int .i64 0, .int .i64 0] 73 (unhide N11) (by rw [unhide HZS]; rfl) (by rw [unhide HZS]; kernel_rfl) (sq_one _) ?_
        intro W12 hB12 g12
        have T12 := hide ((unhide T11).wr g12 (by have := (unhide T0).size; omega))
        refine hK.out _ _ (unhide T12) ?_
        clear hK K
        try simp only [Act.put]
        refine wpAnyH_done (by kernel_rfl) (NoPanic.normal ?_) _
        exact unhide REST (W1.heap.size) _ (unhide T12) (by have := (unhide T0).size; omega) hB12
    · go_simp
      have T13 := hide ((unhide T0).new (World.grownBy_alloc W0 (.cells #[.int .i64 0, .int .i64 0, .int .i64 0, .int .i64 0, .int .i64 0, .int .i64 0, .int .i64 0, .int .i64 0, .int .i64 0, .int .i64 0, .int .i64 0, .int .i64 0, .int .i64 0, .int .i64 0, .int .i64 0, .int .i64 0, .int .i64 0, .int .i64 0, .int .i64 0, .int .i64 0, .int .i64 0, .int .i64 0, .int .i64 0, .int .i64 0, .int .i64 0, .int .i64 0, .int .i64 0, .int .i64 0, .int .i64 0, .int .i64 0, .int .i64 0, .int .i64 0, .int .i64 0, .int .i64 0, .int .i64 0, .int .i64 0, .int .i64 0, .int .i64 0, .int .i64 0, .int .i64 0, .int .i64 0, .int .i64 0, .int .i64 0, .int .i64 0, .int .i64 0, .int .i64 0, .int .i64 0, .int .i64 0, .int .i64 0, .int .i64 0, .int .i64 0, .int .i64 0, .int .i64 0, .int .i64 0, .int .i64 0, .int .i64 0, .int .i64 0, .int .i64 0, .int .i64 0, .int .i64 0, .int .i64 0, .int .i64 0, .int .i64 0, .int .i64 0] 73) none))
      have N13 := hide (heap_alloc_new W0 (.cells #[.int .i64 0, .int .i64 0, .int .i64 0, .int .i64 0, .int .i64 0, .int .i64 0, .int .i64 0, .int .i64 0, .int .i64 0, .int .i64 0, .int .i64 0, .int .i64 0, .int .i64 0, .int .i64 0, .int .i64 0, .int .i64 0, .int .i64 0, .int .i64 0, .int .i64 0, .int .i64 0, .int .i64 0, .int .i64 0, .int .i64 0, .int .i64 0, .int .i64 0, .int .i64 0, .int .i64 0, .int .i64 0, .int .i64 0, .int .i64 0, .int .i64 0, .int .i64 0, .int .i64 0, .int .i64 0, .int .i64 0, .int .i64 0, .int .i64 0, .int .i64 0, .int .i64 0, .int .i64 0, .int .i64 0, .int .i64 0, .int .i64 0, .int .i64 0, .int .i64 0, .int .i64 0, .int .i64 0, .int .i64 0, .int .i64 0, .int .i64 0, .int .i64 0, .int .i64 0, .int .i64 0, .int .i64 0, .int .i64 0, .int .i64 0, .int .i64 0, .int .i64 0, .int .i64 0, .int .i64 0, .int .i64 0, .int .i64 0, .int .i64 0, .int .i64 0] 73))
      have s13 : W0.heap.size + 1 ≤ (W0.alloc (.cells #[.int .i64 0, .int .i64 0, .int .i64 0, .int .i64 0, .int .i64 0, .int .i64 0, .int .i64 0, .int .i64 0, .int .i64 0, .int .i64 0, .int .i64 0, .int .i64 0, .int .i64 0, .int .i64 0, .int .i64 0, .int .i64 0, .int .i64 0, .int .i64 0, .int .i64 0, .int .i64 0, .int .i64 0, .int .i64 0, .int .i64 0, .int .i64 0, .int .i64 0, .int .i64 0, .int .i64 0, .int .i64 0, .int .i64 0, .int .i64 0, .int .i64 0, .int .i64 0, .int .i64 0, .int .i64 0, .int .i64 0, .int .i64 0, .int .i64 0, .int .i64 0, .int .i64 0, .int .i64 0, .int .i64 0, .int .i64 0, .int .i64 0, .int .i64 0, .int .i64 0, .int .i64 0, .int .i64 0, .int .i64 0, .int .i64 0, .int .i64 0, .int .i64 0, .int .i64 0, .int .i64 0, .int .i64 0, .int .i64 0, .int .i64 0, .int .i64 0, .int .i64 0, .int .i64 0, .int .i64 0, .int .i64 0, .int .i64 0, .int .i64 0, .int .i64 0] 73)).heap.size := by simp
      refine hK.out _ _ (unhide T13) ?_
      clear hK K
      generalize (W0.alloc (.cells #[.int .i64 0, .int .i64 0, .int .i64 0, .int .i64 0, .int .i64 0, .int .i64 0, .int .i64 0, .int .i64 0, .int .i64 0, .int .i64 0, .int .i64 0, .int .i64 0, .int .i64 0, .int .i64 0, .int .i64 0, .int .i64 0, .int .i64 0, .int .i64 0, .int .i64 0, .int .i64 0, .int .i64 0, .int .i64 0, .int .i64 0, .int .i64 0, .int .i64 0, .int .i64 0, .int .i64 0, .int .i64 0, .int .i64 0, .int .i64 0, .int .i64 0, .int .i64 0, .int .i64 0, .int .i64 0, .int .i64 0, .int .i64 0, .int .i64 0, .int .i64 0, .int .i64 0, .int .i64 0, .int .i64 0, .int .i64 0, .int .i64 0, .int .i64 0, .int .i64 0, .int .i64 0, .int .i64 0, .int .i64 0, .int .i64 0, .int .i64 0, .int .i64 0, .int .i64 0, .int .i64 0, .int .i64 0, .int .i64 0, .int .i64 0, .int .i64 0, .int .i64 0, .int .i64 0, .int .i64 0, .int .i64 0, .int .i64 0, .int .i64 0, .int .i64 0] 73)) = W13 at *
      try simp only [Act.put, List.setIfInBounds_toArray, List.set_cons_zero, List.set_cons_succ]
      refine anyH_step1 (i := 1) rfl (by kernel_rfl) (fun K hK => ?_)
      go_simp
      refine (unhide HT W13).mono ?_
      rintro e W14 ⟨rfl, g14⟩
      have T14 := hide ((unhide T13).new g14)
      have s14 := g14.size
      have N14 := hide (grown_atT g14 (unhide N13) (by simp))
      refine hK.out _ _ (unhide T14) ?_
      clear hK K g14
      try simp only [Act.put, List.setIfInBounds_toArray, List.set_cons_zero, List.set_cons_succ]
      refine anyH_step1 (i := 3) rfl (by kernel_rfl) (fun K hK => ?_)
      go_simp
      refine (unhide HK W14).mono ?_
      rintro e W15 ⟨rfl, g15⟩
      have T15 := hide ((unhide T14).new g15)
      have s15 := g15.size
      have N15 := hide (grown_atT g15 (unhide N14) (by simp))
      refine hK.out _ _ (unhide T15) ?_
      clear hK K g15
      try simp only [Act.put, List.setIfInBounds_toArray, List.set_cons_zero, List.set_cons_succ]
      refine anyH_take1 (i := 4) (v := .func (.func g) #[rv] #[]) rfl (by kernel_rfl) (fun _ _ _ _ _ h => h) (unhide T15) (Or.inl ⟨by rfl, ?_⟩) ?_
      · intro w' hSw
        have hx := fun w => unhide HX w
        go_simp
        try with_reducible rfl
      try simp only [Act.put, List.setIfInBounds_toArray, List.set_cons_zero, List.set_cons_succ]
      refine anyH_step1 (i := 6) rfl (by kernel_rfl) (fun K hK => ?_)
      go_simp
      refine (toZig zs (unhide HZ0) W15).mono ?_
      rintro e W16 ⟨rfl, g16⟩
      have T16 := hide ((unhide T15).new g16)
      have s16 := g16.size
      rw [unhide HZZ]
      have N16 := hide (grown_atT g16 (unhide N15) (by simp))
      refine hK.out _ _ (unhide T16) ?_
      clear hK K g16
      try simp only [Act.put, List.setIfInBounds_toArray, List.set_cons_zero, List.set_cons_succ]
      refine anyH_step1 (i := 8) rfl (by kernel_rfl) (fun K hK => ?_)
      go_simp
      refine hK.out _ _ (unhide T16) ?_
      clear hK K
      try simp only [Act.put, List.setIfInBounds_toArray, List.set_cons_zero, List.set_cons_succ]
      refine anyH_step1 (i := 9) rfl (by kernel_rfl) (fun K hK => ?_)
      refine step_store_row (by rfl) 73 _ _ rfl (W0.heap.size) rfl (sq Z) rfl #[.int .i64 0, .int .i64 0, .int .i64 0, .int .i64 0, .int .i64 0, .int .i64 0, .int .i64 0, .int .i64 0, .int .i64 0, .int .i64 0, .int .i64 0, .int .i64 0, .int .i64 0, .int .i64 0, .int .i64 0, .int .i64 0, .int .i64 0, .int .i64 0, .int .i64 0, .int .i64 0, .int .i64 0, .int .i64 0, .int .i64 0, .int .i64 0, .int .i64 0, .int .i64 0, .int .i64 0, .int .i64 0, .int .i64 0, .int .i64 0, .int .i64 0, .int .i64 0, .int .i64 0, .int .i64 0, .int .i64 0, .int .i64 0, .int .i64 0, .int .i64 0, .int .i64 0, .int .i64 0, .int .i64 0, .int .i64 0, .int .i64 0, .int .i64 0, .int .i64 0, .int .i64 0, .int .i64 0, .int .i64 0, .int .i64 0, .int .i64 0, .int .i64 0, .int .i64 0, .int .i64 0, .int .i64 0, .int .i64 0, .int .i64 0, .int .i64 0, .int .i64 0, .int .i64 0, .int .i64 0, .int .i64 0, .int .i64 0, .int .i64 0, .int .i64 0] 73 (unhide N16) (by rw [unhide HZS]; rfl) (by rw [unhide HZS]; kernel_rfl) (sq_one _) ?_
      intro W17 hB17 g17
      have T17 := hide ((unhide T16).wr g17 (by have := (unhide T0).size; omega))
      refine hK.out _ _ (unhide T17) ?_
      clear hK K
      try simp only [Act.put]
      refine wpAnyH_done (by kernel_rfl) (NoPanic.normal ?_) _
      exact unhide REST (W0.heap.size) _ (unhide T17) (by have := (unhide T0).size; omega) hB17
  · have hq : ((ln : Int) != (k1 : Int) - (k0 : Int) + 1) = true := by simp [hlen]
    rw [if_neg hlen] at hr0
    have HRN := hide hr0.symm
    clear hr0 hlen
    go_enter Try.func55, Try.ntmps55
    rw [unhide HWB] at TB c0 c1 c2 c3 c4
    have HRB := hide ((unhide TB).rb rfl)
    have HNO := hide (unhide NOO WB (unhide TB) (unhide HRN))
    rw [← unhide HWB] at c0 c1 c2 c3 c4
    go_wp2_with (rw [unhide HWB]; clear HWB c0 c1 c2 c3 c4; refine store_row rfl 73 _ _ rfl (w.heap.size + 2) rfl #[.int .i64 0, .int .i64 0, .int .i64 0, .int .i64 0, .int .i64 0, .int .i64 0, .int .i64 0, .int .i64 0, .int .i64 0, .int .i64 0, .int .i64 0, .int .i64 0, .int .i64 0, .int .i64 0, .int .i64 0, .int .i64 0, .int .i64 0, .int .i64 0, .int .i64 0, .int .i64 0, .int .i64 0, .int .i64 0, .int .i64 0, .int .i64 0, .int .i64 0, .int .i64 0, .int .i64 0, .int .i64 0, .int .i64 0, .int .i64 0, .int .i64 0, .int .i64 0, .int .i64 0, .int .i64 0, .int .i64 0, .int .i64 0, .int .i64 0, .int .i64 0, .int .i64 0, .int .i64 0, .int .i64 0, .int .i64 0, .int .i64 0, .int .i64 0, .int .i64 0, .int .i64 0, .int .i64 0, .int .i64 0, .int .i64 0, .int .i64 0, .int .i64 0, .int .i64 0, .int .i64 0, .int .i64 0, .int .i64 0, .int .i64 0, .int .i64 0, .int .i64 0, .int .i64 0, .int .i64 0, .int .i64 0, .int .i64 0, .int .i64 0, .int .i64 0] rfl (sq zs64) 73 (unhide HRB) (by rw [sq_size, zs64_len]; rfl) (by kernel_rfl) z64_one ?_; intro w6 hB6 g6)
    refine bodyPost_ret (v := .tuple #[.agg #[.int .i64 0, .int .i64 0, .int .i64 0, .int .i64 0, .int .i64 0, .int .i64 0, .int .i64 0, .int .i64 0, .int .i64 0, .int .i64 0, .int .i64 0, .int .i64 0, .int .i64 0, .int .i64 0, .int .i64 0, .int .i64 0, .int .i64 0, .int .i64 0, .int .i64 0, .int .i64 0, .int .i64 0, .int .i64 0, .int .i64 0, .int .i64 0, .int .i64 0, .int .i64 0, .int .i64 0, .int .i64 0, .int .i64 0, .int .i64 0, .int .i64 0, .int .i64 0, .int .i64 0, .int .i64 0, .int .i64 0, .int .i64 0, .int .i64 0, .int .i64 0, .int .i64 0, .int .i64 0, .int .i64 0, .int .i64 0, .int .i64 0, .int .i64 0, .int .i64 0, .int .i64 0, .int .i64 0, .int .i64 0, .int .i64 0, .int .i64 0, .int .i64 0, .int .i64 0, .int .i64 0, .int .i64 0, .int .i64 0, .int .i64 0, .int .i64 0, .int .i64 0, .int .i64 0, .int .i64 0, .int .i64 0, .int .i64 0, .int .i64 0, .int .i64 0], .bool false]) ?_ rfl (unhide HNO w6 hB6 g6)
    exact results_c2 (p := 6) (q := 7) (ty := 73) rfl _ _ _ (w.heap.size + 2) rfl _ (run_loadVar_row w6 _ 73 73 _ (0, 0) _ hB6 Try.underlying73 rfl (by kernel_rfl))

end Go.Proofs.Ytfgglainjaplgaa

namespace Go.Proofs.Ytfgglainjaplgaa
open Go.RowKit

end Go.Proofs.Ytfgglainjaplgaa

namespace Go.Proofs.Ytfgglainjaplgaa
open Go.RowKit

/-- The number ahead of place k, -1 ahead of the first. -/
def lastC (cs : List Int) (k : Nat) : Int := if k = 0 then -1 else cs.getD (k - 1) 0
theorem lastC_succ (cs : List Int) (k : Nat) : lastC cs (k + 1) = cs.getD k 0 := by simp [lastC]

end Go.Proofs.Ytfgglainjaplgaa

namespace Go.Proofs.Ytfgglainjaplgaa
open Go.RowKit

/-- High and Low are those of a pass. -/
def bitsB (a : Scn) : Bool := decide (0 ≤ a.lo ∧ a.lo ≤ 13) && (decide (a.hi = 0) || decide (a.hi = a.lo + 1))
def pV (a : Scn) : Value := if a.hi = 0 then .iface 99 (.agg #[.int .i64 a.lo]) else .iface 101 (.agg #[.int .i64 a.hi, .int .i64 a.lo])
def pVN (a : Scn) : Value := if bitsB a = true then pV a else .nilIface

set_option maxRecDepth 20000 in
set_option maxHeartbeats 1600000 in
theorem passOf (w : World) (v0 : Value) (a : Scn) (pv : Value) (HP : Hid (pVN a = pv)) :
    Calls Try.prog 71 #[scV v0 a] w fun e w' => e = .returned pv ∧ w.grownBy w' none := by
  obtain ⟨cs, fr, to, hi, lo⟩ := a
  have hp := unhide HP
  unfold pVN bitsB pV at hp
  unfold scV
  dsimp only at hp ⊢
  have HG0 : Hid (w.grownBy (w.alloc (.cells #[v0, .int .i64 fr, .int .i64 to, .int .i64 hi, .int .i64 lo] 26)) none) := World.grownBy_alloc _ _ _
  obtain ⟨c0, c1, c2, c3, c4⟩ := scanCells (heap_alloc_new w (.cells #[v0, .int .i64 fr, .int .i64 to, .int .i64 hi, .int .i64 lo] 26))
  obtain ⟨b3, HB3⟩ : ∃ b, Hid (decide (0 ≤ lo ∧ lo ≤ 13) = b) := ⟨_, rfl⟩
  rw [unhide HB3] at hp
  clear HP
  go_enter Try.func71, Try.ntmps71
  go_wp2_with fail
  refine (inRange lo 0 13 b3 HB3 _).mono ?_
  rintro e w1 ⟨rfl, rfl⟩
  cases b3 with
  | false =>
    have e : pv = .nilIface := by rw [← hp]; simp
    subst e
    clear hp
    go_wp2
    go_ret
    exact ⟨rfl, unhide HG0⟩
  | true =>
    have hlo := of_decide_eq_true (unhide HB3)
    have e1 := i64_in (lo + 1) (by omega)
    by_cases h0 : hi = 0
    · have n0 : (hi == 0) = true := by simp [h0]
      have e : pv = .iface 99 (.agg #[.int .i64 lo]) := by rw [← hp]; simp [h0]
      subst e
      clear h0 hp
      go_wp2
      go_ret
      exact ⟨rfl, unhide HG0⟩
    · have n0 : (hi == 0) = false := by simp [h0]
      by_cases h1 : hi = lo + 1
      · have n1 : (hi == lo + 1) = true := by simp [h1]
        have e : pv = .iface 101 (.agg #[.int .i64 hi, .int .i64 lo]) := by rw [← hp, if_neg h0]; simp [h1]
        subst e
        clear h0 h1 hp
        go_wp2
        go_ret
        exact ⟨rfl, unhide HG0⟩
      · have n1 : (hi == lo + 1) = false := by simp [h1]
        have e : pv = .nilIface := by rw [← hp]; simp [h0, h1]
        subst e
        clear h0 h1 hp
        go_wp2
        go_ret
        exact ⟨rfl, unhide HG0⟩

theorem asFirst (lo : Int) (w : World) : (Instr.typeAssert (.iface 99 (.agg #[.int .i64 lo])) 96 99 true).run Try.prog w = .ok (.tuple #[.agg #[.int .i64 lo], .bool true]) w := by kernel_rfl

theorem asFirst_no (hi lo : Int) (w : World) : (Instr.typeAssert (.iface 101 (.agg #[.int .i64 hi, .int .i64 lo])) 96 99 true).run Try.prog w = .ok (.tuple #[.agg #[.int .i64 0], .bool false]) w := by kernel_rfl

theorem asRefining (hi lo : Int) (w : World) : (Instr.typeAssert (.iface 101 (.agg #[.int .i64 hi, .int .i64 lo])) 96 101 true).run Try.prog w = .ok (.tuple #[.agg #[.int .i64 hi, .int .i64 lo], .bool true]) w := by kernel_rfl

theorem notNilP (t : TypeId) (v : Value) (w : World) : (binOp .neq 96 (.iface t v) .nilIface).run Try.prog w = .ok (.bool true) w := by kernel_rfl

theorem nilP (w : World) : (binOp .neq 96 .nilIface .nilIface).run Try.prog w = .ok (.bool false) w := by kernel_rfl

end Go.Proofs.Ytfgglainjaplgaa

namespace Go.Proofs.Ytfgglainjaplgaa
open Go.RowKit

theorem bits_pass (a : Scn) (h1 : 0 ≤ a.fr) (h2 : a.fr ≤ a.to) (h3 : a.to ≤ 63) : passB a = bitsB a := by
  unfold passB bitsB
  rw [decide_eq_true (⟨h1, h2⟩ : 0 ≤ a.fr ∧ a.fr ≤ a.to), decide_eq_true h3, Bool.true_and, Bool.true_and]
theorem pass_neq (a : Scn) (w : World) : (binOp .neq 96 (pVN a) .nilIface).run Try.prog w = .ok (.bool (bitsB a)) w := by
  unfold pVN
  cases h : bitsB a with
  | false => exact nilP w
  | true =>
    rw [if_pos rfl]
    unfold pV
    split
    · exact notNilP _ _ w
    · exact notNilP _ _ w
theorem pass_guard (a : Scn) (x : Operand) (w : World) : (eqGuard .neq 96 x (.const .nilIface) (pVN a) .nilIface).run Try.prog w = .ok () w := by
  unfold pVN
  cases h : bitsB a with
  | false => cases x <;> kernel_rfl
  | true =>
    rw [if_pos rfl]
    unfold pV
    split
    · kernel_rfl
    · kernel_rfl

set_option maxRecDepth 20000 in
set_option maxHeartbeats 1600000 in
theorem passOk (w : World) (v0 : Value) (a : Scn) (t : Bool) (HT : Hid (passB a = t)) :
    Calls Try.prog 61 #[scV v0 a] w fun e w' => e = .returned (.bool t) ∧ w.grownBy w' none := by
  have HP := hide (fun w => passOf w v0 a (pVN a) rfl)
  have HN := hide (fun w => pass_neq a w)
  have HE := hide (fun x w => pass_guard a x w)
  have hb := bits_pass a
  have hp : passB a = t := unhide HT
  obtain ⟨pv, HV⟩ : ∃ pv, Hid (pVN a = pv) := ⟨_, rfl⟩
  obtain ⟨bb, HBB⟩ : ∃ bb, Hid (bitsB a = bb) := ⟨_, rfl⟩
  rw [unhide HV] at HP HN HE
  rw [unhide HBB] at hb HN
  obtain ⟨cs, fr, to, hi, lo⟩ := a
  unfold scV at HP ⊢
  dsimp only at hb HP ⊢
  have HG0 : Hid (w.grownBy (w.alloc (.cells #[v0, .int .i64 fr, .int .i64 to, .int .i64 hi, .int .i64 lo] 26)) none) := World.grownBy_alloc _ _ _
  have HB0 := hide (heap_alloc_new w (.cells #[v0, .int .i64 fr, .int .i64 to, .int .i64 hi, .int .i64 lo] 26))
  obtain ⟨c0, c1, c2, c3, c4⟩ := scanCells (unhide HB0)
  have hno : ¬ (0 ≤ fr ∧ fr ≤ to) ∨ ¬ to ≤ 63 → t = false := fun h => by
    rw [← hp]
    unfold passB
    dsimp only
    rcases h with h | h
    · rw [decide_eq_false h]; rfl
    · rw [decide_eq_false h, Bool.and_false]; rfl
  have hyes : 0 ≤ fr → fr ≤ to → to ≤ 63 → t = bb := fun h1 h2 h3 => by rw [← hp]; exact hb h1 h2 h3
  have HNO := hide hno
  have HYES := hide hyes
  clear HT hp hb hno hyes HV HBB
  by_cases h1 : 0 ≤ fr
  · have d1 := decide_eq_true h1
    by_cases h2 : fr ≤ to
    · have d2 := decide_eq_true h2
      by_cases h3 : to ≤ 63
      · have d3 := decide_eq_true h3
        obtain rfl := unhide HYES h1 h2 h3
        clear HNO HYES h1 h2 h3
        have hn := fun w => unhide HN w
        have he := fun x w => unhide HE x w
        go_enter Try.func61, Try.ntmps61
        go_wp2_with fail
        refine (unhide HP _).mono ?_
        rintro e w2 ⟨rfl, g2⟩
        have HG2 := hide (grown_trans (unhide HG0) g2)
        clear g2 c0 c1 c2 c3 c4
        go_wp2
        go_ret
        exact ⟨rfl, unhide HG2⟩
      · have d3 := decide_eq_false h3
        obtain rfl := unhide HNO (.inr h3)
        clear HNO HYES h1 h2 h3
        go_enter Try.func61, Try.ntmps61
        go_wp2
        go_ret
        exact ⟨rfl, unhide HG0⟩
    · have d2 := decide_eq_false h2
      obtain rfl := unhide HNO (.inl (fun h => h2 h.2))
      clear HNO HYES h1 h2
      go_enter Try.func61, Try.ntmps61
      go_wp2
      go_ret
      exact ⟨rfl, unhide HG0⟩
  · have d1 := decide_eq_false h1
    obtain rfl := unhide HNO (.inl (fun h => h1 h.1))
    clear HNO HYES h1
    go_enter Try.func61, Try.ntmps61
    go_wp2
    go_ret
    exact ⟨rfl, unhide HG0⟩

end Go.Proofs.Ytfgglainjaplgaa
