/-
  FrameRows, LawPasses, LevelFix, PassFns, PassTables.
-/
import Derived.Test.YtfgglainjaplgaaMEf

namespace Go.Proofs.Ytfgglainjaplgaa
open Go.RowKit

theorem own_rdC {w : World} {base : Nat} {e : TypeId} {ao : Option Addr} {n cap : Nat} {C : Nat → Nat → Int} (h : w.ownsRow base e 4 (.slice ao n cap) n (rowsK n 4 (compCells C))) : RdC w ao n C := by
  intro i hi
  obtain ⟨g, rfl, _, _⟩ := own_at h (by omega)
  refine ⟨g, 0, rfl, fun j hj => ?_⟩
  rw [Nat.zero_add, h.cellAt _ (place_lt hi hj), rowsK_get n 4 _ i j hi hj]
  rfl

theorem Try.info30 : (Try.prog.info? 30).map (fun i => (i.zero, i.size, i.bytes)) = some (some (.agg #[.int .i64 0, .int .i64 0, .int .i64 0, .int .i64 0]), 4, 32) := by kernel_rfl

/-- The copy's cells behind k rounds. -/
def compPart (C : Nat → Nat → Int) (k : Nat) : Nat → Nat → Value := fun i j => if i < k then .int .i64 (C i j) else .int .i64 0
theorem compPart_set (C : Nat → Nat → Int) (n k : Nat) (c0 c1 c2 c3 : Int) (h0 : C k 0 = c0) (h1 : C k 1 = c1) (h2 : C k 2 = c2) (h3 : C k 3 = c3) :
    ((((rowsK n 4 (compPart C k)).set (k * 4) (.int .i64 c0)).set (k * 4 + 1) (.int .i64 c1)).set (k * 4 + 2) (.int .i64 c2)).set (k * 4 + 3) (.int .i64 c3) = rowsK n 4 (compPart C (k + 1)) := by
  have e0 := rowsK_set n 4 (compPart C k) k 0 (.int .i64 c0) (by omega)
  rw [Nat.add_zero] at e0
  rw [e0, rowsK_set _ _ _ k 1 _ (by omega), rowsK_set _ _ _ k 2 _ (by omega), rowsK_set _ _ _ k 3 _ (by omega)]
  apply rowsK_congr
  intro i j _ hj
  have hj4 : j = 0 ∨ j = 1 ∨ j = 2 ∨ j = 3 := by omega
  by_cases e1 : i = k
  · subst e1
    rcases hj4 with rfl | rfl | rfl | rfl <;> simp [compPart, h0, h1, h2, h3]
  · by_cases e2 : i < k
    · rcases hj4 with rfl | rfl | rfl | rfl <;> simp [compPart, e1, e2, show i < k + 1 by omega]
    · rcases hj4 with rfl | rfl | rfl | rfl <;> simp [compPart, e1, e2, show ¬ i < k + 1 by omega]

end Go.Proofs.Ytfgglainjaplgaa

namespace Go.Proofs.Ytfgglainjaplgaa
open Go.RowKit

theorem pow_in13 (l : Nat) (h : l ≤ 13) : (1 : Int) ≤ 2 ^ l ∧ (2 : Int) ^ l ≤ 8192 := by
  have key : ∀ l : Nat, l < 14 → (1 : Int) ≤ 2 ^ l ∧ (2 : Int) ^ l ≤ 8192 := by decide
  exact key l (by omega)
theorem trunc_part (a : Int) (l : Nat) (ha : 0 ≤ a ∧ a ≤ 16383) : 0 ≤ a / 2 ^ l ∧ a / 2 ^ l ≤ 16383 ∧ 0 ≤ a / 2 ^ l * 2 ^ l ∧ a / 2 ^ l * 2 ^ l ≤ 16383 := by
  have hp := pow2_pos l
  have h1 := Int.emod_add_mul_ediv a (2 ^ l)
  have h2 := Int.emod_nonneg a (Int.ne_of_gt hp)
  have h3 : 0 ≤ a / 2 ^ l := Int.ediv_nonneg ha.1 (Int.le_of_lt hp)
  have h4 := Int.mul_nonneg h3 (Int.le_of_lt hp)
  have h5 : a / 2 ^ l ≤ a := Int.ediv_le_self _ ha.1
  rw [Int.mul_comm] at h1
  omega
theorem row_cell {w : World} {uo : Option Addr} {n uc : Nat} {row : List Int} (h : Rd2 w (.slice uo n uc) [row]) (h64 : row.length = 64) : ∃ b off gi go ci, uo = some ⟨b, off, none⟩ ∧ w.cell? ⟨b, off, none⟩ = some (.slice (some ⟨gi, go, none⟩) 64 ci) ∧ ∀ k, k < 64 → w.cell? ⟨gi, go + k, none⟩ = some (.int .i64 (row.getD k 0)) := by
  obtain ⟨ao, cap, e, hr⟩ := h
  obtain ⟨e1, _, _⟩ := Value.slice.inj e
  subst e1
  obtain ⟨b, off, u, rfl, hc, ro, rc, rfl, hrd⟩ := hr 0 (by simp)
  have eL : ([row] : List (List Int))[0] = row := rfl
  rw [eL] at hc hrd
  rw [h64] at hc hrd
  obtain ⟨gi, go, rfl, _⟩ := hrd.2 0 (by omega)
  refine ⟨b, off, gi, go, rc, rfl, hc, fun k hk => ?_⟩
  obtain ⟨b9, o9, e9, h9⟩ := hrd.2 k hk
  obtain ⟨rfl, rfl⟩ : gi = b9 ∧ go = o9 := by simpa using e9
  exact h9

set_option maxRecDepth 100000 in
set_option maxHeartbeats 12800000 in
theorem lawPasses_in (H1 : ImplFirst) (H2 : ImplRefine) (H3 : ImplPutF) (H4 : ImplPutR) (ao : Option Addr) (n cap : Nat) (zs : List Int) (bo : Option Addr) (m cap2 : Nat) (ms : List Int) (w : World) (hr : Rd .u8 w ao n zs) (hb : ∀ i, 0 ≤ zs.getD i 0 ∧ zs.getD i 0 ≤ 255) (hn : n ≤ 1048576) (hr2 : Rd .u8 w bo m ms) (hb2 : ∀ i, 0 ≤ ms.getD i 0 ∧ ms.getD i 0 ≤ 255) (hm : m ≤ 1048576) :
    Calls Try.prog 3 #[.slice ao n cap, .slice bo m cap2] w fun e w' => e = .returned (.bool true) ∧ w.grownBy w' none := by
  have HR := hide hr
  have HB := hide hb
  have HR2 := hide hr2
  have HB2 := hide hb2
  have HC1 := hide H1
  have HC2 := hide H2
  have HC3 := hide H3
  have HC4 := hide H4
  clear hr hb hr2 hb2 H1 H2 H3 H4
  go_enter Try.func3, Try.ntmps3
  go_wp2_with fail
  refine (lawBig ao n cap false w (by unfold Hid; simp; omega)).mono ?_
  rintro e w0 ⟨rfl, rfl⟩
  go_wp2_with fail
  refine (lawBig bo m cap2 false w (by unfold Hid; simp; omega)).mono ?_
  rintro e w0 ⟨rfl, rfl⟩
  go_wp2_with fail
  refine (drawFirstOf ao n cap zs w (unhide HR) (unhide HB) hn).mono ?_
  rintro e w1 ⟨so, k, sc, y0, y1, y2, y3, rfl, ⟨xs, hxs⟩, hk65, g1⟩
  have HX1 := hide hxs
  have HG1 := hide g1
  clear hxs g1 HR HB
  go_wp2_with (refine store_row rfl 26 _ _ rfl w1.heap.size rfl #[.slice none 0 0, .int .i64 y0, .int .i64 y1, .int .i64 y2, .int .i64 y3] rfl #[.slice none 0 0, .int .i64 0, .int .i64 0, .int .i64 0, .int .i64 0] 26 (heap_alloc_new _ _) rfl (by kernel_rfl) (by simp [Value.oneCell']) ?_; intro w2 hB2 g2)
  have G12 : w1.grownBy w2 none := grown_new (World.grownBy_alloc _ _ none) g2 (fun x e => by simp at e; omega)
  have HX2 := hide ((unhide HX1).grown G12)
  have HG2 := hide (grown_trans (unhide HG1) G12)
  have HM2 := hide ((unhide HR2).grown (unhide HG2))
  clear hB2 g2 G12 HX1 HG1 HR2
  go_loopw [7, 8] (fun ov iv wr => ∃ (j : Nat) (t : Bool), j ≤ k ∧ iv = .int .i64 (j : Int) ∧ ov = .bool t ∧ Hid (t = true ↔ (k = 64 ∧ ∀ i, i < j → -16383 ≤ xs.getD i 0 ∧ xs.getD i 0 ≤ 16383)) ∧ wr = w2) (fun _ iv _ => k - (intOf iv).toNat)
  case atStart => exact ⟨0, _, Nat.zero_le _, rfl, rfl, by unfold Hid; simp; omega, rfl⟩
  case round =>
    obtain ⟨j, t, hj, rfl, rfl, hT, rfl⟩ := hrel
    by_cases hlt : j < k
    · obtain ⟨b, off, rfl, hc⟩ := (unhide HX2).2 j hlt
      have hjk : (j : Int) < (k : Int) := by omega
      have HNX : Hid (∀ t', (t' = true ↔ (t = true ∧ -16383 ≤ xs.getD j 0 ∧ xs.getD j 0 ≤ 16383)) → (t' = true ↔ (k = 64 ∧ ∀ i, i < j + 1 → -16383 ≤ xs.getD i 0 ∧ xs.getD i 0 ≤ 16383))) := fun t' h => by
        rw [h, unhide hT]
        constructor
        · rintro ⟨⟨h1, h2⟩, h3⟩
          exact ⟨h1, fun i hi => by by_cases e : i = j; (rw [e]; exact h3); exact h2 i (by omega)⟩
        · rintro ⟨h1, h2⟩
          exact ⟨⟨h1, fun i hi => h2 i (by omega)⟩, h2 j (by omega)⟩
      generalize xs.getD j 0 = z at hc HNX
      clear hT
      cases t with
      | false =>
        have HE := hide (unhide HNX false (by simp))
        clear HNX
        go_wp2
        go_roundw
        case rel => exact ⟨j + 1, false, by omega, by go_num, rfl, HE, trivial⟩
        case measure => simp [intOf]; omega
      | true =>
        by_cases z1 : -16383 ≤ z
        · have d1 := decide_eq_true z1
          by_cases z2 : z ≤ 16383
          · have d2 := decide_eq_true z2
            have HE := hide (unhide HNX true (by simp; omega))
            clear HNX
            go_wp2
            go_roundw
            case rel => exact ⟨j + 1, true, by omega, by go_num, rfl, HE, trivial⟩
            case measure => simp [intOf]; omega
          · have d2 := decide_eq_false z2
            have HE := hide (unhide HNX false (by simp; omega))
            clear HNX
            go_wp2
            go_roundw
            case rel => exact ⟨j + 1, false, by omega, by go_num, rfl, HE, trivial⟩
            case measure => simp [intOf]; omega
        · have d1 := decide_eq_false z1
          have HE := hide (unhide HNX false (by simp; omega))
          clear HNX
          go_wp2
          go_roundw
          case rel => exact ⟨j + 1, false, by omega, by go_num, rfl, HE, trivial⟩
          case measure => simp [intOf]; omega
    · obtain rfl : k = j := by omega
      cases t with
      | false =>
        go_wp2
        go_ret
        exact ⟨rfl, unhide HG2⟩
      | true =>
        obtain ⟨h64, hlv⟩ := (unhide hT).1 rfl
        have HKK := hide h64
        have HLV : Hid (levB (-16383) 16383 xs = true) := lev_all ((unhide HX2).1.trans h64) (fun i hi => hlv i (by omega))
        have HXL : Hid (xs.length = k) := (unhide HX2).1
        clear hlv hT hj hlt h64
        have F1 := hide (heap_alloc_new wr (.cells #[.int .i64 0, .int .i64 1, .int .i64 1, .int .i64 0] 30))
        have ga := World.grownBy_alloc wr (.cells #[.int .i64 0, .int .i64 1, .int .i64 1, .int .i64 0] 30) none
        have gb := World.grownBy_alloc (wr.alloc (.cells #[.int .i64 0, .int .i64 1, .int .i64 1, .int .i64 0] 30)) (.cells #[.int .i64 8, .int .i64 8, .int .i64 8, .int .i64 0, .slice (some ⟨wr.heap.size, 0, none⟩) 1 1] 33) none
        have F2 : Hid (((wr.alloc (.cells #[.int .i64 0, .int .i64 1, .int .i64 1, .int .i64 0] 30)).alloc (.cells #[.int .i64 8, .int .i64 8, .int .i64 8, .int .i64 0, .slice (some ⟨wr.heap.size, 0, none⟩) 1 1] 33)).heap[wr.heap.size + 1]? = some (.cells #[.int .i64 8, .int .i64 8, .int .i64 8, .int .i64 0, .slice (some ⟨wr.heap.size, 0, none⟩) 1 1] 33 (0, 0))) := by
          have h9 := heap_alloc_new (wr.alloc (.cells #[.int .i64 0, .int .i64 1, .int .i64 1, .int .i64 0] 30)) (.cells #[.int .i64 8, .int .i64 8, .int .i64 8, .int .i64 0, .slice (some ⟨wr.heap.size, 0, none⟩) 1 1] 33)
          unfold Hid
          simpa using h9
        have GW := hide (grown_trans ga gb)
        have F3 := hide (at_rowS gb (unhide F1) (by simp))
        clear ga gb F1
        go_wp2
        generalize ((wr.alloc (.cells #[.int .i64 0, .int .i64 1, .int .i64 1, .int .i64 0] 30)).alloc (.cells #[.int .i64 8, .int .i64 8, .int .i64 8, .int .i64 0, .slice (some ⟨wr.heap.size, 0, none⟩) 1 1] 33)) = w3 at *
        obtain ⟨fb, HFBB⟩ : ∃ fb, Hid (wr.heap.size + 1 = fb) := ⟨_, hide rfl⟩
        obtain ⟨fo, HFO⟩ : ∃ fo : Option Addr, Hid (some ⟨wr.heap.size, 0, none⟩ = fo) := ⟨_, hide rfl⟩
        have RC3 : Hid (RdC w3 fo 1 (fun _ j => if j = 1 ∨ j = 2 then 1 else 0)) := by
          rw [← unhide HFO]
          intro i hi
          obtain rfl : i = 0 := by omega
          refine ⟨_, _, rfl, fun j hj => ?_⟩
          have hcell := cell_of_row w3 wr.heap.size j _ _ (0, 0) (unhide F3)
          have : j = 0 ∨ j = 1 ∨ j = 2 ∨ j = 3 := by omega
          rcases this with rfl | rfl | rfl | rfl <;> (simp at hcell; simpa using hcell)
        rw [unhide HFBB, unhide HFO] at F2
        rw [unhide HFBB]
        have X3 := hide ((unhide HX2).grown (unhide GW))
        have M3 := hide ((unhide HM2).grown (unhide GW))
        have G3 := hide (grown_trans (unhide HG2) (unhide GW))
        clear HX2 HM2 HG2 GW F3
        refine wp_region_noPanic ?_
        have gd := grown_drew (World.grownBy.refl w3 none)
        have F4 := hide (at_rowS gd (unhide F2) (by simp))
        have RC4 := hide ((unhide RC3).grown gd)
        have X4 := hide ((unhide X3).grown gd)
        have M4 := hide ((unhide M3).grown gd)
        have G4 := hide (grown_trans (unhide G3) gd)
        clear F2 RC3 X3 M3 G3 gd
        refine wp_region_tailL 20 (fun W => W.heap[fb]? = some (.cells #[.int .i64 8, .int .i64 8, .int .i64 8, .int .i64 0, .slice fo 1 1] 33 (0, 0))) [true, true, false, false, false] (by kernel_rfl) (fun _ _ _ _ _ h => h) rfl (by decide) (by kernel_rfl) (unhide F4) ?_
        generalize w3.drew = w4 at *
        refine heldF_take (v := ?_) (Or.inl ⟨by rfl, ?_⟩) ?_
        rotate_left 1
        · intro w' hSw
          try dsimp only at hSw
          have s1 := frameCells' hSw
          go_simp
          try with_reducible rfl
        try simp only [Act.put, List.setIfInBounds_toArray, List.set_cons_zero, List.set_cons_succ]
        refine heldF_take (v := ?_) (Or.inl ⟨by rfl, ?_⟩) ?_
        rotate_left 1
        · intro w' hSw
          go_simp
          try with_reducible rfl
        try simp only [Act.put, List.setIfInBounds_toArray, List.set_cons_zero, List.set_cons_succ]
        refine heldF_skip (heldF_skip (heldF_skip (heldF_nil ?_)))
        refine tailL_skip (tailL_skip (tailL_step (fun K hK => ?_)))
        go_simp
        refine (lawPick bo m cap2 0 3 ms w4 (unhide M4) (unhide HB2) hm (by omega) (by omega) (by omega)).mono ?_
        rintro e w5 ⟨⟨kind, rfl, hk0, hk3⟩, rfl⟩
        have hkind : kind = 0 ∨ kind = 1 ∨ kind = 2 := by omega
        have HKI := hide hkind
        go_simp
        refine hK.out _ _ (.inr (unhide F4)) ?_
        clear hK K M4
        obtain ⟨S, HSS⟩ : ∃ S, Hid (scriptG true 1 kind = S) := ⟨_, hide rfl⟩
        obtain ⟨sn, HSL⟩ : ∃ sn, Hid (S.length = sn) := ⟨_, hide rfl⟩
        have hsn : sn ≤ 6 := by rw [← unhide HSL, ← unhide HSS]; exact script_few kind hkind
        refine tailL_step (fun K hK => ?_)
        go_simp
        refine (specScriptFor 8 8 8 0 fo 1 1 _ w4 (unhide RC4) kind true one_frame S HSS).mono ?_
        rintro e w6 ⟨u6, F6, rfl, o6, -, -, g6⟩
        obtain ⟨uo, uc, rfl⟩ := OwG.form o6
        have hsu : sn ≤ uc := by obtain ⟨U9, Fs9, _, h9, _⟩ := o6; have h8 := own_capG h9; rw [unhide HSL] at h8; exact h8
        have P6 : Hid (Ps w6 so k xs fb fo uo sn uc S) := by
          have h9 := OwSs.rd o6
          rw [unhide HSL] at h9
          exact ⟨(unhide X4).grown g6, at_rowS g6 (unhide F4) (by simp), (unhide RC4).grown g6, h9⟩
        rw [unhide HSL]
        have G6 := hide (grown_trans (unhide G4) g6)
        clear o6 g6 X4 F4 RC4 G4 hkind
        go_simp
        refine hK.out _ _ (.inr (unhide P6).fr) ?_
        clear hK K
        refine tailL_step (fun K hK => ?_)
        go_simp
        refine hK.out _ _ (.inl rfl) ?_
        clear hK K
        refine tailL_nil (NoPanic.normal ?_)
        obtain ⟨i0, hi, hz0, hz1, hz2⟩ := info_parts info_iS
        go_wp2_with (at_make; refine wpList_make_full _ rfl _ _ 24 rfl 0 3 i0 (.int .i64 0) 1 Try.underlying24 hi hz0 hz1 .i64 .i64 64 64 64 rfl rfl rfl rfl (by rw [hz2]; omega) (by unfold maxLen; omega) (Nat.zero_le _) ?_)
        intro w7 hown g7
        have N7 : Hid (Rd .i64 w7 (some ⟨w6.heap.size, 0, none⟩) 64 (nowAt xs S 0)) := by
          rw [now_begin]
          have e9 : (madeCells #[Value.int .i64 0] 64).toList = (List.replicate 64 (0 : Int)).map (Value.int .i64) := by rw [toList_madeCells_one, List.map_replicate]
          rw [e9] at hown
          exact own_rd hown
        have P7 := hide ((unhide P6).new g7)
        have G7 := hide (grown_trans (unhide G6) g7)
        clear hown g7 P6 G6 hi hz0 hz1 hz2
        have HCS : Hid (∀ a ∈ S, a.cs.length = 1) := fun a ha => by rw [← unhide HSS] at ha; rw [one_comp kind (unhide HKI) a ha]; rfl
        obtain ⟨ZX, HZX⟩ : ∃ ZX, Hid ((if true then zigged xs else []) = ZX) := ⟨_, hide rfl⟩
        have HZXE : Hid (zigged xs = ZX) := unhide HZX
        have HZXL : Hid (ZX.length = 64) := by rw [← unhide HZXE]; exact made_len _
        have HLZ : Hid (∀ j, j < 64 → -16383 ≤ ZX.getD j 0 ∧ ZX.getD j 0 ≤ 16383) := by rw [← unhide HZXE]; exact (lev_at (lev_zig (unhide HLV))).2
        have HNU : Hid (numsB (-32767) 32767 xs = true) := lev_nums (unhide HLV)
        have hk64 : k ≤ 64 := by have := unhide HKK; omega
        go_wp2
        go_loopw [11, 12] (fun nv iv wr => ∃ (i : Nat) (no : Option Addr) (nc : Nat), i ≤ sn ∧ iv = .int .i64 (i : Int) ∧ nv = .slice no 64 nc ∧ Hid (Ps wr so k xs fb fo uo sn uc S) ∧ Hid (Rd .i64 wr no 64 (nowAt xs S i)) ∧ Hid (w.grownBy wr none)) (fun _ iv _ => sn - (intOf iv).toNat)
        case atStart => exact ⟨0, _, _, Nat.zero_le _, rfl, rfl, P7, N7, G7⟩
        case round =>
          clear P7 N7 G7
          obtain ⟨i, no, nc, hin, rfl, rfl, P0, N0, G0⟩ := hrel
          by_cases hlt : i < sn
          · have his : i < S.length := by rw [unhide HSL]; exact hlt
            have hiI : (i : Int) < (sn : Int) := by omega
            obtain ⟨b, off, vo, vc, rfl, ⟨d0, d1, d2, d3, d4⟩, hv⟩ := scan_at (unhide P0).sc i his
            have HST := now_next (unhide HLV) kind (unhide HKI) i (by rw [unhide HSS]; exact his)
            obtain ⟨row, HROW, HRL, HRB⟩ := row_in kind (unhide HKI) i (by rw [unhide HSS]; exact his)
            have HROW' := hide HROW
            clear HROW
            have HROW := HROW'
            clear HROW'
            rw [unhide HSS] at HROW
            replace HRL := hide HRL
            replace HRB := hide HRB
            have hST2 : S[i].cs = [0] ∧ (S[i].hi = 0 → putFirstG (nowAt xs S i) S[i] (firstG xs S[i]) = nowAt xs S (i + 1)) ∧ (S[i].hi ≠ 0 → putRefineG (nowAt xs S i) S[i] (refineG xs S[i]) = nowAt xs S (i + 1)) := by
              have e9 := unhide HSS
              subst e9
              exact HST
            clear HST
            have HWANT : Hid (∀ j, j < 64 → (zigged (nowAt xs S (i + 1))).getD j 0 = truncI (ZX.getD j 0) (row.getD j 0)) := fun j hj => by rw [← unhide HZXE]; exact now_want xs S (i + 1) row (unhide HROW) j hj
            obtain ⟨a, HA⟩ : ∃ a, Hid (S[i] = a) := ⟨_, hide rfl⟩
            rw [unhide HA] at d0 d1 d2 d3 d4 hv hST2
            obtain ⟨vn, HVN⟩ : ∃ vn, Hid (a.cs.length = vn) := ⟨_, hide rfl⟩
            have hvn : vn ≤ 1 := by rw [← unhide HVN, hST2.1]; exact Nat.le_refl _
            rw [unhide HVN] at d0 hv
            have V0 := hide hv
            obtain ⟨N, HN⟩ : ∃ N, Hid (nowAt xs S i = N) := ⟨_, hide rfl⟩
            obtain ⟨N2, HN2⟩ : ∃ N2, Hid (nowAt xs S (i + 1) = N2) := ⟨_, hide rfl⟩
            have HN2L : Hid (N2.length = 64) := by rw [← unhide HN2]; exact made_len _
            obtain ⟨Z2, HZ2⟩ : ∃ Z2, Hid ((if true then zigged N2 else []) = Z2) := ⟨_, hide rfl⟩
            have HZ2E : Hid (zigged N2 = Z2) := unhide HZ2
            have HZ2L : Hid (Z2.length = 64) := by rw [← unhide HZ2E]; exact made_len _
            have HNU2 : Hid (Hid (numsB (-32767) 32767 N2 = true)) := by rw [← unhide HN2]; exact lev_nums (now_lev (unhide HLV) S (i + 1))
            rw [unhide HN] at N0
            rw [unhide HN2, unhide HZ2E] at HWANT
            have HST0 := hide hST2.2
            clear hv hST2 HA his HVN
            have i1 := i64_in ((i : Int) + 1) (by omega)
            have i2 : ((i : Int) + 1) ≤ (uc : Int) := by omega
            have i3 : (0 : Int) ≤ (i : Int) + 1 := by omega
            have i4 : ((i : Int) + 1).toNat = i + 1 := by omega
            by_cases h0 : a.hi = 0
            · have n0 : (a.hi == 0) = true := by simp [h0]
              have HST : Hid (a.hi = 0 → putFirstG (nowAt xs S i) a (firstG xs a) = nowAt xs S (i + 1)) := (unhide HST0).1
              clear HST0
              obtain ⟨L1, HL1⟩ : ∃ L1, Hid (firstG xs a = L1) := ⟨_, hide rfl⟩
              have hL1 : L1.length ≤ 64 := by rw [← unhide HL1]; exact first_few _ _
              have HPN : Hid (putFirstG N a L1 = N2) := by unfold Hid; rw [← unhide HL1, ← unhide HN, ← unhide HN2]; exact unhide HST h0
              have ga := World.grownBy_alloc wr (.cells #[.slice vo vn vc, .int .i64 a.fr, .int .i64 a.to, .int .i64 a.hi, .int .i64 a.lo] 26) none
              have BX1 := hide (heap_alloc_new wr (.cells #[.slice vo vn vc, .int .i64 a.fr, .int .i64 a.to, .int .i64 a.hi, .int .i64 a.lo] 26))
              obtain ⟨sb, HSB⟩ : ∃ sb, Hid (wr.heap.size = sb) := ⟨_, hide rfl⟩
              clear h0 HST
              have c0 := scanCells (unhide BX1)
              go_wp2_with fail
              rw [unhide HSB] at BX1 ⊢
              have P1 := hide ((unhide P0).new ga)
              have G1 := hide (grown_trans (unhide G0) ga)
              have N1 := hide ((unhide N0).grown ga)
              have V1 := hide ((unhide V0).grown ga)
              clear P0 G0 N0 V0 ga c0 d0 d1 d2 d3 d4 HSB n0
              generalize (wr.alloc (.cells #[.slice vo vn vc, .int .i64 a.fr, .int .i64 a.to, .int .i64 a.hi, .int .i64 a.lo] 26)) = W1 at *
              refine (unhide HC1 so k sc xs W1 (unhide P1).blk (by omega) vo vn vc a (unhide V1) (by omega) L1 HL1).mono ?_
              rintro e W2 ⟨lo1, lc1, rfl, o2, g2⟩
              have R2 := hide (own_rd o2)
              have BX2 := hide (at_rowS g2 (unhide BX1) (by simp))
              clear o2 BX1
              have P2 := hide ((unhide P1).new g2)
              have G2 := hide (grown_trans (unhide G1) g2)
              have N2 := hide ((unhide N1).grown g2)
              have V2 := hide ((unhide V1).grown g2)
              clear P1 G1 N1 V1 g2
              have c0 := scanCells (unhide BX2)
              go_wp2_with fail
              refine (specFirstOf so k sc xs W2 (unhide P2).blk vo vn vc a L1 HL1).mono ?_
              rintro e W3 ⟨lo2, lc2, rfl, o3, g3⟩
              have Q3 := hide (own_rd o3)
              have BX3 := hide (at_rowS g3 (unhide BX2) (by simp))
              clear o3 BX2 c0
              have P3 := hide ((unhide P2).new g3)
              have G3 := hide (grown_trans (unhide G2) g3)
              have N3 := hide ((unhide N2).grown g3)
              have V3 := hide ((unhide V2).grown g3)
              have R3 := hide ((unhide R2).grown g3)
              clear P2 G2 N2 V2 R2 g3
              go_wp2_with fail
              refine (sameInts _ _ L1.length _ _ L1 W3 (unhide R3) (unhide Q3) (by omega)).mono ?_
              rintro e W4 ⟨rfl, g4⟩
              have BX4 := hide (at_rowS g4 (unhide BX3) (by simp))
              clear Q3 BX3
              have P4 := hide ((unhide P3).new g4)
              have G4 := hide (grown_trans (unhide G3) g4)
              have N4 := hide ((unhide N3).grown g4)
              have V4 := hide ((unhide V3).grown g4)
              have R4 := hide ((unhide R3).grown g4)
              clear P3 G3 N3 V3 R3 g4
              have c0 := scanCells (unhide BX4)
              go_wp2_with fail
              refine (unhide HC3 no 64 nc N W4 (unhide N4) (by omega) vo vn vc a (unhide V4) (by omega) lo1 L1.length lc1 L1 (unhide R4) (by omega) N2 HPN).mono ?_
              rintro e W5 ⟨no2, nc2, rfl, o5, g5⟩
              rw [unhide HN2L] at o5 ⊢
              have M5 := hide (own_rd o5)
              clear o5 c0 BX4 N4 V4 R4
              have P5 := hide ((unhide P4).new g5)
              have G5 := hide (grown_trans (unhide G4) g5)
              clear P4 G4  g5
              go_wp2
              refine wp_region_noPanic ?_
              have gd := grown_drew (World.grownBy.refl W5 none)
              have M6 := hide ((unhide M5).grown gd)
              clear M5
              have P6 := hide ((unhide P5).new gd)
              have G6 := hide (grown_trans (unhide G5) gd)
              clear P5 G5  gd
              refine wp_region_tailL 20 (fun W => W.heap[fb]? = some (.cells #[.int .i64 8, .int .i64 8, .int .i64 8, .int .i64 0, .slice fo 1 1] 33 (0, 0))) [true, true, true, true, true, false, false] (by kernel_rfl) (fun _ _ _ _ _ h => h) rfl (by decide) (by kernel_rfl) (unhide P6).fr ?_
              generalize W5.drew = W6 at *
              refine heldF_take (v := ?_) (Or.inl ⟨by rfl, ?_⟩) ?_
              rotate_left 1
              · intro w' hSw
                try dsimp only at hSw
                have s1 := frameCells' hSw
                go_simp
                try with_reducible rfl
              try simp only [Act.put, List.setIfInBounds_toArray, List.set_cons_zero, List.set_cons_succ]
              refine heldF_take (v := ?_) (Or.inl ⟨by rfl, ?_⟩) ?_
              rotate_left 1
              · intro w' hSw
                try dsimp only at hSw
                have s1 := frameCells' hSw
                go_simp
                try with_reducible rfl
              try simp only [Act.put, List.setIfInBounds_toArray, List.set_cons_zero, List.set_cons_succ]
              refine heldF_take (v := ?_) (Or.inl ⟨by rfl, ?_⟩) ?_
              rotate_left 1
              · intro w' hSw
                try dsimp only at hSw
                have s1 := frameCells' hSw
                go_simp
                try with_reducible rfl
              try simp only [Act.put, List.setIfInBounds_toArray, List.set_cons_zero, List.set_cons_succ]
              refine heldF_take (v := ?_) (Or.inl ⟨by rfl, ?_⟩) ?_
              rotate_left 1
              · intro w' hSw
                try dsimp only at hSw
                have s1 := frameCells' hSw
                go_simp
                try with_reducible rfl
              try simp only [Act.put, List.setIfInBounds_toArray, List.set_cons_zero, List.set_cons_succ]
              refine heldF_take (v := ?_) (Or.inl ⟨by rfl, ?_⟩) ?_
              rotate_left 1
              · intro w' hSw
                try dsimp only at hSw
                have s1 := frameCells' hSw
                go_simp
                try with_reducible rfl
              try simp only [Act.put, List.setIfInBounds_toArray, List.set_cons_zero, List.set_cons_succ]
              refine heldF_skip (heldF_skip (heldF_nil ?_))
              refine tailL_skip ?_
              refine tailL_skip ?_
              refine tailL_skip ?_
              refine tailL_skip ?_
              refine tailL_skip ?_
              refine tailL_step (fun K hK => ?_)
              go_simp
              refine (specLeftOf 8 8 8 0 fo 1 1 _ W6 (unhide P6).rc (by omega) (.slice (some ⟨b, off, none⟩) (i + 1) uc) (S.take (i + 1)) (rdSs_take (unhide P6).sc (i + 1) (by have := unhide HSL; omega) uc) (fun x hx => by have := unhide HCS x (List.mem_of_mem_take hx); omega) true one_frame [row] HROW).mono ?_
              rintro e W7 ⟨u7, F7, rfl, o7, -, -, g7⟩
              obtain ⟨lo7, lc7, rfl⟩ := OwR.form o7
              have Y7 := hide (OwR.rd (Q := RdI .i64) (fun _ _ _ _ h => h.rd) o7)
              clear o7
              have M7 := hide ((unhide M6).grown g7)
              clear M6
              have P7 := hide ((unhide P6).new g7)
              have G7 := hide (grown_trans (unhide G6) g7)
              clear P6 G6  g7
              go_simp
              refine hK.out _ _ (.inr (unhide P7).fr) ?_
              clear hK K
              refine tailL_step (fun K hK => ?_)
              go_simp
              refine hK.out _ _ (.inl rfl) ?_
              clear hK K
              refine tailL_nil (NoPanic.normal ?_)
              go_wp2_with fail
              refine (specToZig no2 64 nc2 N2 W7 (unhide M7) true (unhide HNU2) Z2 HZ2).mono ?_
              rintro e W8 ⟨zo, zc, rfl, o8, g8⟩
              rw [unhide HZ2L] at o8 ⊢
              have Z8 := hide (own_rd o8)
              clear o8
              have M8 := hide ((unhide M7).grown g8)
              have Y8 := hide (st2 _ _ _ _ (unhide Y7) g8)
              clear M7 Y7
              have P8 := hide ((unhide P7).new g8)
              have G8 := hide (grown_trans (unhide G7) g8)
              clear P7 G7  g8
              go_wp2_with fail
              refine (specToZig so k sc xs W8 (unhide P8).blk true (unhide HNU) ZX HZX).mono ?_
              rintro e W9 ⟨yo, yc, rfl, o9, g9⟩
              rw [unhide HZXL] at o9 ⊢
              have X9 := hide (own_rd o9)
              clear o9
              have M9 := hide ((unhide M8).grown g9)
              have Z9 := hide ((unhide Z8).grown g9)
              have Y9 := hide (st2 _ _ _ _ (unhide Y8) g9)
              clear M8 Z8 Y8
              have P9 := hide ((unhide P8).new g9)
              have G9 := hide (grown_trans (unhide G8) g9)
              clear P8 G8  g9
              obtain ⟨lb, loff, rb, roff, rc7, rfl, hl0, hlk⟩ := row_cell (unhide Y9) (unhide HRL)
              obtain ⟨zb, zoff, rfl, -⟩ := (unhide Z9).2 0 (by omega)
              obtain ⟨yb, yoff, rfl, -⟩ := (unhide X9).2 0 (by omega)
              have HL0 := hide hl0
              have HLK := hide hlk
              have HZK : Hid (∀ j, j < 64 → W9.cell? ⟨zb, zoff + j, none⟩ = some (.int .i64 (truncI (ZX.getD j 0) (row.getD j 0)))) := fun j hj => by obtain ⟨b9, o9, e9, h9⟩ := (unhide Z9).2 j hj; obtain ⟨rfl, rfl⟩ : zb = b9 ∧ zoff = o9 := (by simpa using e9); rw [h9, unhide HWANT j hj]
              have HXK : Hid (∀ j, j < 64 → W9.cell? ⟨yb, yoff + j, none⟩ = some (.int .i64 (ZX.getD j 0))) := fun j hj => by obtain ⟨b9, o9, e9, h9⟩ := (unhide X9).2 j hj; obtain ⟨rfl, rfl⟩ : yb = b9 ∧ yoff = o9 := (by simpa using e9); exact h9
              clear hl0 hlk Z9 X9 Y9
              go_wp2
              go_loopw [19] (fun jv wq => ∃ j : Nat, j ≤ 64 ∧ jv = .int .i64 (j : Int) ∧ Hid (W9.grownBy wq none)) (fun jv _ => 64 - (intOf jv).toNat)
              case atStart => exact ⟨0, by omega, rfl, World.grownBy.refl _ _⟩
              case round =>
                obtain ⟨j, hj, rfl, hg⟩ := hrel
                by_cases hlt : j < 64
                · have hd := decide_eq_true (show (j : Int) < 64 by omega)
                  have hj1 : (j : Int) < 64 := by omega
                  have t0 := (unhide hg).cell (unhide HL0) (by simp)
                  have t1 := (unhide hg).cell (unhide HLK j hlt) (by simp)
                  have t2 := (unhide hg).cell (unhide HZK j hlt) (by simp)
                  have t3 := (unhide hg).cell (unhide HXK j hlt) (by simp)
                  have hrow := unhide HRB j hlt
                  have hlev := unhide HLZ j hlt
                  generalize row.getD j 0 = l at t1 t2 hrow
                  generalize ZX.getD j 0 = y at t2 t3 hlev
                  by_cases hl : 0 ≤ l
                  · have dl := decide_eq_true hl
                    obtain ⟨ln, rfl⟩ := Int.eq_ofNat_of_zero_le hl
                    have ha : 0 ≤ absI y ∧ absI y ≤ 16383 := by unfold absI; split <;> omega
                    have hp := pow_in13 ln (by omega)
                    have hq := trunc_part (absI y) ln ha
                    have w1 := i64_in (absI y / 2 ^ ln) (by omega)
                    have w2 := i64_in (absI y / 2 ^ ln * 2 ^ ln) (by omega)
                    have w3 := i64_in (-(absI y / 2 ^ ln * 2 ^ ln)) (by omega)
                    have ht := want_is y (ln : Int) hl
                    rw [Int.toNat_natCast] at ht
                    have l1 : ¬ ((ln : Int) < 0) := by omega
                    have l2 : (ln : Int).toNat = ln := rfl
                    have HAB := hide (fun W => lawAbs y (by omega) W)
                    obtain ⟨A, HA⟩ : ∃ A, Hid (absI y / 2 ^ ln * 2 ^ ln = A) := ⟨_, hide rfl⟩
                    obtain ⟨q, HQ⟩ : ∃ q, Hid (absI y / 2 ^ ln = q) := ⟨_, hide rfl⟩
                    have HDW := hide (grown_trans (unhide hg) (grown_drew (World.grownBy.refl wr none)))
                    clear hp hq
                    go_wp2
                    refine wp_region_noPanic ?_
                    refine wp_region_tail (fun W => W.cell? ⟨lb, loff, none⟩ = some (.slice (some ⟨rb, roff, none⟩) 64 rc7) ∧ W.cell? ⟨rb, roff + j, none⟩ = some (.int .i64 (ln : Int)) ∧ W.cell? ⟨yb, yoff + j, none⟩ = some (.int .i64 y)) [true, true, true, true, false, true, true, true, true, true, true, false, true, true, true, true, true, true, false, false] (by kernel_rfl) (fun _ _ _ _ _ h => h) rfl (by kernel_rfl) ⟨t0, t1, t3⟩ ?_
                    refine heldF_take (v := ?_) (Or.inl ⟨by rfl, ?_⟩) ?_
                    rotate_left 1
                    · intro w' hSw
                      try dsimp only at hSw
                      obtain ⟨q0, q1, q2⟩ := hSw
                      go_simp
                      try with_reducible rfl
                    try simp only [Act.put, List.setIfInBounds_toArray, List.set_cons_zero, List.set_cons_succ]
                    refine heldF_take (v := ?_) (Or.inl ⟨by rfl, ?_⟩) ?_
                    rotate_left 1
                    · intro w' hSw
                      try dsimp only at hSw
                      obtain ⟨q0, q1, q2⟩ := hSw
                      go_simp
                      try with_reducible rfl
                    try simp only [Act.put, List.setIfInBounds_toArray, List.set_cons_zero, List.set_cons_succ]
                    refine heldF_take (v := ?_) (Or.inl ⟨by rfl, ?_⟩) ?_
                    rotate_left 1
                    · intro w' hSw
                      try dsimp only at hSw
                      obtain ⟨q0, q1, q2⟩ := hSw
                      go_simp
                      try with_reducible rfl
                    try simp only [Act.put, List.setIfInBounds_toArray, List.set_cons_zero, List.set_cons_succ]
                    refine heldF_take (v := ?_) (Or.inl ⟨by rfl, ?_⟩) ?_
                    rotate_left 1
                    · intro w' hSw
                      try dsimp only at hSw
                      obtain ⟨q0, q1, q2⟩ := hSw
                      go_simp
                      try with_reducible rfl
                    try simp only [Act.put, List.setIfInBounds_toArray, List.set_cons_zero, List.set_cons_succ]
                    refine heldF_skip ?_
                    refine heldF_take (v := ?_) (Or.inl ⟨by rfl, ?_⟩) ?_
                    rotate_left 1
                    · intro w' hSw
                      try dsimp only at hSw
                      obtain ⟨q0, q1, q2⟩ := hSw
                      go_simp
                      try with_reducible rfl
                    try simp only [Act.put, List.setIfInBounds_toArray, List.set_cons_zero, List.set_cons_succ]
                    refine heldF_take (v := ?_) (Or.inl ⟨by rfl, ?_⟩) ?_
                    rotate_left 1
                    · intro w' hSw
                      try dsimp only at hSw
                      obtain ⟨q0, q1, q2⟩ := hSw
                      go_simp
                      try with_reducible rfl
                    try simp only [Act.put, List.setIfInBounds_toArray, List.set_cons_zero, List.set_cons_succ]
                    refine heldF_take (v := ?_) (Or.inl ⟨by rfl, ?_⟩) ?_
                    rotate_left 1
                    · intro w' hSw
                      try dsimp only at hSw
                      obtain ⟨q0, q1, q2⟩ := hSw
                      go_simp
                      try with_reducible rfl
                    try simp only [Act.put, List.setIfInBounds_toArray, List.set_cons_zero, List.set_cons_succ]
                    refine heldF_take (v := ?_) (Or.inl ⟨by rfl, ?_⟩) ?_
                    rotate_left 1
                    · intro w' hSw
                      try dsimp only at hSw
                      obtain ⟨q0, q1, q2⟩ := hSw
                      go_simp
                      try with_reducible rfl
                    try simp only [Act.put, List.setIfInBounds_toArray, List.set_cons_zero, List.set_cons_succ]
                    refine heldF_take (v := ?_) (Or.inl ⟨by rfl, ?_⟩) ?_
                    rotate_left 1
                    · intro w' hSw
                      try dsimp only at hSw
                      obtain ⟨q0, q1, q2⟩ := hSw
                      go_simp
                      try with_reducible rfl
                    try simp only [Act.put, List.setIfInBounds_toArray, List.set_cons_zero, List.set_cons_succ]
                    refine heldF_take (v := ?_) (Or.inl ⟨by rfl, ?_⟩) ?_
                    rotate_left 1
                    · intro w' hSw
                      try dsimp only at hSw
                      obtain ⟨q0, q1, q2⟩ := hSw
                      go_simp
                      try with_reducible rfl
                    try simp only [Act.put, List.setIfInBounds_toArray, List.set_cons_zero, List.set_cons_succ]
                    refine heldF_skip ?_
                    refine heldF_take (v := ?_) (Or.inl ⟨by rfl, ?_⟩) ?_
                    rotate_left 1
                    · intro w' hSw
                      try dsimp only at hSw
                      obtain ⟨q0, q1, q2⟩ := hSw
                      go_simp
                      try with_reducible rfl
                    try simp only [Act.put, List.setIfInBounds_toArray, List.set_cons_zero, List.set_cons_succ]
                    refine heldF_take (v := ?_) (Or.inl ⟨by rfl, ?_⟩) ?_
                    rotate_left 1
                    · intro w' hSw
                      try dsimp only at hSw
                      obtain ⟨q0, q1, q2⟩ := hSw
                      go_simp
                      try with_reducible rfl
                    try simp only [Act.put, List.setIfInBounds_toArray, List.set_cons_zero, List.set_cons_succ]
                    refine heldF_take (v := ?_) (Or.inl ⟨by rfl, ?_⟩) ?_
                    rotate_left 1
                    · intro w' hSw
                      try dsimp only at hSw
                      obtain ⟨q0, q1, q2⟩ := hSw
                      go_simp
                      try with_reducible rfl
                    try simp only [Act.put, List.setIfInBounds_toArray, List.set_cons_zero, List.set_cons_succ]
                    refine heldF_take (v := ?_) (Or.inl ⟨by rfl, ?_⟩) ?_
                    rotate_left 1
                    · intro w' hSw
                      try dsimp only at hSw
                      obtain ⟨q0, q1, q2⟩ := hSw
                      go_simp
                      try with_reducible rfl
                    try simp only [Act.put, List.setIfInBounds_toArray, List.set_cons_zero, List.set_cons_succ]
                    refine heldF_take (v := ?_) (Or.inl ⟨by rfl, ?_⟩) ?_
                    rotate_left 1
                    · intro w' hSw
                      try dsimp only at hSw
                      obtain ⟨q0, q1, q2⟩ := hSw
                      go_simp
                      try with_reducible rfl
                    try simp only [Act.put, List.setIfInBounds_toArray, List.set_cons_zero, List.set_cons_succ]
                    refine heldF_take (v := ?_) (Or.inl ⟨by rfl, ?_⟩) ?_
                    rotate_left 1
                    · intro w' hSw
                      try dsimp only at hSw
                      obtain ⟨q0, q1, q2⟩ := hSw
                      go_simp
                      try with_reducible rfl
                    try simp only [Act.put, List.setIfInBounds_toArray, List.set_cons_zero, List.set_cons_succ]
                    refine heldF_skip ?_
                    refine heldF_skip ?_
                    refine heldF_nil ?_
                    refine tailF_skip ?_
                    refine tailF_skip ?_
                    refine tailF_skip ?_
                    refine tailF_skip ?_
                    refine tailF_step (fun K hK => ?_)
                    go_simp
                    refine (unhide HAB _).mono ?_
                    rintro e wz ⟨rfl, rfl⟩
                    refine hK.out _ _ ⟨t0, t1, t3⟩ ?_
                    clear hK K
                    refine tailF_skip ?_
                    refine tailF_skip ?_
                    refine tailF_skip ?_
                    refine tailF_skip ?_
                    refine tailF_skip ?_
                    refine tailF_skip ?_
                    refine tailF_step (fun K hK => ?_)
                    go_simp
                    refine hK.out _ _ ⟨t0, t1, t3⟩ ?_
                    clear hK K
                    refine tailF_skip ?_
                    refine tailF_skip ?_
                    refine tailF_skip ?_
                    refine tailF_skip ?_
                    refine tailF_skip ?_
                    refine tailF_skip ?_
                    refine tailF_step (fun K hK => ?_)
                    go_simp
                    refine hK.out _ _ ⟨t0, t1, t3⟩ ?_
                    clear hK K
                    refine tailF_step (fun K hK => ?_)
                    go_simp
                    refine hK.out _ _ ⟨t0, t1, t3⟩ ?_
                    clear hK K
                    refine tailF_nil (NoPanic.normal ?_)
                    by_cases hy : y < 0
                    · have dy := decide_eq_true hy
                      rw [if_pos hy] at ht
                      rw [ht] at t2
                      clear ht
                      go_wp2
                      go_roundw
                      case rel => exact ⟨j + 1, by omega, by go_num, HDW⟩
                      case measure => simp [intOf]; omega
                    · have dy := decide_eq_false hy
                      rw [if_neg hy] at ht
                      rw [ht] at t2
                      clear ht
                      go_wp2
                      go_roundw
                      case rel => exact ⟨j + 1, by omega, by go_num, HDW⟩
                      case measure => simp [intOf]; omega
                  · have dl := decide_eq_false hl
                    have e0 : truncI y l = 0 := by unfold truncI; rw [if_pos (by omega)]
                    rw [e0] at t2
                    clear e0
                    go_wp2
                    go_roundw
                    case rel => exact ⟨j + 1, by omega, by go_num, hg⟩
                    case measure => simp [intOf]; omega
                · obtain rfl : j = 64 := by omega
                  have P10 := hide ((unhide P9).new (unhide hg))
                  have G10 := hide (grown_trans (unhide G9) (unhide hg))
                  have M10 := hide ((unhide M9).grown (unhide hg))
                  clear P9 G9 M9 hg
                  go_wp2
                  go_roundw
                  case rel => exact ⟨i + 1, no2, nc2, by omega, by go_num, rfl, P10, by unfold Hid; rw [unhide HN2]; exact unhide M10, G10⟩
                  case measure => simp [intOf]; omega
            · have n0 : (a.hi == 0) = false := by simp [h0]
              have HST : Hid (a.hi ≠ 0 → putRefineG (nowAt xs S i) a (refineG xs a) = nowAt xs S (i + 1)) := (unhide HST0).2
              clear HST0
              obtain ⟨L1, HL1⟩ : ∃ L1, Hid (refineG xs a = L1) := ⟨_, hide rfl⟩
              have hL1 : L1.length ≤ 64 := by rw [← unhide HL1]; exact refine_few _ _
              have HPN : Hid (putRefineG N a L1 = N2) := by unfold Hid; rw [← unhide HL1, ← unhide HN, ← unhide HN2]; exact unhide HST h0
              have ga := World.grownBy_alloc wr (.cells #[.slice vo vn vc, .int .i64 a.fr, .int .i64 a.to, .int .i64 a.hi, .int .i64 a.lo] 26) none
              have BX1 := hide (heap_alloc_new wr (.cells #[.slice vo vn vc, .int .i64 a.fr, .int .i64 a.to, .int .i64 a.hi, .int .i64 a.lo] 26))
              obtain ⟨sb, HSB⟩ : ∃ sb, Hid (wr.heap.size = sb) := ⟨_, hide rfl⟩
              clear h0 HST
              have c0 := scanCells (unhide BX1)
              go_wp2_with fail
              rw [unhide HSB] at BX1 ⊢
              have P1 := hide ((unhide P0).new ga)
              have G1 := hide (grown_trans (unhide G0) ga)
              have N1 := hide ((unhide N0).grown ga)
              have V1 := hide ((unhide V0).grown ga)
              clear P0 G0 N0 V0 ga c0 d0 d1 d2 d3 d4 HSB n0
              generalize (wr.alloc (.cells #[.slice vo vn vc, .int .i64 a.fr, .int .i64 a.to, .int .i64 a.hi, .int .i64 a.lo] 26)) = W1 at *
              refine (unhide HC2 so k sc xs W1 (unhide P1).blk (by omega) vo vn vc a (unhide V1) (by omega) L1 HL1).mono ?_
              rintro e W2 ⟨lo1, lc1, rfl, o2, g2⟩
              have R2 := hide (own_rd o2)
              have BX2 := hide (at_rowS g2 (unhide BX1) (by simp))
              clear o2 BX1
              have P2 := hide ((unhide P1).new g2)
              have G2 := hide (grown_trans (unhide G1) g2)
              have N2 := hide ((unhide N1).grown g2)
              have V2 := hide ((unhide V1).grown g2)
              clear P1 G1 N1 V1 g2
              have c0 := scanCells (unhide BX2)
              go_wp2_with fail
              refine (specRefineOf so k sc xs W2 (unhide P2).blk vo vn vc a L1 HL1).mono ?_
              rintro e W3 ⟨lo2, lc2, rfl, o3, g3⟩
              have Q3 := hide (own_rd o3)
              have BX3 := hide (at_rowS g3 (unhide BX2) (by simp))
              clear o3 BX2 c0
              have P3 := hide ((unhide P2).new g3)
              have G3 := hide (grown_trans (unhide G2) g3)
              have N3 := hide ((unhide N2).grown g3)
              have V3 := hide ((unhide V2).grown g3)
              have R3 := hide ((unhide R2).grown g3)
              clear P2 G2 N2 V2 R2 g3
              go_wp2_with fail
              refine (sameInts _ _ L1.length _ _ L1 W3 (unhide R3) (unhide Q3) (by omega)).mono ?_
              rintro e W4 ⟨rfl, g4⟩
              have BX4 := hide (at_rowS g4 (unhide BX3) (by simp))
              clear Q3 BX3
              have P4 := hide ((unhide P3).new g4)
              have G4 := hide (grown_trans (unhide G3) g4)
              have N4 := hide ((unhide N3).grown g4)
              have V4 := hide ((unhide V3).grown g4)
              have R4 := hide ((unhide R3).grown g4)
              clear P3 G3 N3 V3 R3 g4
              have c0 := scanCells (unhide BX4)
              go_wp2_with fail
              refine (unhide HC4 no 64 nc N W4 (unhide N4) (by omega) vo vn vc a (unhide V4) (by omega) lo1 L1.length lc1 L1 (unhide R4) (by omega) N2 HPN).mono ?_
              rintro e W5 ⟨no2, nc2, rfl, o5, g5⟩
              rw [unhide HN2L] at o5 ⊢
              have M5 := hide (own_rd o5)
              clear o5 c0 BX4 N4 V4 R4
              have P5 := hide ((unhide P4).new g5)
              have G5 := hide (grown_trans (unhide G4) g5)
              clear P4 G4  g5
              go_wp2
              refine wp_region_noPanic ?_
              have gd := grown_drew (World.grownBy.refl W5 none)
              have M6 := hide ((unhide M5).grown gd)
              clear M5
              have P6 := hide ((unhide P5).new gd)
              have G6 := hide (grown_trans (unhide G5) gd)
              clear P5 G5  gd
              refine wp_region_tailL 20 (fun W => W.heap[fb]? = some (.cells #[.int .i64 8, .int .i64 8, .int .i64 8, .int .i64 0, .slice fo 1 1] 33 (0, 0))) [true, true, true, true, true, false, false] (by kernel_rfl) (fun _ _ _ _ _ h => h) rfl (by decide) (by kernel_rfl) (unhide P6).fr ?_
              generalize W5.drew = W6 at *
              refine heldF_take (v := ?_) (Or.inl ⟨by rfl, ?_⟩) ?_
              rotate_left 1
              · intro w' hSw
                try dsimp only at hSw
                have s1 := frameCells' hSw
                go_simp
                try with_reducible rfl
              try simp only [Act.put, List.setIfInBounds_toArray, List.set_cons_zero, List.set_cons_succ]
              refine heldF_take (v := ?_) (Or.inl ⟨by rfl, ?_⟩) ?_
              rotate_left 1
              · intro w' hSw
                try dsimp only at hSw
                have s1 := frameCells' hSw
                go_simp
                try with_reducible rfl
              try simp only [Act.put, List.setIfInBounds_toArray, List.set_cons_zero, List.set_cons_succ]
              refine heldF_take (v := ?_) (Or.inl ⟨by rfl, ?_⟩) ?_
              rotate_left 1
              · intro w' hSw
                try dsimp only at hSw
                have s1 := frameCells' hSw
                go_simp
                try with_reducible rfl
              try simp only [Act.put, List.setIfInBounds_toArray, List.set_cons_zero, List.set_cons_succ]
              refine heldF_take (v := ?_) (Or.inl ⟨by rfl, ?_⟩) ?_
              rotate_left 1
              · intro w' hSw
                try dsimp only at hSw
                have s1 := frameCells' hSw
                go_simp
                try with_reducible rfl
              try simp only [Act.put, List.setIfInBounds_toArray, List.set_cons_zero, List.set_cons_succ]
              refine heldF_take (v := ?_) (Or.inl ⟨by rfl, ?_⟩) ?_
              rotate_left 1
              · intro w' hSw
                try dsimp only at hSw
                have s1 := frameCells' hSw
                go_simp
                try with_reducible rfl
              try simp only [Act.put, List.setIfInBounds_toArray, List.set_cons_zero, List.set_cons_succ]
              refine heldF_skip (heldF_skip (heldF_nil ?_))
              refine tailL_skip ?_
              refine tailL_skip ?_
              refine tailL_skip ?_
              refine tailL_skip ?_
              refine tailL_skip ?_
              refine tailL_step (fun K hK => ?_)
              go_simp
              refine (specLeftOf 8 8 8 0 fo 1 1 _ W6 (unhide P6).rc (by omega) (.slice (some ⟨b, off, none⟩) (i + 1) uc) (S.take (i + 1)) (rdSs_take (unhide P6).sc (i + 1) (by have := unhide HSL; omega) uc) (fun x hx => by have := unhide HCS x (List.mem_of_mem_take hx); omega) true one_frame [row] HROW).mono ?_
              rintro e W7 ⟨u7, F7, rfl, o7, -, -, g7⟩
              obtain ⟨lo7, lc7, rfl⟩ := OwR.form o7
              have Y7 := hide (OwR.rd (Q := RdI .i64) (fun _ _ _ _ h => h.rd) o7)
              clear o7
              have M7 := hide ((unhide M6).grown g7)
              clear M6
              have P7 := hide ((unhide P6).new g7)
              have G7 := hide (grown_trans (unhide G6) g7)
              clear P6 G6  g7
              go_simp
              refine hK.out _ _ (.inr (unhide P7).fr) ?_
              clear hK K
              refine tailL_step (fun K hK => ?_)
              go_simp
              refine hK.out _ _ (.inl rfl) ?_
              clear hK K
              refine tailL_nil (NoPanic.normal ?_)
              go_wp2_with fail
              refine (specToZig no2 64 nc2 N2 W7 (unhide M7) true (unhide HNU2) Z2 HZ2).mono ?_
              rintro e W8 ⟨zo, zc, rfl, o8, g8⟩
              rw [unhide HZ2L] at o8 ⊢
              have Z8 := hide (own_rd o8)
              clear o8
              have M8 := hide ((unhide M7).grown g8)
              have Y8 := hide (st2 _ _ _ _ (unhide Y7) g8)
              clear M7 Y7
              have P8 := hide ((unhide P7).new g8)
              have G8 := hide (grown_trans (unhide G7) g8)
              clear P7 G7  g8
              go_wp2_with fail
              refine (specToZig so k sc xs W8 (unhide P8).blk true (unhide HNU) ZX HZX).mono ?_
              rintro e W9 ⟨yo, yc, rfl, o9, g9⟩
              rw [unhide HZXL] at o9 ⊢
              have X9 := hide (own_rd o9)
              clear o9
              have M9 := hide ((unhide M8).grown g9)
              have Z9 := hide ((unhide Z8).grown g9)
              have Y9 := hide (st2 _ _ _ _ (unhide Y8) g9)
              clear M8 Z8 Y8
              have P9 := hide ((unhide P8).new g9)
              have G9 := hide (grown_trans (unhide G8) g9)
              clear P8 G8  g9
              obtain ⟨lb, loff, rb, roff, rc7, rfl, hl0, hlk⟩ := row_cell (unhide Y9) (unhide HRL)
              obtain ⟨zb, zoff, rfl, -⟩ := (unhide Z9).2 0 (by omega)
              obtain ⟨yb, yoff, rfl, -⟩ := (unhide X9).2 0 (by omega)
              have HL0 := hide hl0
              have HLK := hide hlk
              have HZK : Hid (∀ j, j < 64 → W9.cell? ⟨zb, zoff + j, none⟩ = some (.int .i64 (truncI (ZX.getD j 0) (row.getD j 0)))) := fun j hj => by obtain ⟨b9, o9, e9, h9⟩ := (unhide Z9).2 j hj; obtain ⟨rfl, rfl⟩ : zb = b9 ∧ zoff = o9 := (by simpa using e9); rw [h9, unhide HWANT j hj]
              have HXK : Hid (∀ j, j < 64 → W9.cell? ⟨yb, yoff + j, none⟩ = some (.int .i64 (ZX.getD j 0))) := fun j hj => by obtain ⟨b9, o9, e9, h9⟩ := (unhide X9).2 j hj; obtain ⟨rfl, rfl⟩ : yb = b9 ∧ yoff = o9 := (by simpa using e9); exact h9
              clear hl0 hlk Z9 X9 Y9
              go_wp2
              go_loopw [19] (fun jv wq => ∃ j : Nat, j ≤ 64 ∧ jv = .int .i64 (j : Int) ∧ Hid (W9.grownBy wq none)) (fun jv _ => 64 - (intOf jv).toNat)
              case atStart => exact ⟨0, by omega, rfl, World.grownBy.refl _ _⟩
              case round =>
                obtain ⟨j, hj, rfl, hg⟩ := hrel
                by_cases hlt : j < 64
                · have hd := decide_eq_true (show (j : Int) < 64 by omega)
                  have hj1 : (j : Int) < 64 := by omega
                  have t0 := (unhide hg).cell (unhide HL0) (by simp)
                  have t1 := (unhide hg).cell (unhide HLK j hlt) (by simp)
                  have t2 := (unhide hg).cell (unhide HZK j hlt) (by simp)
                  have t3 := (unhide hg).cell (unhide HXK j hlt) (by simp)
                  have hrow := unhide HRB j hlt
                  have hlev := unhide HLZ j hlt
                  generalize row.getD j 0 = l at t1 t2 hrow
                  generalize ZX.getD j 0 = y at t2 t3 hlev
                  by_cases hl : 0 ≤ l
                  · have dl := decide_eq_true hl
                    obtain ⟨ln, rfl⟩ := Int.eq_ofNat_of_zero_le hl
                    have ha : 0 ≤ absI y ∧ absI y ≤ 16383 := by unfold absI; split <;> omega
                    have hp := pow_in13 ln (by omega)
                    have hq := trunc_part (absI y) ln ha
                    have w1 := i64_in (absI y / 2 ^ ln) (by omega)
                    have w2 := i64_in (absI y / 2 ^ ln * 2 ^ ln) (by omega)
                    have w3 := i64_in (-(absI y / 2 ^ ln * 2 ^ ln)) (by omega)
                    have ht := want_is y (ln : Int) hl
                    rw [Int.toNat_natCast] at ht
                    have l1 : ¬ ((ln : Int) < 0) := by omega
                    have l2 : (ln : Int).toNat = ln := rfl
                    have HAB := hide (fun W => lawAbs y (by omega) W)
                    obtain ⟨A, HA⟩ : ∃ A, Hid (absI y / 2 ^ ln * 2 ^ ln = A) := ⟨_, hide rfl⟩
                    obtain ⟨q, HQ⟩ : ∃ q, Hid (absI y / 2 ^ ln = q) := ⟨_, hide rfl⟩
                    have HDW := hide (grown_trans (unhide hg) (grown_drew (World.grownBy.refl wr none)))
                    clear hp hq
                    go_wp2
                    refine wp_region_noPanic ?_
                    refine wp_region_tail (fun W => W.cell? ⟨lb, loff, none⟩ = some (.slice (some ⟨rb, roff, none⟩) 64 rc7) ∧ W.cell? ⟨rb, roff + j, none⟩ = some (.int .i64 (ln : Int)) ∧ W.cell? ⟨yb, yoff + j, none⟩ = some (.int .i64 y)) [true, true, true, true, false, true, true, true, true, true, true, false, true, true, true, true, true, true, false, false] (by kernel_rfl) (fun _ _ _ _ _ h => h) rfl (by kernel_rfl) ⟨t0, t1, t3⟩ ?_
                    refine heldF_take (v := ?_) (Or.inl ⟨by rfl, ?_⟩) ?_
                    rotate_left 1
                    · intro w' hSw
                      try dsimp only at hSw
                      obtain ⟨q0, q1, q2⟩ := hSw
                      go_simp
                      try with_reducible rfl
                    try simp only [Act.put, List.setIfInBounds_toArray, List.set_cons_zero, List.set_cons_succ]
                    refine heldF_take (v := ?_) (Or.inl ⟨by rfl, ?_⟩) ?_
                    rotate_left 1
                    · intro w' hSw
                      try dsimp only at hSw
                      obtain ⟨q0, q1, q2⟩ := hSw
                      go_simp
                      try with_reducible rfl
                    try simp only [Act.put, List.setIfInBounds_toArray, List.set_cons_zero, List.set_cons_succ]
                    refine heldF_take (v := ?_) (Or.inl ⟨by rfl, ?_⟩) ?_
                    rotate_left 1
                    · intro w' hSw
                      try dsimp only at hSw
                      obtain ⟨q0, q1, q2⟩ := hSw
                      go_simp
                      try with_reducible rfl
                    try simp only [Act.put, List.setIfInBounds_toArray, List.set_cons_zero, List.set_cons_succ]
                    refine heldF_take (v := ?_) (Or.inl ⟨by rfl, ?_⟩) ?_
                    rotate_left 1
                    · intro w' hSw
                      try dsimp only at hSw
                      obtain ⟨q0, q1, q2⟩ := hSw
                      go_simp
                      try with_reducible rfl
                    try simp only [Act.put, List.setIfInBounds_toArray, List.set_cons_zero, List.set_cons_succ]
                    refine heldF_skip ?_
                    refine heldF_take (v := ?_) (Or.inl ⟨by rfl, ?_⟩) ?_
                    rotate_left 1
                    · intro w' hSw
                      try dsimp only at hSw
                      obtain ⟨q0, q1, q2⟩ := hSw
                      go_simp
                      try with_reducible rfl
                    try simp only [Act.put, List.setIfInBounds_toArray, List.set_cons_zero, List.set_cons_succ]
                    refine heldF_take (v := ?_) (Or.inl ⟨by rfl, ?_⟩) ?_
                    rotate_left 1
                    · intro w' hSw
                      try dsimp only at hSw
                      obtain ⟨q0, q1, q2⟩ := hSw
                      go_simp
                      try with_reducible rfl
                    try simp only [Act.put, List.setIfInBounds_toArray, List.set_cons_zero, List.set_cons_succ]
                    refine heldF_take (v := ?_) (Or.inl ⟨by rfl, ?_⟩) ?_
                    rotate_left 1
                    · intro w' hSw
                      try dsimp only at hSw
                      obtain ⟨q0, q1, q2⟩ := hSw
                      go_simp
                      try with_reducible rfl
                    try simp only [Act.put, List.setIfInBounds_toArray, List.set_cons_zero, List.set_cons_succ]
                    refine heldF_take (v := ?_) (Or.inl ⟨by rfl, ?_⟩) ?_
                    rotate_left 1
                    · intro w' hSw
                      try dsimp only at hSw
                      obtain ⟨q0, q1, q2⟩ := hSw
                      go_simp
                      try with_reducible rfl
                    try simp only [Act.put, List.setIfInBounds_toArray, List.set_cons_zero, List.set_cons_succ]
                    refine heldF_take (v := ?_) (Or.inl ⟨by rfl, ?_⟩) ?_
                    rotate_left 1
                    · intro w' hSw
                      try dsimp only at hSw
                      obtain ⟨q0, q1, q2⟩ := hSw
                      go_simp
                      try with_reducible rfl
                    try simp only [Act.put, List.setIfInBounds_toArray, List.set_cons_zero, List.set_cons_succ]
                    refine heldF_take (v := ?_) (Or.inl ⟨by rfl, ?_⟩) ?_
                    rotate_left 1
                    · intro w' hSw
                      try dsimp only at hSw
                      obtain ⟨q0, q1, q2⟩ := hSw
                      go_simp
                      try with_reducible rfl
                    try simp only [Act.put, List.setIfInBounds_toArray, List.set_cons_zero, List.set_cons_succ]
                    refine heldF_skip ?_
                    refine heldF_take (v := ?_) (Or.inl ⟨by rfl, ?_⟩) ?_
                    rotate_left 1
                    · intro w' hSw
                      try dsimp only at hSw
                      obtain ⟨q0, q1, q2⟩ := hSw
                      go_simp
                      try with_reducible rfl
                    try simp only [Act.put, List.setIfInBounds_toArray, List.set_cons_zero, List.set_cons_succ]
                    refine heldF_take (v := ?_) (Or.inl ⟨by rfl, ?_⟩) ?_
                    rotate_left 1
                    · intro w' hSw
                      try dsimp only at hSw
                      obtain ⟨q0, q1, q2⟩ := hSw
                      go_simp
                      try with_reducible rfl
                    try simp only [Act.put, List.setIfInBounds_toArray, List.set_cons_zero, List.set_cons_succ]
                    refine heldF_take (v := ?_) (Or.inl ⟨by rfl, ?_⟩) ?_
                    rotate_left 1
                    · intro w' hSw
                      try dsimp only at hSw
                      obtain ⟨q0, q1, q2⟩ := hSw
                      go_simp
                      try with_reducible rfl
                    try simp only [Act.put, List.setIfInBounds_toArray, List.set_cons_zero, List.set_cons_succ]
                    refine heldF_take (v := ?_) (Or.inl ⟨by rfl, ?_⟩) ?_
                    rotate_left 1
                    · intro w' hSw
                      try dsimp only at hSw
                      obtain ⟨q0, q1, q2⟩ := hSw
                      go_simp
                      try with_reducible rfl
                    try simp only [Act.put, List.setIfInBounds_toArray, List.set_cons_zero, List.set_cons_succ]
                    refine heldF_take (v := ?_) (Or.inl ⟨by rfl, ?_⟩) ?_
                    rotate_left 1
                    · intro w' hSw
                      try dsimp only at hSw
                      obtain ⟨q0, q1, q2⟩ := hSw
                      go_simp
                      try with_reducible rfl
                    try simp only [Act.put, List.setIfInBounds_toArray, List.set_cons_zero, List.set_cons_succ]
                    refine heldF_take (v := ?_) (Or.inl ⟨by rfl, ?_⟩) ?_
                    rotate_left 1
                    · intro w' hSw
                      try dsimp only at hSw
                      obtain ⟨q0, q1, q2⟩ := hSw
                      go_simp
                      try with_reducible rfl
                    try simp only [Act.put, List.setIfInBounds_toArray, List.set_cons_zero, List.set_cons_succ]
                    refine heldF_skip ?_
                    refine heldF_skip ?_
                    refine heldF_nil ?_
                    refine tailF_skip ?_
                    refine tailF_skip ?_
                    refine tailF_skip ?_
                    refine tailF_skip ?_
                    refine tailF_step (fun K hK => ?_)
                    go_simp
                    refine (unhide HAB _).mono ?_
                    rintro e wz ⟨rfl, rfl⟩
                    refine hK.out _ _ ⟨t0, t1, t3⟩ ?_
                    clear hK K
                    refine tailF_skip ?_
                    refine tailF_skip ?_
                    refine tailF_skip ?_
                    refine tailF_skip ?_
                    refine tailF_skip ?_
                    refine tailF_skip ?_
                    refine tailF_step (fun K hK => ?_)
                    go_simp
                    refine hK.out _ _ ⟨t0, t1, t3⟩ ?_
                    clear hK K
                    refine tailF_skip ?_
                    refine tailF_skip ?_
                    refine tailF_skip ?_
                    refine tailF_skip ?_
                    refine tailF_skip ?_
                    refine tailF_skip ?_
                    refine tailF_step (fun K hK => ?_)
                    go_simp
                    refine hK.out _ _ ⟨t0, t1, t3⟩ ?_
                    clear hK K
                    refine tailF_step (fun K hK => ?_)
                    go_simp
                    refine hK.out _ _ ⟨t0, t1, t3⟩ ?_
                    clear hK K
                    refine tailF_nil (NoPanic.normal ?_)
                    by_cases hy : y < 0
                    · have dy := decide_eq_true hy
                      rw [if_pos hy] at ht
                      rw [ht] at t2
                      clear ht
                      go_wp2
                      go_roundw
                      case rel => exact ⟨j + 1, by omega, by go_num, HDW⟩
                      case measure => simp [intOf]; omega
                    · have dy := decide_eq_false hy
                      rw [if_neg hy] at ht
                      rw [ht] at t2
                      clear ht
                      go_wp2
                      go_roundw
                      case rel => exact ⟨j + 1, by omega, by go_num, HDW⟩
                      case measure => simp [intOf]; omega
                  · have dl := decide_eq_false hl
                    have e0 : truncI y l = 0 := by unfold truncI; rw [if_pos (by omega)]
                    rw [e0] at t2
                    clear e0
                    go_wp2
                    go_roundw
                    case rel => exact ⟨j + 1, by omega, by go_num, hg⟩
                    case measure => simp [intOf]; omega
                · obtain rfl : j = 64 := by omega
                  have P10 := hide ((unhide P9).new (unhide hg))
                  have G10 := hide (grown_trans (unhide G9) (unhide hg))
                  have M10 := hide ((unhide M9).grown (unhide hg))
                  clear P9 G9 M9 hg
                  go_wp2
                  go_roundw
                  case rel => exact ⟨i + 1, no2, nc2, by omega, by go_num, rfl, P10, by unfold Hid; rw [unhide HN2]; exact unhide M10, G10⟩
                  case measure => simp [intOf]; omega
          · obtain rfl : i = sn := by omega
            have NE : Hid (Rd .i64 wr no 64 xs) := by
              have e9 : nowAt xs S i = xs := by rw [← unhide HSL, ← unhide HSS]; exact now_end ((unhide HXL).trans (unhide HKK)) kind (unhide HKI)
              have h9 := unhide N0
              rw [e9] at h9
              exact h9
            have BE : Hid (Rd .i64 wr so 64 xs) := by have h9 := (unhide P0).blk; rw [unhide HKK] at h9; exact h9
            go_wp2_with fail
            rw [unhide HKK]
            refine (sameInts _ _ 64 _ _ xs wr (unhide NE) (unhide BE) (by omega)).mono ?_
            rintro e wz ⟨rfl, gz⟩
            have GZ := hide (grown_trans (unhide G0) gz)
            clear gz
            go_wp2
            go_ret
            exact ⟨rfl, unhide GZ⟩

set_option maxRecDepth 100000 in
theorem lawPasses (H1 : ImplFirst) (H2 : ImplRefine) (H3 : ImplPutF) (H4 : ImplPutR) (ao : Option Addr) (n cap : Nat) (zs : List Int) (bo : Option Addr) (m cap2 : Nat) (ms : List Int) (w : World) (hr : Rd .u8 w ao n zs) (hb : ∀ i, 0 ≤ zs.getD i 0 ∧ zs.getD i 0 ≤ 255) (hn : n ≤ maxLen) (hr2 : Rd .u8 w bo m ms) (hb2 : ∀ i, 0 ≤ ms.getD i 0 ∧ ms.getD i 0 ≤ 255) (hm : m ≤ maxLen) :
    Calls Try.prog 3 #[.slice ao n cap, .slice bo m cap2] w fun e w' => e = .returned (.bool true) ∧ Below w.heap.size w w' := by
  unfold maxLen at hn hm
  by_cases hbig : n ≤ 1048576
  · by_cases hbig2 : m ≤ 1048576
    · exact (lawPasses_in H1 H2 H3 H4 ao n cap zs bo m cap2 ms w hr hb hbig hr2 hb2 hbig2).mono (fun e w' h => ⟨h.1, grown_below h.2⟩)
    · clear hr hb hr2 hb2 H1 H2 H3 H4
      go_enter Try.func3, Try.ntmps3
      go_wp2_with fail
      refine (lawBig ao n cap false w (by unfold Hid; simp; omega)).mono ?_
      rintro e w0 ⟨rfl, rfl⟩
      go_wp2_with fail
      refine (lawBig bo m cap2 true w (by unfold Hid; simp; omega)).mono ?_
      rintro e w0 ⟨rfl, rfl⟩
      go_wp2
      go_ret
      exact ⟨rfl, Below.refl _ _⟩
  · clear hr hb hr2 hb2 H1 H2 H3 H4
    go_enter Try.func3, Try.ntmps3
    go_wp2_with fail
    refine (lawBig ao n cap true w (by unfold Hid; simp; omega)).mono ?_
    rintro e w0 ⟨rfl, rfl⟩
    go_wp2
    go_ret
    exact ⟨rfl, Below.refl _ _⟩

end Go.Proofs.Ytfgglainjaplgaa

namespace Go.Proofs.Ytfgglainjaplgaa
open Go.RowKit Go.Shelf

theorem nearestLevel (n : Int) (w : World) :
    Calls Try.prog 70 #[.int .i64 n] w fun e w' => e = .returned (.int .i64 (min (max n (-16383)) 16383)) ∧ w = w' := by
  go_enter Try.func70, Try.ntmps70
  go_wp2
  all_goals
    go_ret
    refine ⟨ret_int ?_, rfl⟩
    first | omega | (split at * <;> omega)

set_option maxRecDepth 20000 in
set_option maxHeartbeats 400000 in
theorem fixLevels (ao : Option Addr) (n cap : Nat) (zs : List Int) (w : World) (hr : Rd .i64 w ao n zs) (b : Bool) (hb : Hid (levB (-16383) 16383 zs = b)) :
    Calls Try.prog 60 #[.slice ao n cap] w fun e w' => (∃ ys, e = .returned (.tuple #[.agg (sq ys), .bool b]) ∧ ys.length = 64 ∧ (n = 64 → ys = zs)) ∧ w.grownBy w' none := by
  by_cases h : n = 64
  · subst h
    obtain ⟨bb, off, rfl, _⟩ := hr.2 0 (by omega)
    have e : (zs == made (fun k => min (max (zs.getD k 0) (-16383)) 16383)) = b := by rw [clip_same (by omega) zs hr.1]; exact unhide hb
    have HZ := hide hr.1
    have HR := hide (hr.grown (World.grownBy_alloc w (.cells #[.int .i64 0, .int .i64 0, .int .i64 0, .int .i64 0, .int .i64 0, .int .i64 0, .int .i64 0, .int .i64 0, .int .i64 0, .int .i64 0, .int .i64 0, .int .i64 0, .int .i64 0, .int .i64 0, .int .i64 0, .int .i64 0, .int .i64 0, .int .i64 0, .int .i64 0, .int .i64 0, .int .i64 0, .int .i64 0, .int .i64 0, .int .i64 0, .int .i64 0, .int .i64 0, .int .i64 0, .int .i64 0, .int .i64 0, .int .i64 0, .int .i64 0, .int .i64 0, .int .i64 0, .int .i64 0, .int .i64 0, .int .i64 0, .int .i64 0, .int .i64 0, .int .i64 0, .int .i64 0, .int .i64 0, .int .i64 0, .int .i64 0, .int .i64 0, .int .i64 0, .int .i64 0, .int .i64 0, .int .i64 0, .int .i64 0, .int .i64 0, .int .i64 0, .int .i64 0, .int .i64 0, .int .i64 0, .int .i64 0, .int .i64 0, .int .i64 0, .int .i64 0, .int .i64 0, .int .i64 0, .int .i64 0, .int .i64 0, .int .i64 0, .int .i64 0] 73) none))
    clear hr
    go_enter Try.func60, Try.ntmps60
    go_wp2_with fail
    refine (fixSquare_yes bb off cap zs _ (unhide HR) (fun k => min (max (zs.getD k 0) (-16383)) 16383) 70 #[] (enters_of Try.func70 (by kernel_rfl) rfl) (fun k hk W hW => (nearestLevel (zs.getD k 0) W).mono ?_)).mono ?_
    · rintro e w' ⟨rfl, rfl⟩
      exact ⟨rfl, World.grownBy.refl _ _⟩
    · rintro e' w' ⟨rfl, g⟩
      rw [e]
      clear HR hb e
      have hB := (g.block w.heap.size (by simp) (by simp)).trans (heap_alloc_new w _)
      have HB := hide hB
      clear hB
      go_wp2_with (refine store_row rfl 73 _ _ rfl w.heap.size rfl (sq zs) rfl #[.int .i64 0, .int .i64 0, .int .i64 0, .int .i64 0, .int .i64 0, .int .i64 0, .int .i64 0, .int .i64 0, .int .i64 0, .int .i64 0, .int .i64 0, .int .i64 0, .int .i64 0, .int .i64 0, .int .i64 0, .int .i64 0, .int .i64 0, .int .i64 0, .int .i64 0, .int .i64 0, .int .i64 0, .int .i64 0, .int .i64 0, .int .i64 0, .int .i64 0, .int .i64 0, .int .i64 0, .int .i64 0, .int .i64 0, .int .i64 0, .int .i64 0, .int .i64 0, .int .i64 0, .int .i64 0, .int .i64 0, .int .i64 0, .int .i64 0, .int .i64 0, .int .i64 0, .int .i64 0, .int .i64 0, .int .i64 0, .int .i64 0, .int .i64 0, .int .i64 0, .int .i64 0, .int .i64 0, .int .i64 0, .int .i64 0, .int .i64 0, .int .i64 0, .int .i64 0, .int .i64 0, .int .i64 0, .int .i64 0, .int .i64 0, .int .i64 0, .int .i64 0, .int .i64 0, .int .i64 0, .int .i64 0, .int .i64 0, .int .i64 0, .int .i64 0] 73 (unhide HB) (by rw [sq_size, unhide HZ]; rfl) (by rw [sq_size, unhide HZ]; kernel_rfl) (sq_one _) ?_; intro w3 hB3 g3)
      refine bodyPost_ret (v := .tuple #[.agg (sq zs), .bool b]) ?_ rfl ⟨⟨_, rfl, (by first | exact unhide HZ | exact zs64_len), ?_⟩, ?_⟩
      · exact results_c2 (p := 2) (q := 3) (ty := 73) rfl _ _ _ w.heap.size rfl _ (run_loadVar_row w3 _ 73 73 _ (0, 0) _ hB3 Try.underlying73 rfl (by rw [sq_size, unhide HZ]; kernel_rfl))
      · intro hh; first | rfl | exact absurd hh h
      · exact grown_new (grown_new (World.grownBy_alloc _ _ _) g (fun g e => by simp at e)) g3 (fun g e => by simp at e; omega)
  · have hb' : b = false := by rw [← unhide hb]; simp [levB, hr.1, h]
    subst hb'
    clear hr hb
    go_enter Try.func60, Try.ntmps60
    go_wp2_with fail
    refine (fixSquare_no ao n cap _ _ h).mono ?_
    rintro e' w' ⟨rfl, g⟩
    have hB := (g.block w.heap.size (by simp) (by simp)).trans (heap_alloc_new w _)
    have HB := hide hB
    clear hB
    go_wp2_with (refine store_row rfl 73 _ _ rfl w.heap.size rfl (sq zs64) rfl #[.int .i64 0, .int .i64 0, .int .i64 0, .int .i64 0, .int .i64 0, .int .i64 0, .int .i64 0, .int .i64 0, .int .i64 0, .int .i64 0, .int .i64 0, .int .i64 0, .int .i64 0, .int .i64 0, .int .i64 0, .int .i64 0, .int .i64 0, .int .i64 0, .int .i64 0, .int .i64 0, .int .i64 0, .int .i64 0, .int .i64 0, .int .i64 0, .int .i64 0, .int .i64 0, .int .i64 0, .int .i64 0, .int .i64 0, .int .i64 0, .int .i64 0, .int .i64 0, .int .i64 0, .int .i64 0, .int .i64 0, .int .i64 0, .int .i64 0, .int .i64 0, .int .i64 0, .int .i64 0, .int .i64 0, .int .i64 0, .int .i64 0, .int .i64 0, .int .i64 0, .int .i64 0, .int .i64 0, .int .i64 0, .int .i64 0, .int .i64 0, .int .i64 0, .int .i64 0, .int .i64 0, .int .i64 0, .int .i64 0, .int .i64 0, .int .i64 0, .int .i64 0, .int .i64 0, .int .i64 0, .int .i64 0, .int .i64 0, .int .i64 0, .int .i64 0] 73 (unhide HB) (by rw [sq_size, zs64_len]; rfl) (by rw [sq_size, zs64_len]; kernel_rfl) (sq_one _) ?_; intro w3 hB3 g3)
    refine bodyPost_ret (v := .tuple #[.agg (sq zs64), .bool false]) ?_ rfl ⟨⟨_, rfl, (by first | exact unhide HZ | exact zs64_len), ?_⟩, ?_⟩
    · exact results_c2 (p := 2) (q := 3) (ty := 73) rfl _ _ _ w.heap.size rfl _ (run_loadVar_row w3 _ 73 73 _ (0, 0) _ hB3 Try.underlying73 rfl (by rw [sq_size, zs64_len]; kernel_rfl))
    · intro hh; first | rfl | exact absurd hh h
    · exact grown_new (grown_new (World.grownBy_alloc _ _ _) g (fun g e => by simp at e)) g3 (fun g e => by simp at e; omega)

end Go.Proofs.Ytfgglainjaplgaa

namespace Go.Proofs.Ytfgglainjaplgaa
open Go.RowKit

theorem kindOfPass (w : World) (v0 : Value) (a : Scn) (k : Int) (HK : Hid ((if a.hi = 0 then 0 else 1) = k)) :
    Calls Try.prog 62 #[scV v0 a] w fun e w' => e = .returned (.int .i64 k) ∧ w.grownBy w' none := by
  obtain ⟨cs, fr, to, hi, lo⟩ := a
  have hk := unhide HK
  unfold scV
  dsimp only at hk ⊢
  have HG0 : Hid (w.grownBy (w.alloc (.cells #[v0, .int .i64 fr, .int .i64 to, .int .i64 hi, .int .i64 lo] 26)) none) := World.grownBy_alloc _ _ _
  obtain ⟨c0, c1, c2, c3, c4⟩ := scanCells (heap_alloc_new w (.cells #[v0, .int .i64 fr, .int .i64 to, .int .i64 hi, .int .i64 lo] 26))
  clear HK
  by_cases h0 : hi = 0
  · have n0 : (hi == 0) = true := by simp [h0]
    obtain rfl : k = 0 := by rw [← hk, if_pos h0]
    clear h0 hk
    go_enter Try.func62, Try.ntmps62
    go_wp2
    go_ret
    exact ⟨rfl, unhide HG0⟩
  · have n0 : (hi == 0) = false := by simp [h0]
    obtain rfl : k = 1 := by rw [← hk, if_neg h0]
    clear h0 hk
    go_enter Try.func62, Try.ntmps62
    go_wp2
    go_ret
    exact ⟨rfl, unhide HG0⟩

theorem pow_all : ∀ lo : Nat, lo < 15 → (1 : Int) ≤ 2 ^ lo ∧ (2 : Int) ^ lo ≤ 16384 := by decide
theorem pow_in (lo : Nat) (h : lo ≤ 14) : (1 : Int) ≤ 2 ^ lo ∧ (2 : Int) ^ lo ≤ 16384 := pow_all lo (by omega)
theorem cut_tdiv (n : Int) (lo : Nat) : n.tdiv (2 ^ lo) = cutI n lo := by
  have hp := pow2_pos lo
  unfold cutI
  split
  · rename_i h
    have e : n = -(-n) := by omega
    rw [e, Int.neg_tdiv, Int.tdiv_eq_ediv_of_nonneg (by omega)]
    simp
  · rename_i h
    rw [Int.tdiv_eq_ediv_of_nonneg (by omega)]
theorem cut_in (n : Int) (lo : Nat) (hn : -16383 ≤ n ∧ n ≤ 16383) : -16383 ≤ cutI n lo ∧ cutI n lo ≤ 16383 := by
  have hp := pow2_pos lo
  have key : ∀ a : Int, 0 ≤ a → 0 ≤ a / 2 ^ lo ∧ a / 2 ^ lo ≤ a := fun a ha => ⟨Int.ediv_nonneg ha (Int.le_of_lt hp), Int.ediv_le_self _ ha⟩
  unfold cutI
  split
  · have := key (-n) (by omega); omega
  · have := key n (by omega); omega

theorem firstTell (n : Int) (lo : Nat) (hn : -16383 ≤ n ∧ n ≤ 16383) (hlo : lo ≤ 13) (w : World) :
    Calls Try.prog 72 #[.agg #[.int .i64 lo], .int .i64 n] w fun e w' => e = .returned (.int .i64 (cutI n lo)) ∧ w.grownBy w' none := by
  have hp := pow_in lo (by omega)
  have hc := cut_in n lo hn
  have e1 := i64_in (2 ^ lo) (by omega)
  have hne : ¬ ((2 : Int) ^ lo = 0) := by omega
  have et := cut_tdiv n lo
  have e2 := i64_in (cutI n lo) (by omega)
  have l1 : ¬ ((lo : Int) < 0) := by omega
  have l2 : (lo : Int).toNat = lo := rfl
  clear hp hc
  go_enter Try.func72, Try.ntmps72
  go_wp2
  go_ret
  exact ⟨rfl, World.grownBy_alloc _ _ _⟩

theorem first_most (told : Int) (lo : Nat) : decide (-(16383 / 2 ^ lo) ≤ told ∧ told ≤ 16383 / 2 ^ lo) = (inLev told && inLev (told * 2 ^ lo)) := by
  have hp := pow2_pos lo
  unfold inLev
  rw [Bool.eq_iff_iff, Bool.and_eq_true, decide_eq_true_eq, decide_eq_true_eq, decide_eq_true_eq]
  have h1 : ∀ x : Int, x ≤ 16383 / 2 ^ lo ↔ x * 2 ^ lo ≤ 16383 := fun x => Int.le_ediv_iff_mul_le hp
  have h2 := h1 told
  have h3 := h1 (-told)
  have h4 : -told * 2 ^ lo = -(told * 2 ^ lo) := Int.neg_mul _ _
  have h5 : (16383 : Int) / 2 ^ lo ≤ 16383 := Int.ediv_le_self _ (by omega)
  constructor
  · rintro ⟨g1, g2⟩
    have := h2.1 g2
    have := h3.1 (by omega)
    omega
  · rintro ⟨_, g3, g4⟩
    have := h2.2 g4
    have := h3.2 (by omega)
    omega

theorem firstPut (x told : Int) (lo : Nat) (hlo : lo ≤ 13) (b : Bool) (HB : Hid ((inLev told && inLev (told * 2 ^ lo)) = b)) (w : World) :
    Calls Try.prog 75 #[.agg #[.int .i64 lo], .int .i64 x, .int .i64 told] w fun e w' => ∃ y : Int, (e = .returned (.tuple #[.int .i64 y, .bool b]) ∧ (b = true → y = told * 2 ^ lo)) ∧ w.grownBy w' none := by
  have hp := pow_in lo (by omega)
  have e1 := i64_in (2 ^ lo) (by omega)
  have hne : ¬ ((2 : Int) ^ lo = 0) := by omega
  have hd0 : 0 ≤ (16383 : Int) / 2 ^ lo := Int.ediv_nonneg (by omega) (by omega)
  have hd1 : (16383 : Int) / 2 ^ lo ≤ 16383 := Int.ediv_le_self _ (by omega)
  have hm := first_most told lo
  rw [unhide HB] at hm
  have et : (16383 : Int).tdiv (2 ^ lo) = 16383 / 2 ^ lo := Int.tdiv_eq_ediv_of_nonneg (by omega)
  have l1 : ¬ ((lo : Int) < 0) := by omega
  have l2 : (lo : Int).toNat = lo := rfl
  have hb := unhide HB
  obtain ⟨q, HQ⟩ : ∃ q, Hid ((16383 : Int) / 2 ^ lo = q) := ⟨_, rfl⟩
  rw [unhide HQ] at hd0 hd1 hm et
  have e2 := i64_in q (by omega)
  have e3 := i64_in (-q) (by omega)
  have HM := hide hm
  have HG0 : Hid (w.grownBy (w.alloc (.cells #[.int .i64 lo] 99)) none) := World.grownBy_alloc _ _ _
  have e4 : b = true → IntKind.i64.wrap (told * 2 ^ lo) = told * 2 ^ lo := fun h => by
    rw [h] at hb
    unfold inLev at hb
    simp only [Bool.and_eq_true, decide_eq_true_eq] at hb
    exact i64_in _ (by omega)
  clear hp hd0 hd1 hm hb HB
  go_enter Try.func75, Try.ntmps75
  go_wp2_with fail
  refine (inRange told (-q) q b HM _).mono ?_
  rintro e w2 ⟨rfl, rfl⟩
  cases b with
  | false =>
    clear e4
    go_wp2
    exact bodyPost_ret (v := .tuple #[.int .i64 0, .bool false]) (by simp [results, Try.results75, go_sem]) rfl (by first | exact ⟨0, ⟨rfl, fun h => by cases h⟩, unhide HG0⟩ | exact unhide HG0 | exact ⟨rfl, unhide HG0⟩)
  | true =>
    have e5 := e4 rfl
    clear e4
    go_wp2
    exact bodyPost_ret (v := .tuple #[.int .i64 (told * 2 ^ lo), .bool true]) (by simp [results, Try.results75, go_sem]) rfl (by first | exact ⟨_, ⟨rfl, fun _ => rfl⟩, unhide HG0⟩ | exact unhide HG0 | exact ⟨rfl, unhide HG0⟩)

theorem levelOk (n : Int) (w : World) (b : Bool) (HB : Hid (inLev n = b)) :
    Calls Try.prog 79 #[.int .i64 n] w fun e w' => e = .returned (.bool b) ∧ w = w' := by
  have hb : (n == min (max n (-16383)) 16383) = b := by
    rw [← unhide HB]
    unfold inLev
    rw [Bool.eq_iff_iff, beq_iff_eq, decide_eq_true_eq]
    omega
  go_enter Try.func79, Try.ntmps79
  go_wp2_with fail
  refine (nearestLevel n w).mono ?_
  rintro e w2 ⟨rfl, rfl⟩
  go_wp2
  go_ret
  exact ⟨rfl, rfl⟩

theorem cut_bit (x : Int) (lo : Nat) (h0 : 0 ≤ x) (h1 : x ≤ 16383) : bits BinOp.and IntKind.i64 (x / 2 ^ lo) 1 = x / 2 ^ lo % 2 ∧ 0 ≤ x / 2 ^ lo ∧ x / 2 ^ lo ≤ 16383 := by
  have hq0 : 0 ≤ x / 2 ^ lo := Int.ediv_nonneg h0 (Int.le_of_lt (pow2_pos lo))
  have hq1 : x / 2 ^ lo ≤ x := Int.ediv_le_self _ h0
  exact ⟨and1_i64 _ hq0 (by omega), hq0, by omega⟩

set_option maxHeartbeats 800000 in
theorem refTell (n : Int) (hi lo : Nat) (hn : -16383 ≤ n ∧ n ≤ 16383) (hhi : hi ≤ 14) (hlo : lo ≤ 13) (w : World) :
    Calls Try.prog 73 #[.agg #[.int .i64 hi, .int .i64 lo], .int .i64 n] w fun e w' => e = .returned (.int .i64 (bitI n hi lo)) ∧ w.grownBy w' none := by
  have hp := pow_in hi hhi
  have e1 := i64_in (2 ^ hi) (by omega)
  have hne : ¬ ((2 : Int) ^ hi = 0) := by omega
  have et := cut_tdiv n hi
  have hc := cut_in n hi hn
  have e2 := i64_in (cutI n hi) (by omega)
  have e3 := i64_in (-n) (by omega)
  have l1 : ¬ ((lo : Int) < 0) := by omega
  have l2 : (lo : Int).toNat = lo := rfl
  have l3 : ¬ ((hi : Int) < 0) := by omega
  have l4 : (hi : Int).toNat = hi := rfl
  clear hp hc
  by_cases h : n < 0
  · have hd : decide (n < 0) = true := decide_eq_true h
    obtain ⟨e6, q0, q1⟩ := cut_bit (-n) lo (by omega) (by omega)
    have ea : absI n = -n := by unfold absI; rw [if_pos h]
    have em : max n (-n) = -n := by omega
    have e7 := i64_in (-(-n / 2 ^ lo % 2)) (by omega)
    by_cases h0 : cutI n hi = 0
    · have n0 : (cutI n hi == 0) = true := by simp [h0]
      have hb : bitI n hi lo = -(-n / 2 ^ lo % 2) := by unfold bitI; rw [if_pos ⟨h, h0⟩, ea]
      rw [hb]
      clear hb ea h0 q0 q1
      go_enter Try.func73, Try.ntmps73
      go_wp2
      go_ret
      exact ⟨rfl, World.grownBy_alloc _ _ _⟩
    · have n0 : (cutI n hi == 0) = false := by simp [h0]
      have hb : bitI n hi lo = -n / 2 ^ lo % 2 := by unfold bitI; rw [if_neg (fun hh => h0 hh.2), ea]
      rw [hb]
      clear hb ea h0 q0 q1
      go_enter Try.func73, Try.ntmps73
      go_wp2
      go_ret
      exact ⟨rfl, World.grownBy_alloc _ _ _⟩
  · have hd : decide (n < 0) = false := decide_eq_false h
    obtain ⟨e6, q0, q1⟩ := cut_bit n lo (by omega) (by omega)
    have ea : absI n = n := by unfold absI; rw [if_neg h]
    have em : max n (-n) = n := by omega
    have hb : bitI n hi lo = n / 2 ^ lo % 2 := by unfold bitI; rw [if_neg (fun hh => h hh.1), ea]
    rw [hb]
    clear hb ea q0 q1
    go_enter Try.func73, Try.ntmps73
    go_wp2
    go_ret
    exact ⟨rfl, World.grownBy_alloc _ _ _⟩

def refB (lo : Nat) (n told : Int) : Bool := decide (-1 ≤ told ∧ told ≤ 1) && !(decide (told < 0) && decide (n ≠ 0)) && inLev (finer lo told n)

set_option maxHeartbeats 800000 in
theorem refPut (n told : Int) (hi lo : Nat) (hn : -16383 ≤ n ∧ n ≤ 16383) (hlo : lo ≤ 13) (b : Bool) (HB : Hid (refB lo n told = b)) (w : World) :
    Calls Try.prog 76 #[.agg #[.int .i64 hi, .int .i64 lo], .int .i64 n, .int .i64 told] w fun e w' => ∃ y : Int, (e = .returned (.tuple #[.int .i64 y, .bool b]) ∧ (b = true → y = finer lo told n)) ∧ w.grownBy w' none := by
  have hp := pow_in lo (by omega)
  have e1 := i64_in (2 ^ lo) (by omega)
  have l1 : ¬ ((lo : Int) < 0) := by omega
  have l2 : (lo : Int).toNat = lo := rfl
  have hb := unhide HB
  unfold refB at hb
  obtain ⟨b1, HB1⟩ : ∃ b, Hid (decide (-1 ≤ told ∧ told ≤ 1) = b) := ⟨_, rfl⟩
  rw [unhide HB1] at hb
  have HG0 : Hid (w.grownBy (w.alloc (.cells #[.int .i64 hi, .int .i64 lo] 101)) none) := World.grownBy_alloc _ _ _
  clear HB
  go_enter Try.func76, Try.ntmps76
  go_wp2_with fail
  refine (inRange told (-1) 1 b1 HB1 _).mono ?_
  rintro e w2 ⟨rfl, rfl⟩
  cases b1 with
  | false =>
    obtain rfl : b = false := by rw [← hb]; rfl
    clear hb
    go_wp2
    exact bodyPost_ret (v := .tuple #[.int .i64 0, .bool false]) (by simp [results, Try.results76, go_sem]) rfl ⟨0, ⟨rfl, fun h => by cases h⟩, unhide HG0⟩
  | true =>
    have ht := of_decide_eq_true (unhide HB1)
    clear HB1
    by_cases hneg : told < 0 ∧ n ≠ 0
    · obtain rfl : b = false := by rw [← hb, decide_eq_true hneg.1, decide_eq_true hneg.2]; rfl
      have d1 := decide_eq_true hneg.1
      have d2 : (n != 0) = true := by simp [hneg.2]
      clear hb
      go_wp2
      exact bodyPost_ret (v := .tuple #[.int .i64 0, .bool false]) (by simp [results, Try.results76, go_sem]) rfl ⟨0, ⟨rfl, fun h => by cases h⟩, unhide HG0⟩
    · have hno : (decide (told < 0) && decide (n ≠ 0)) = false := by
        rw [Bool.eq_false_iff]
        intro h
        rw [Bool.and_eq_true, decide_eq_true_eq, decide_eq_true_eq] at h
        exact hneg h
      have hB2 : inLev (finer lo told n) = b := by rw [← hb, hno]; simp
      have hk : (told < 0 ∧ n = 0) ∨ ¬ told < 0 := by by_cases h : told < 0 <;> simp_all
      have hmul : -16384 ≤ told * 2 ^ lo ∧ told * 2 ^ lo ≤ 16384 := by
        have : told = -1 ∨ told = 0 ∨ told = 1 := by omega
        rcases this with rfl | rfl | rfl <;> omega
      have e2 := i64_in (told * 2 ^ lo) (by omega)
      have e3 := i64_in (-(told * 2 ^ lo)) (by omega)
      clear hb hno hneg
      have hw : Hid (∀ y, y = finer lo told n → (∃ y', (Ending.returned (.tuple #[.int .i64 y, .bool b]) = .returned (.tuple #[.int .i64 y', .bool b]) ∧ (b = true → y' = finer lo told n)))) := fun y hy => ⟨y, rfl, fun _ => hy⟩
      by_cases hn0 : n < 0
      · have d3 := decide_eq_true hn0
        have ef : finer lo told n = n + -(told * 2 ^ lo) := by unfold finer; rw [if_pos hn0, Int.neg_mul]
        have ht0 : ¬ told < 0 := by omega
        have d1 := decide_eq_false ht0
        have e4 := i64_in (n + -(told * 2 ^ lo)) (by omega)
        have HLV := hide (fun W => levelOk (n + -(told * 2 ^ lo)) W b (by rw [← ef]; exact hB2))
        have HEF := hide ef
        clear hk ef hB2 hmul
        go_wp2_with fail
        refine (unhide HLV _).mono ?_
        rintro e w3 ⟨rfl, rfl⟩
        go_wp2
        exact bodyPost_ret (v := .tuple #[.int .i64 (n + -(told * 2 ^ lo)), .bool b]) (by simp [results, Try.results76, go_sem]) rfl ⟨_, ⟨rfl, fun _ => (unhide HEF).symm⟩, unhide HG0⟩
      · have d3 := decide_eq_false hn0
        have ef : finer lo told n = n + told * 2 ^ lo := by unfold finer; rw [if_neg hn0]
        have e4 := i64_in (n + told * 2 ^ lo) (by omega)
        have HLV := hide (fun W => levelOk (n + told * 2 ^ lo) W b (by rw [← ef]; exact hB2))
        have HEF := hide ef
        clear ef hB2 hmul
        rcases hk with ⟨h1, h2⟩ | h1
        · have d1 := decide_eq_true h1
          have d2 : (n != 0) = false := by simp [h2]
          clear h2
          go_wp2_with fail
          refine (unhide HLV _).mono ?_
          rintro e w3 ⟨rfl, rfl⟩
          go_wp2
          exact bodyPost_ret (v := .tuple #[.int .i64 (n + told * 2 ^ lo), .bool b]) (by simp [results, Try.results76, go_sem]) rfl ⟨_, ⟨rfl, fun _ => (unhide HEF).symm⟩, unhide HG0⟩
        · have d1 := decide_eq_false h1
          go_wp2_with fail
          refine (unhide HLV _).mono ?_
          rintro e w3 ⟨rfl, rfl⟩
          go_wp2
          exact bodyPost_ret (v := .tuple #[.int .i64 (n + told * 2 ^ lo), .bool b]) (by simp [results, Try.results76, go_sem]) rfl ⟨_, ⟨rfl, fun _ => (unhide HEF).symm⟩, unhide HG0⟩

end Go.Proofs.Ytfgglainjaplgaa

namespace Go.Proofs.Ytfgglainjaplgaa
open Go.RowKit

/-- A scan in its box, and a table that is not filled yet. -/
structure Tw (w W : World) (bs : Array Value) (T : TypeId) : Prop where
  sb : W.heap[w.heap.size]? = some (.cells bs 26 (0, 0))
  rb : W.heap[w.heap.size + 1]? = some (.cells #[.nilFunc, .nilFunc] T (0, 0))
  grown : w.grownBy W none
theorem Tw.size {w W : World} {bs : Array Value} {T : TypeId} (h : Tw w W bs T) : w.heap.size + 2 ≤ W.heap.size := (Array.getElem?_eq_some_iff.1 h.rb).1
theorem Tw.new {w W W' : World} {bs : Array Value} {T : TypeId} (h : Tw w W bs T) (g : W.grownBy W' none) : Tw w W' bs T := ⟨grown_atT g h.sb (by simp), grown_atT g h.rb (by simp), grown_trans h.grown g⟩
theorem Tw.wr {w W W' : World} {bs : Array Value} {T : TypeId} {k : Nat} (h : Tw w W bs T) (g : W.grownBy W' (some k)) (hk : w.heap.size + 2 ≤ k) : Tw w W' bs T :=
  ⟨grown_atT g h.sb (by simp; omega), grown_atT g h.rb (by simp; omega), grown_new h.grown g (fun x e => by simp at e; omega)⟩
theorem Tw.start (w : World) (bs : Array Value) (T : TypeId) : Tw w ((w.alloc (.cells bs 26)).alloc (.cells #[.nilFunc, .nilFunc] T)) bs T := by
  refine ⟨?_, ?_, grown_alloc (World.grownBy_alloc _ _ _) _⟩
  · rw [Below.heap_alloc _ _ _ (by simp)]
    exact heap_alloc_new w _
  · have := heap_alloc_new (w.alloc (.cells bs 26)) (.cells #[.nilFunc, .nilFunc] T)
    simpa using this

set_option maxRecDepth 20000 in
set_option maxHeartbeats 1600000 in
theorem tellTable (w : World) (v0 : Value) (cs : List Int) (fr to hi lo : Int) :
    Calls Try.prog 63 #[scV v0 ⟨cs, fr, to, hi, lo⟩] w fun e w' => e = .returned (.agg #[.func (.func 72) #[.agg #[.int .i64 lo]] #[], .func (.func 73) #[.agg #[.int .i64 hi, .int .i64 lo]] #[]]) ∧ w.grownBy w' none := by
  have hmf : ∀ (fn : Fn) (first cap : Array Value) (w : World), (Instr.makeFunc fn first cap).run Try.prog w = .ok (.func fn first cap) w := fun _ _ _ _ => rfl
  unfold scV
  dsimp only
  have H0 := hide (Tw.start w #[v0, .int .i64 fr, .int .i64 to, .int .i64 hi, .int .i64 lo] 85)
  go_enter Try.func63, Try.ntmps63
  go_wp2
  generalize ((w.alloc (.cells #[v0, .int .i64 fr, .int .i64 to, .int .i64 hi, .int .i64 lo] 26)).alloc (.cells #[.nilFunc, .nilFunc] 85)) = W0 at *
  refine wp_region_noPanic ?_
  have H1 := hide ((unhide H0).new (grown_drew (World.grownBy.refl W0 none)))
  clear H0
  refine wp_region_raw (fun W => Tw w W #[v0, .int .i64 fr, .int .i64 to, .int .i64 hi, .int .i64 lo] 85) [true, true, true, true, true, true, true, true, false, false, false, false] (by kernel_rfl) (fun _ _ _ _ _ h => h) rfl (by kernel_rfl) (unhide H1) ?_
  generalize W0.drew = W1 at *
  refine heldF_take (v := ?_) (Or.inl ⟨by rfl, ?_⟩) ?_
  rotate_left 1
  · intro w' hSw
    try dsimp only at hSw
    obtain ⟨s0, s1, s2, s3, s4⟩ := scanCells hSw.sb
    clear hSw
    go_simp
    try with_reducible rfl
  simp only [Act.put, List.setIfInBounds_toArray, List.set_cons_zero, List.set_cons_succ]
  refine heldF_take (v := ?_) (Or.inl ⟨by rfl, ?_⟩) ?_
  rotate_left 1
  · intro w' hSw
    try dsimp only at hSw
    obtain ⟨s0, s1, s2, s3, s4⟩ := scanCells hSw.sb
    clear hSw
    go_simp
    try with_reducible rfl
  simp only [Act.put, List.setIfInBounds_toArray, List.set_cons_zero, List.set_cons_succ]
  refine heldF_take (v := ?_) (Or.inl ⟨by rfl, ?_⟩) ?_
  rotate_left 1
  · intro w' hSw
    try dsimp only at hSw
    obtain ⟨s0, s1, s2, s3, s4⟩ := scanCells hSw.sb
    clear hSw
    go_simp
    try with_reducible rfl
  simp only [Act.put, List.setIfInBounds_toArray, List.set_cons_zero, List.set_cons_succ]
  refine heldF_take (v := ?_) (Or.inl ⟨by rfl, ?_⟩) ?_
  rotate_left 1
  · intro w' hSw
    try dsimp only at hSw
    obtain ⟨s0, s1, s2, s3, s4⟩ := scanCells hSw.sb
    clear hSw
    go_simp
    try with_reducible rfl
  simp only [Act.put, List.setIfInBounds_toArray, List.set_cons_zero, List.set_cons_succ]
  refine heldF_take (v := ?_) (Or.inl ⟨by rfl, ?_⟩) ?_
  rotate_left 1
  · intro w' hSw
    try dsimp only at hSw
    obtain ⟨s0, s1, s2, s3, s4⟩ := scanCells hSw.sb
    clear hSw
    go_simp
    try with_reducible rfl
  simp only [Act.put, List.setIfInBounds_toArray, List.set_cons_zero, List.set_cons_succ]
  refine heldF_take (v := ?_) (Or.inl ⟨by rfl, ?_⟩) ?_
  rotate_left 1
  · intro w' hSw
    try dsimp only at hSw
    obtain ⟨s0, s1, s2, s3, s4⟩ := scanCells hSw.sb
    clear hSw
    go_simp
    try with_reducible rfl
  simp only [Act.put, List.setIfInBounds_toArray, List.set_cons_zero, List.set_cons_succ]
  refine heldF_take (v := ?_) (Or.inl ⟨by rfl, ?_⟩) ?_
  rotate_left 1
  · intro w' hSw
    try dsimp only at hSw
    obtain ⟨s0, s1, s2, s3, s4⟩ := scanCells hSw.sb
    clear hSw
    go_simp
    try with_reducible rfl
  simp only [Act.put, List.setIfInBounds_toArray, List.set_cons_zero, List.set_cons_succ]
  refine heldF_take (v := ?_) (Or.inl ⟨by rfl, ?_⟩) ?_
  rotate_left 1
  · intro w' hSw
    try dsimp only at hSw
    obtain ⟨s0, s1, s2, s3, s4⟩ := scanCells hSw.sb
    clear hSw
    go_simp
    try with_reducible rfl
  simp only [Act.put, List.setIfInBounds_toArray, List.set_cons_zero, List.set_cons_succ]
  refine heldF_skip (heldF_skip (heldF_skip (heldF_skip (heldF_nil ?_))))
  have hs1 := (unhide H1).size
  refine anyH_step2 (i := 8) (j := 9) rfl rfl (by kernel_rfl) (fun K hK => ?_) (fun K hK => ?_)
  · go_simp
    have H2 := hide ((unhide H1).new (World.grownBy_alloc W1 (.cells #[.int .i64 0] 99) none))
    have N2 := hide (heap_alloc_new W1 (.cells #[.int .i64 0] 99))
    have s2 : W1.heap.size + 1 ≤ (W1.alloc (.cells #[.int .i64 0] 99)).heap.size := by simp
    refine hK.out _ _ (unhide H2) ?_
    clear hK K H1
    try simp only [Act.put, List.setIfInBounds_toArray, List.set_cons_zero, List.set_cons_succ]
    generalize (W1.alloc (.cells #[.int .i64 0] 99)) = W2 at *
    refine anyH_step1 (i := 9) rfl (by kernel_rfl) (fun K hK => ?_)
    go_simp
    have H3 := hide ((unhide H2).new (World.grownBy_alloc W2 (.cells #[.int .i64 0, .int .i64 0] 101) none))
    have N3 := hide (heap_alloc_new W2 (.cells #[.int .i64 0, .int .i64 0] 101))
    have M3 := hide (grown_atT (World.grownBy_alloc W2 (.cells #[.int .i64 0, .int .i64 0] 101) none) (unhide N2) (by simp))
    have s3 : W2.heap.size + 1 ≤ (W2.alloc (.cells #[.int .i64 0, .int .i64 0] 101)).heap.size := by simp
    refine hK.out _ _ (unhide H3) ?_
    clear hK K H2 N2
    try simp only [Act.put, List.setIfInBounds_toArray, List.set_cons_zero, List.set_cons_succ]
    generalize (W2.alloc (.cells #[.int .i64 0, .int .i64 0] 101)) = W3 at *
    refine anyH_step1 (i := 10) rfl (by kernel_rfl) (fun K hK => ?_)
    refine step_store_row (by rfl) 99 _ _ rfl (W1.heap.size) rfl #[.int .i64 lo] rfl #[.int .i64 0] 99 (unhide M3) rfl (by kernel_rfl) (by simp [Value.oneCell']) ?_
    intro W4 N4 g4
    have H4 := hide ((unhide H3).wr g4 (by omega))
    have M4 := hide (grown_atT g4 (unhide N3) (by simp; omega))
    have P4 := hide N4
    refine hK.out _ _ (unhide H4) ?_
    clear hK K H3 M3 N3 N4 g4
    try simp only [Act.put]
    refine anyH_step1 (i := 11) rfl (by kernel_rfl) (fun K hK => ?_)
    refine step_store_row (by rfl) 101 _ _ rfl (W2.heap.size) rfl #[.int .i64 hi, .int .i64 lo] rfl #[.int .i64 0, .int .i64 0] 101 (unhide M4) rfl (by kernel_rfl) (by simp [Value.oneCell']) ?_
    intro W5 N5 g5
    have H5 := hide ((unhide H4).wr g5 (by omega))
    have P5 := hide (grown_atT g5 (unhide P4) (by simp; omega))
    have M5 := hide N5
    refine hK.out _ _ (unhide H5) ?_
    clear hK K H4 M4 P4 N5 g5
    try simp only [Act.put]
    refine wpAnyH_done (by kernel_rfl) (NoPanic.normal ?_) _
    go_wp2_with (first | (refine load_row rfl 99 _ rfl (W1.heap.size) rfl #[.int .i64 lo] 99 (unhide P5) _ Try.underlying99 rfl (by kernel_rfl) ?_) | (refine load_row rfl 101 _ rfl (W2.heap.size) rfl #[.int .i64 hi, .int .i64 lo] 101 (unhide M5) _ Try.underlying101 rfl (by kernel_rfl) ?_) | (refine store_row rfl 85 _ _ rfl (w.heap.size + 1) rfl #[.func (.func 72) #[.agg #[.int .i64 lo]] #[], .func (.func 73) #[.agg #[.int .i64 hi, .int .i64 lo]] #[]] rfl #[.nilFunc, .nilFunc] 85 (unhide H5).rb rfl (by kernel_rfl) (by simp [Value.oneCell']) ?_; intro W6 hB6 g6))
    refine bodyPost_ret (v := .agg #[.func (.func 72) #[.agg #[.int .i64 lo]] #[], .func (.func 73) #[.agg #[.int .i64 hi, .int .i64 lo]] #[]]) ?_ rfl ⟨rfl, ?_⟩
    · rw [results_c1 rfl]
      exact run_loadVar_row W6 _ 85 85 _ (0, 0) _ hB6 Try.underlying85 rfl (by kernel_rfl)
    · exact grown_new (unhide H5).grown g6 (fun g e => by simp at e; omega)
  · go_simp
    have H2 := hide ((unhide H1).new (World.grownBy_alloc W1 (.cells #[.int .i64 0, .int .i64 0] 101) none))
    have N2 := hide (heap_alloc_new W1 (.cells #[.int .i64 0, .int .i64 0] 101))
    have s2 : W1.heap.size + 1 ≤ (W1.alloc (.cells #[.int .i64 0, .int .i64 0] 101)).heap.size := by simp
    refine hK.out _ _ (unhide H2) ?_
    clear hK K H1
    try simp only [Act.put, List.setIfInBounds_toArray, List.set_cons_zero, List.set_cons_succ]
    generalize (W1.alloc (.cells #[.int .i64 0, .int .i64 0] 101)) = W2 at *
    refine anyH_step1 (i := 8) rfl (by kernel_rfl) (fun K hK => ?_)
    go_simp
    have H3 := hide ((unhide H2).new (World.grownBy_alloc W2 (.cells #[.int .i64 0] 99) none))
    have N3 := hide (heap_alloc_new W2 (.cells #[.int .i64 0] 99))
    have M3 := hide (grown_atT (World.grownBy_alloc W2 (.cells #[.int .i64 0] 99) none) (unhide N2) (by simp))
    have s3 : W2.heap.size + 1 ≤ (W2.alloc (.cells #[.int .i64 0] 99)).heap.size := by simp
    refine hK.out _ _ (unhide H3) ?_
    clear hK K H2 N2
    try simp only [Act.put, List.setIfInBounds_toArray, List.set_cons_zero, List.set_cons_succ]
    generalize (W2.alloc (.cells #[.int .i64 0] 99)) = W3 at *
    refine anyH_step1 (i := 10) rfl (by kernel_rfl) (fun K hK => ?_)
    refine step_store_row (by rfl) 99 _ _ rfl (W2.heap.size) rfl #[.int .i64 lo] rfl #[.int .i64 0] 99 (unhide N3) rfl (by kernel_rfl) (by simp [Value.oneCell']) ?_
    intro W4 N4 g4
    have H4 := hide ((unhide H3).wr g4 (by omega))
    have M4 := hide (grown_atT g4 (unhide M3) (by simp; omega))
    have P4 := hide N4
    refine hK.out _ _ (unhide H4) ?_
    clear hK K H3 M3 N3 N4 g4
    try simp only [Act.put]
    refine anyH_step1 (i := 11) rfl (by kernel_rfl) (fun K hK => ?_)
    refine step_store_row (by rfl) 101 _ _ rfl (W1.heap.size) rfl #[.int .i64 hi, .int .i64 lo] rfl #[.int .i64 0, .int .i64 0] 101 (unhide M4) rfl (by kernel_rfl) (by simp [Value.oneCell']) ?_
    intro W5 N5 g5
    have H5 := hide ((unhide H4).wr g5 (by omega))
    have P5 := hide (grown_atT g5 (unhide P4) (by simp; omega))
    have M5 := hide N5
    refine hK.out _ _ (unhide H5) ?_
    clear hK K H4 M4 P4 N5 g5
    try simp only [Act.put]
    refine wpAnyH_done (by kernel_rfl) (NoPanic.normal ?_) _
    go_wp2_with (first | (refine load_row rfl 99 _ rfl (W2.heap.size) rfl #[.int .i64 lo] 99 (unhide P5) _ Try.underlying99 rfl (by kernel_rfl) ?_) | (refine load_row rfl 101 _ rfl (W1.heap.size) rfl #[.int .i64 hi, .int .i64 lo] 101 (unhide M5) _ Try.underlying101 rfl (by kernel_rfl) ?_) | (refine store_row rfl 85 _ _ rfl (w.heap.size + 1) rfl #[.func (.func 72) #[.agg #[.int .i64 lo]] #[], .func (.func 73) #[.agg #[.int .i64 hi, .int .i64 lo]] #[]] rfl #[.nilFunc, .nilFunc] 85 (unhide H5).rb rfl (by kernel_rfl) (by simp [Value.oneCell']) ?_; intro W6 hB6 g6))
    refine bodyPost_ret (v := .agg #[.func (.func 72) #[.agg #[.int .i64 lo]] #[], .func (.func 73) #[.agg #[.int .i64 hi, .int .i64 lo]] #[]]) ?_ rfl ⟨rfl, ?_⟩
    · rw [results_c1 rfl]
      exact run_loadVar_row W6 _ 85 85 _ (0, 0) _ hB6 Try.underlying85 rfl (by kernel_rfl)
    · exact grown_new (unhide H5).grown g6 (fun g e => by simp at e; omega)

set_option maxRecDepth 20000 in
set_option maxHeartbeats 1600000 in
theorem putTable (w : World) (v0 : Value) (cs : List Int) (fr to hi lo : Int) :
    Calls Try.prog 65 #[scV v0 ⟨cs, fr, to, hi, lo⟩] w fun e w' => e = .returned (.agg #[.func (.func 75) #[.agg #[.int .i64 lo]] #[], .func (.func 76) #[.agg #[.int .i64 hi, .int .i64 lo]] #[]]) ∧ w.grownBy w' none := by
  have hmf : ∀ (fn : Fn) (first cap : Array Value) (w : World), (Instr.makeFunc fn first cap).run Try.prog w = .ok (.func fn first cap) w := fun _ _ _ _ => rfl
  unfold scV
  dsimp only
  have H0 := hide (Tw.start w #[v0, .int .i64 fr, .int .i64 to, .int .i64 hi, .int .i64 lo] 90)
  go_enter Try.func65, Try.ntmps65
  go_wp2
  generalize ((w.alloc (.cells #[v0, .int .i64 fr, .int .i64 to, .int .i64 hi, .int .i64 lo] 26)).alloc (.cells #[.nilFunc, .nilFunc] 90)) = W0 at *
  refine wp_region_noPanic ?_
  have H1 := hide ((unhide H0).new (grown_drew (World.grownBy.refl W0 none)))
  clear H0
  refine wp_region_raw (fun W => Tw w W #[v0, .int .i64 fr, .int .i64 to, .int .i64 hi, .int .i64 lo] 90) [true, true, true, true, true, true, true, true, false, false, false, false] (by kernel_rfl) (fun _ _ _ _ _ h => h) rfl (by kernel_rfl) (unhide H1) ?_
  generalize W0.drew = W1 at *
  refine heldF_take (v := ?_) (Or.inl ⟨by rfl, ?_⟩) ?_
  rotate_left 1
  · intro w' hSw
    try dsimp only at hSw
    obtain ⟨s0, s1, s2, s3, s4⟩ := scanCells hSw.sb
    clear hSw
    go_simp
    try with_reducible rfl
  simp only [Act.put, List.setIfInBounds_toArray, List.set_cons_zero, List.set_cons_succ]
  refine heldF_take (v := ?_) (Or.inl ⟨by rfl, ?_⟩) ?_
  rotate_left 1
  · intro w' hSw
    try dsimp only at hSw
    obtain ⟨s0, s1, s2, s3, s4⟩ := scanCells hSw.sb
    clear hSw
    go_simp
    try with_reducible rfl
  simp only [Act.put, List.setIfInBounds_toArray, List.set_cons_zero, List.set_cons_succ]
  refine heldF_take (v := ?_) (Or.inl ⟨by rfl, ?_⟩) ?_
  rotate_left 1
  · intro w' hSw
    try dsimp only at hSw
    obtain ⟨s0, s1, s2, s3, s4⟩ := scanCells hSw.sb
    clear hSw
    go_simp
    try with_reducible rfl
  simp only [Act.put, List.setIfInBounds_toArray, List.set_cons_zero, List.set_cons_succ]
  refine heldF_take (v := ?_) (Or.inl ⟨by rfl, ?_⟩) ?_
  rotate_left 1
  · intro w' hSw
    try dsimp only at hSw
    obtain ⟨s0, s1, s2, s3, s4⟩ := scanCells hSw.sb
    clear hSw
    go_simp
    try with_reducible rfl
  simp only [Act.put, List.setIfInBounds_toArray, List.set_cons_zero, List.set_cons_succ]
  refine heldF_take (v := ?_) (Or.inl ⟨by rfl, ?_⟩) ?_
  rotate_left 1
  · intro w' hSw
    try dsimp only at hSw
    obtain ⟨s0, s1, s2, s3, s4⟩ := scanCells hSw.sb
    clear hSw
    go_simp
    try with_reducible rfl
  simp only [Act.put, List.setIfInBounds_toArray, List.set_cons_zero, List.set_cons_succ]
  refine heldF_take (v := ?_) (Or.inl ⟨by rfl, ?_⟩) ?_
  rotate_left 1
  · intro w' hSw
    try dsimp only at hSw
    obtain ⟨s0, s1, s2, s3, s4⟩ := scanCells hSw.sb
    clear hSw
    go_simp
    try with_reducible rfl
  simp only [Act.put, List.setIfInBounds_toArray, List.set_cons_zero, List.set_cons_succ]
  refine heldF_take (v := ?_) (Or.inl ⟨by rfl, ?_⟩) ?_
  rotate_left 1
  · intro w' hSw
    try dsimp only at hSw
    obtain ⟨s0, s1, s2, s3, s4⟩ := scanCells hSw.sb
    clear hSw
    go_simp
    try with_reducible rfl
  simp only [Act.put, List.setIfInBounds_toArray, List.set_cons_zero, List.set_cons_succ]
  refine heldF_take (v := ?_) (Or.inl ⟨by rfl, ?_⟩) ?_
  rotate_left 1
  · intro w' hSw
    try dsimp only at hSw
    obtain ⟨s0, s1, s2, s3, s4⟩ := scanCells hSw.sb
    clear hSw
    go_simp
    try with_reducible rfl
  simp only [Act.put, List.setIfInBounds_toArray, List.set_cons_zero, List.set_cons_succ]
  refine heldF_skip (heldF_skip (heldF_skip (heldF_skip (heldF_nil ?_))))
  have hs1 := (unhide H1).size
  refine anyH_step2 (i := 8) (j := 9) rfl rfl (by kernel_rfl) (fun K hK => ?_) (fun K hK => ?_)
  · go_simp
    have H2 := hide ((unhide H1).new (World.grownBy_alloc W1 (.cells #[.int .i64 0] 99) none))
    have N2 := hide (heap_alloc_new W1 (.cells #[.int .i64 0] 99))
    have s2 : W1.heap.size + 1 ≤ (W1.alloc (.cells #[.int .i64 0] 99)).heap.size := by simp
    refine hK.out _ _ (unhide H2) ?_
    clear hK K H1
    try simp only [Act.put, List.setIfInBounds_toArray, List.set_cons_zero, List.set_cons_succ]
    generalize (W1.alloc (.cells #[.int .i64 0] 99)) = W2 at *
    refine anyH_step1 (i := 9) rfl (by kernel_rfl) (fun K hK => ?_)
    go_simp
    have H3 := hide ((unhide H2).new (World.grownBy_alloc W2 (.cells #[.int .i64 0, .int .i64 0] 101) none))
    have N3 := hide (heap_alloc_new W2 (.cells #[.int .i64 0, .int .i64 0] 101))
    have M3 := hide (grown_atT (World.grownBy_alloc W2 (.cells #[.int .i64 0, .int .i64 0] 101) none) (unhide N2) (by simp))
    have s3 : W2.heap.size + 1 ≤ (W2.alloc (.cells #[.int .i64 0, .int .i64 0] 101)).heap.size := by simp
    refine hK.out _ _ (unhide H3) ?_
    clear hK K H2 N2
    try simp only [Act.put, List.setIfInBounds_toArray, List.set_cons_zero, List.set_cons_succ]
    generalize (W2.alloc (.cells #[.int .i64 0, .int .i64 0] 101)) = W3 at *
    refine anyH_step1 (i := 10) rfl (by kernel_rfl) (fun K hK => ?_)
    refine step_store_row (by rfl) 99 _ _ rfl (W1.heap.size) rfl #[.int .i64 lo] rfl #[.int .i64 0] 99 (unhide M3) rfl (by kernel_rfl) (by simp [Value.oneCell']) ?_
    intro W4 N4 g4
    have H4 := hide ((unhide H3).wr g4 (by omega))
    have M4 := hide (grown_atT g4 (unhide N3) (by simp; omega))
    have P4 := hide N4
    refine hK.out _ _ (unhide H4) ?_
    clear hK K H3 M3 N3 N4 g4
    try simp only [Act.put]
    refine anyH_step1 (i := 11) rfl (by kernel_rfl) (fun K hK => ?_)
    refine step_store_row (by rfl) 101 _ _ rfl (W2.heap.size) rfl #[.int .i64 hi, .int .i64 lo] rfl #[.int .i64 0, .int .i64 0] 101 (unhide M4) rfl (by kernel_rfl) (by simp [Value.oneCell']) ?_
    intro W5 N5 g5
    have H5 := hide ((unhide H4).wr g5 (by omega))
    have P5 := hide (grown_atT g5 (unhide P4) (by simp; omega))
    have M5 := hide N5
    refine hK.out _ _ (unhide H5) ?_
    clear hK K H4 M4 P4 N5 g5
    try simp only [Act.put]
    refine wpAnyH_done (by kernel_rfl) (NoPanic.normal ?_) _
    go_wp2_with (first | (refine load_row rfl 99 _ rfl (W1.heap.size) rfl #[.int .i64 lo] 99 (unhide P5) _ Try.underlying99 rfl (by kernel_rfl) ?_) | (refine load_row rfl 101 _ rfl (W2.heap.size) rfl #[.int .i64 hi, .int .i64 lo] 101 (unhide M5) _ Try.underlying101 rfl (by kernel_rfl) ?_) | (refine store_row rfl 90 _ _ rfl (w.heap.size + 1) rfl #[.func (.func 75) #[.agg #[.int .i64 lo]] #[], .func (.func 76) #[.agg #[.int .i64 hi, .int .i64 lo]] #[]] rfl #[.nilFunc, .nilFunc] 90 (unhide H5).rb rfl (by kernel_rfl) (by simp [Value.oneCell']) ?_; intro W6 hB6 g6))
    refine bodyPost_ret (v := .agg #[.func (.func 75) #[.agg #[.int .i64 lo]] #[], .func (.func 76) #[.agg #[.int .i64 hi, .int .i64 lo]] #[]]) ?_ rfl ⟨rfl, ?_⟩
    · rw [results_c1 rfl]
      exact run_loadVar_row W6 _ 90 90 _ (0, 0) _ hB6 Try.underlying90 rfl (by kernel_rfl)
    · exact grown_new (unhide H5).grown g6 (fun g e => by simp at e; omega)
  · go_simp
    have H2 := hide ((unhide H1).new (World.grownBy_alloc W1 (.cells #[.int .i64 0, .int .i64 0] 101) none))
    have N2 := hide (heap_alloc_new W1 (.cells #[.int .i64 0, .int .i64 0] 101))
    have s2 : W1.heap.size + 1 ≤ (W1.alloc (.cells #[.int .i64 0, .int .i64 0] 101)).heap.size := by simp
    refine hK.out _ _ (unhide H2) ?_
    clear hK K H1
    try simp only [Act.put, List.setIfInBounds_toArray, List.set_cons_zero, List.set_cons_succ]
    generalize (W1.alloc (.cells #[.int .i64 0, .int .i64 0] 101)) = W2 at *
    refine anyH_step1 (i := 8) rfl (by kernel_rfl) (fun K hK => ?_)
    go_simp
    have H3 := hide ((unhide H2).new (World.grownBy_alloc W2 (.cells #[.int .i64 0] 99) none))
    have N3 := hide (heap_alloc_new W2 (.cells #[.int .i64 0] 99))
    have M3 := hide (grown_atT (World.grownBy_alloc W2 (.cells #[.int .i64 0] 99) none) (unhide N2) (by simp))
    have s3 : W2.heap.size + 1 ≤ (W2.alloc (.cells #[.int .i64 0] 99)).heap.size := by simp
    refine hK.out _ _ (unhide H3) ?_
    clear hK K H2 N2
    try simp only [Act.put, List.setIfInBounds_toArray, List.set_cons_zero, List.set_cons_succ]
    generalize (W2.alloc (.cells #[.int .i64 0] 99)) = W3 at *
    refine anyH_step1 (i := 10) rfl (by kernel_rfl) (fun K hK => ?_)
    refine step_store_row (by rfl) 99 _ _ rfl (W2.heap.size) rfl #[.int .i64 lo] rfl #[.int .i64 0] 99 (unhide N3) rfl (by kernel_rfl) (by simp [Value.oneCell']) ?_
    intro W4 N4 g4
    have H4 := hide ((unhide H3).wr g4 (by omega))
    have M4 := hide (grown_atT g4 (unhide M3) (by simp; omega))
    have P4 := hide N4
    refine hK.out _ _ (unhide H4) ?_
    clear hK K H3 M3 N3 N4 g4
    try simp only [Act.put]
    refine anyH_step1 (i := 11) rfl (by kernel_rfl) (fun K hK => ?_)
    refine step_store_row (by rfl) 101 _ _ rfl (W1.heap.size) rfl #[.int .i64 hi, .int .i64 lo] rfl #[.int .i64 0, .int .i64 0] 101 (unhide M4) rfl (by kernel_rfl) (by simp [Value.oneCell']) ?_
    intro W5 N5 g5
    have H5 := hide ((unhide H4).wr g5 (by omega))
    have P5 := hide (grown_atT g5 (unhide P4) (by simp; omega))
    have M5 := hide N5
    refine hK.out _ _ (unhide H5) ?_
    clear hK K H4 M4 P4 N5 g5
    try simp only [Act.put]
    refine wpAnyH_done (by kernel_rfl) (NoPanic.normal ?_) _
    go_wp2_with (first | (refine load_row rfl 99 _ rfl (W2.heap.size) rfl #[.int .i64 lo] 99 (unhide P5) _ Try.underlying99 rfl (by kernel_rfl) ?_) | (refine load_row rfl 101 _ rfl (W1.heap.size) rfl #[.int .i64 hi, .int .i64 lo] 101 (unhide M5) _ Try.underlying101 rfl (by kernel_rfl) ?_) | (refine store_row rfl 90 _ _ rfl (w.heap.size + 1) rfl #[.func (.func 75) #[.agg #[.int .i64 lo]] #[], .func (.func 76) #[.agg #[.int .i64 hi, .int .i64 lo]] #[]] rfl #[.nilFunc, .nilFunc] 90 (unhide H5).rb rfl (by kernel_rfl) (by simp [Value.oneCell']) ?_; intro W6 hB6 g6))
    refine bodyPost_ret (v := .agg #[.func (.func 75) #[.agg #[.int .i64 lo]] #[], .func (.func 76) #[.agg #[.int .i64 hi, .int .i64 lo]] #[]]) ?_ rfl ⟨rfl, ?_⟩
    · rw [results_c1 rfl]
      exact run_loadVar_row W6 _ 90 90 _ (0, 0) _ hB6 Try.underlying90 rfl (by kernel_rfl)
    · exact grown_new (unhide H5).grown g6 (fun g e => by simp at e; omega)

end Go.Proofs.Ytfgglainjaplgaa
