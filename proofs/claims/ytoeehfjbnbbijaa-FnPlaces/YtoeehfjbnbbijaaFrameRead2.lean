/-
  The walks of the program's ReadFrame.
-/
import Derived.Test.YtoeehfjbnbbijaaFrameRead
import Derived.Test.YtoeehfjbnbbijaaFrameRows
namespace Go.Proofs.Ytoeehfjbnbbijaa
open Go.RowKit

/-- The components, where the frame lies, as what is to be appended. -/
theorem fx_news {X : Array Value} {p wd ht rs n : Int} {C : Nat → Nat → Int} (hX : Fx X p wd ht rs n C) {w : World} {g : Nat} {t : TypeId} (hb : w.heap[g]? = some (.cells X t (0, 0))) (m : Nat) (hm : m ≤ 4) :
    ∀ j u, (rowsK m 4 (compCells C))[j]? = some u → w.cell? ((⟨g, 5, none⟩ : Addr).add j) = some u := by
  intro j u hj
  have hjl : j < m * 4 := by have := (List.getElem?_eq_some_iff.1 hj).1; rwa [rowsK_len] at this
  have hd : j = j / 4 * 4 + j % 4 := by omega
  have hg := rowsK_get m 4 (compCells C) (j / 4) (j % 4) (by omega) (by omega)
  rw [← hd, hj] at hg
  simp at hg
  subst hg
  rw [Addr.add_lit]
  have := fx_cell hX hb (j / 4) (j % 4) (by omega) (by omega)
  rw [Nat.add_assoc, ← hd] at this
  exact this

theorem frameFree {w : World} {g : Nat} {a b c d v : Value} {t : TypeId} (hb : w.heap[g]? = some (.cells #[a, b, c, d, v] t (0, 0))) :
    w.frozen? ⟨g, 0, none⟩ = false ∧ w.frozen? ⟨g, 1, none⟩ = false ∧ w.frozen? ⟨g, 2, none⟩ = false ∧ w.frozen? ⟨g, 3, none⟩ = false ∧ w.frozen? ⟨g, 4, none⟩ = false :=
  ⟨frozen_of_row w _ 0 _ _ hb, frozen_of_row w _ 1 _ _ hb, frozen_of_row w _ 2 _ _ hb, frozen_of_row w _ 3 _ _ hb, frozen_of_row w _ 4 _ _ hb⟩
theorem own_as4 {w : World} {base : Nat} {e : TypeId} {v : Value} {n n' : Nat} {xs xs' : List Value} (h : w.ownsRow base e 4 v n xs) (hn : n = n') (hx : xs = xs') : w.ownsRow base e 4 v n' xs' := by subst hn; subst hx; exact h

set_option maxHeartbeats 3200000 in
theorem frameFx (X : Array Value) (p wd ht rs : Int) (m : Nat) (C : Nat → Nat → Int) (hX : Fx X p wd ht rs m C) (hm : m ≤ 4) (w : World) :
    Calls Try.prog 50 #[.agg X] w fun e w' => ∃ bo cap', e = .returned (.agg #[.int .i64 p, .int .i64 wd, .int .i64 ht, .int .i64 rs, .slice bo m cap']) ∧
      w'.ownsRow w.heap.size 77 4 (.slice bo m cap') m (rowsK m 4 (compCells C)) ∧ w.grownBy w' none := by
  obtain ⟨i0, hi, hz0, hz1, hz2⟩ := info_parts Try.info77
  have HX := hide hX
  have hs := hX.size
  have HB : Hid (((w.alloc (.cells X 80)).alloc (.cells #[.int .i64 0, .int .i64 0, .int .i64 0, .int .i64 0, .slice none 0 0] 40)).heap[w.heap.size]? = some (.cells X 80 (0, 0))) := by
    unfold Hid; rw [Below.heap_alloc _ _ _ (by simp)]; exact heap_alloc_new _ _
  have HB1 : Hid (((w.alloc (.cells X 80)).alloc (.cells #[.int .i64 0, .int .i64 0, .int .i64 0, .int .i64 0, .slice none 0 0] 40)).heap[w.heap.size + 1]? = some (.cells #[.int .i64 0, .int .i64 0, .int .i64 0, .int .i64 0, .slice none 0 0] 40 (0, 0))) := by
    have := heap_alloc_new (w.alloc (.cells X 80)) (.cells #[.int .i64 0, .int .i64 0, .int .i64 0, .int .i64 0, .slice none 0 0] 40); unfold Hid; simpa using this
  have G0 : Hid (w.grownBy ((w.alloc (.cells X 80)).alloc (.cells #[.int .i64 0, .int .i64 0, .int .i64 0, .int .i64 0, .slice none 0 0] 40)) none) := grown_alloc (grown_alloc (World.grownBy.refl _ _) _) _
  have HSZ : Hid (((w.alloc (.cells X 80)).alloc (.cells #[.int .i64 0, .int .i64 0, .int .i64 0, .int .i64 0, .slice none 0 0] 40)).heap.size = w.heap.size + 2) := by unfold Hid; simp
  have h4 := hX.c4
  have h4' : X[4] = .int .i64 m := by rw [Array.getElem?_eq_getElem (by omega)] at h4; simpa using h4
  have HNEWS := hide (fx_news hX (unhide HB) m hm)
  have HLEN : Hid ((rowsK m 4 (compCells C)).length = m * 4) := rowsK_len _ _ _
  have HONE : Hid (∀ v ∈ rowsK m 4 (compCells C), v.oneCell' = true) := rowsK_one (fun _ _ => rfl)
  have hm4 : (m : Int) ≤ 4 := by omega
  clear hX
  go_enter Try.func50, Try.ntmps50
  go_wp2_with (at_builtin; refine wpList_append_own _ rfl _ _ 38 rfl (w.heap.size + 2) 77 i0 _ 4 32 Try.underlying38 hi hz0 hz1 hz2 rfl (by decide) (.slice none 0 0) 0 [] rfl (World.ownsRow_nil _ _ _ _) ⟨w.heap.size, 5, none⟩ m 4 (rowsK m 4 (compCells C)) rfl (unhide HLEN) (unhide HNEWS) (unhide HONE) (by unfold maxLen; omega) (by omega) (by rw [unhide HSZ]; exact Nat.le_refl _) ?_; intro v2 w2 hown2 hgrow2 _; have hBX := (hgrow2.block w.heap.size (by rw [unhide HSZ]; omega) (by simp [Value.ownBlock])).trans (unhide HB); have hBR := (hgrow2.block (w.heap.size + 1) (by rw [unhide HSZ]; omega) (by simp [Value.ownBlock])).trans (unhide HB1); have cb := fx_heads (unhide HX) hBX; have cr := frameCells5 hBR; have fr := frameFree hBR; clear hBX hBR; have O2 := hide (own_as4 hown2 (n' := m) (xs' := rowsK m 4 (compCells C)) (by omega) (by simp)); obtain ⟨bo, bc, hv⟩ := own_form (unhide O2); subst hv; clear hown2)
  have G2 : w.grownBy w2 none := grown_trans (unhide G0) hgrow2
  have hk : ∀ (W : World), W.ownsRow (w.heap.size + 2) 77 4 (.slice bo m bc) m (rowsK m 4 (compCells C)) → ∀ (j : Nat) (u : Value), (W.setCell ⟨w.heap.size + 1, j, none⟩ u).ownsRow (w.heap.size + 2) 77 4 (.slice bo m bc) m (rowsK m 4 (compCells C)) :=
    fun W h j u => own_sameAt h (fun g e => Below.heap_setCell _ _ _ _ (by have := (h.lt g e).1; show g ≠ w.heap.size + 1; omega))
  have hq : ∀ (W : World) (j : Nat) (u : Value), w.grownBy W none → w.grownBy (W.setCell ⟨w.heap.size + 1, j, none⟩ u) none := fun W j u h => grown_new h (grown_set W _ j u) (fun g e => by simp at e; omega)
  refine bodyPost_ret (v := .agg #[.int .i64 p, .int .i64 wd, .int .i64 ht, .int .i64 rs, .slice bo m bc]) (by simp [results, Try.results50, go_sem, cr]) rfl ⟨bo, bc, rfl, ?_, ?_⟩
  · exact own_base (hk _ (hk _ (hk _ (hk _ (hk _ (unhide O2) _ _) _ _) _ _) _ _) _ _) (by omega)
  · exact hq _ _ _ (hq _ _ _ (hq _ _ _ (hq _ _ _ (hq _ _ _ G2))))

theorem readF_cases {zs : List Int} {ok : Bool} {p wd ht rs : Int} {m : Nat} (h : readF zs = (ok, p, wd, ht, rs, m)) :
    (ok = false ∧ readOk zs = false ∧ p = 0 ∧ wd = 0 ∧ ht = 0 ∧ rs = 0 ∧ m = 0) ∨ (ok = true ∧ readOk zs = true ∧ p = zs.getD 0 0 ∧ wd = zs.getD 1 0 + 1 ∧ ht = zs.getD 2 0 + 1 ∧ rs = zs.getD 3 0 ∧ m = (zs.getD 4 0).toNat) := by
  unfold readF at h
  cases hr : readOk zs with
  | false => rw [hr] at h; simp at h; obtain ⟨rfl, rfl, rfl, rfl, rfl, rfl⟩ := h; exact .inl ⟨rfl, rfl, rfl, rfl, rfl, rfl, rfl⟩
  | true => rw [hr] at h; simp at h; obtain ⟨rfl, rfl, rfl, rfl, rfl, rfl⟩ := h; exact .inr ⟨rfl, rfl, by simp, by simp, by simp, by simp, by simp⟩

theorem readFixedAll (ao : Option Addr) (n cap : Nat) (zs : List Int) (w : World) (hr : Rd .u8 w ao n zs) (hn4 : n ≤ 4194304) (hcap : n ≤ cap) (hby : ∀ i, 0 ≤ zs.getD i 0 ∧ zs.getD i 0 ≤ 255) (ok : Bool) (p wd ht rs : Int) (m : Nat) (HF : Hid (readF zs = (ok, p, wd, ht, rs, m))) :
    Calls Try.prog 49 #[.slice ao n cap] w fun e w' => ∃ R, e = .returned (.agg R) ∧ (ok = false → R = #[.int .i64 0, .int .i64 0, .int .i64 0, .int .i64 0, .int .i64 0, .int .i64 0, .int .i64 0, .int .i64 0, .int .i64 0, .int .i64 0, .int .i64 0, .int .i64 0, .int .i64 0, .int .i64 0, .int .i64 0, .int .i64 0, .int .i64 0, .int .i64 0, .int .i64 0, .int .i64 0, .int .i64 0]) ∧ (ok = true → ∃ D, Fx R p wd ht rs m D ∧ ∀ i, i < m → D i = compOf zs i) ∧ w.grownBy w' none := by
  have hc := readF_cases (unhide HF)
  by_cases hn : n < 5
  · refine (readFixed_short ao n cap w hn).mono ?_
    rintro e w1 ⟨rfl, g1⟩
    refine ⟨_, rfl, fun _ => rfl, fun hb => ?_, g1⟩
    rcases hc with ⟨h1, _⟩ | ⟨_, h2, _⟩
    · rw [h1] at hb; cases hb
    · rw [readOk, Bool.and_eq_true] at h2
      have := (of_decide_eq_true h2.1).1
      rw [hr.1] at this
      omega
  · obtain ⟨b, off, rfl, _⟩ := hr.2 0 (by omega)
    have hm : zs.getD 4 0 = ((zs.getD 4 0).toNat : Int) := by have := (hby 4).1; omega
    have hl := hr.1
    have hro : readOk zs = (decide ((n : Int) = 5 + 3 * ((zs.getD 4 0).toNat : Int)) && frameB (zs.getD 0 0) (zs.getD 1 0 + 1) (zs.getD 2 0 + 1) (zs.getD 3 0) (zs.getD 4 0).toNat (compOf zs)) := by
      rw [readOk, hl, ← hm]
      congr 1
      exact decide_eq_decide.2 ⟨fun h => h.2, fun h => ⟨by omega, h⟩⟩
    refine (readFixed_long b off n cap zs w hr (by omega) hn4 hcap hby (zs.getD 4 0).toNat hm ok ?_).mono ?_
    · unfold Hid
      rw [← hro]
      rcases hc with ⟨h1, h2, _⟩ | ⟨h1, h2, _⟩ <;> rw [h1, h2]
    · rintro e w1 ⟨R, rfl, h1, h2, g1⟩
      refine ⟨R, rfl, h1, fun hb => ?_, g1⟩
      rcases hc with ⟨h3, _⟩ | ⟨_, _, rfl, rfl, rfl, rfl, rfl⟩
      · rw [h3] at hb; cases hb
      · exact h2 hb

theorem read_comp_small {zs : List Int} (h : readOk zs = true) : (zs.getD 4 0).toNat ≤ 4 ∧ ((zs.getD 0 0 == 0) = false) := by
  rw [readOk, Bool.and_eq_true] at h
  obtain ⟨⟨hp, _⟩, hn, _⟩ := frameB_facts h.2
  refine ⟨hn.2, ?_⟩
  rcases hp with e | e <;> rw [e] <;> rfl

set_option maxHeartbeats 3200000 in
theorem implReadFrame (ao : Option Addr) (n cap : Nat) (zs : List Int) (w : World) (hr : Rd .u8 w ao n zs) (hn4 : n ≤ 4194304) (hcap : n ≤ cap) (hby : ∀ i, 0 ≤ zs.getD i 0 ∧ zs.getD i 0 ≤ 255) (ok : Bool) (p wd ht rs : Int) (m : Nat) (HF : Hid (readF zs = (ok, p, wd, ht, rs, m))) :
    Calls Try.prog 24 #[.slice ao n cap] w fun e w' => ∃ bo cap', e = .returned (.tuple #[.agg #[.int .i64 p, .int .i64 wd, .int .i64 ht, .int .i64 rs, .slice bo m cap'], .bool ok]) ∧
      w'.ownsRow w.heap.size 77 4 (.slice bo m cap') m (rowsK m 4 (compCells (compOf zs))) ∧ w.grownBy w' none := by
  have HR := hide hr
  have HBY := hide hby
  have G0 : Hid (w.grownBy (w.alloc (.cells #[.int .i64 0, .int .i64 0, .int .i64 0, .int .i64 0, .slice none 0 0] 40)) none) := grown_alloc (World.grownBy.refl _ _) _
  have HB0 := hide (heap_alloc_new w (.cells #[.int .i64 0, .int .i64 0, .int .i64 0, .int .i64 0, .slice none 0 0] 40))
  have hgs : w.heap.size < (w.alloc (.cells #[.int .i64 0, .int .i64 0, .int .i64 0, .int .i64 0, .slice none 0 0] 40)).heap.size := by simp
  clear hr hby
  go_enter Try.func24, Try.ntmps24
  go_wp2_with fail
  refine (readFixedAll ao n cap zs _ ((unhide HR).grown (unhide G0)) hn4 hcap (unhide HBY) ok p wd ht rs m HF).mono ?_
  generalize (w.alloc (.cells #[.int .i64 0, .int .i64 0, .int .i64 0, .int .i64 0, .slice none 0 0] 40)) = wx at *
  rintro e w1 ⟨X, rfl, h1, h2, g1⟩
  have H1 := hide h1
  have H2 := hide h2
  have hsX : X.size = 21 := by
    cases ok
    · rw [h1 rfl]; rfl
    · obtain ⟨D, hF, _⟩ := h2 rfl; exact hF.size
  have HOX : Hid (X.all (·.oneCell') = true) := by
    cases ok
    · rw [h1 rfl]; exact fz_one
    · obtain ⟨D, hF, _⟩ := h2 rfl; exact hF.one
  have HB2 := hide (heap_alloc_new w1 (.cells #[.int .i64 0, .int .i64 0, .int .i64 0, .int .i64 0, .int .i64 0, .int .i64 0, .int .i64 0, .int .i64 0, .int .i64 0, .int .i64 0, .int .i64 0, .int .i64 0, .int .i64 0, .int .i64 0, .int .i64 0, .int .i64 0, .int .i64 0, .int .i64 0, .int .i64 0, .int .i64 0, .int .i64 0] 80))
  have HG2 : Hid (w1.grownBy (w1.alloc (.cells #[.int .i64 0, .int .i64 0, .int .i64 0, .int .i64 0, .int .i64 0, .int .i64 0, .int .i64 0, .int .i64 0, .int .i64 0, .int .i64 0, .int .i64 0, .int .i64 0, .int .i64 0, .int .i64 0, .int .i64 0, .int .i64 0, .int .i64 0, .int .i64 0, .int .i64 0, .int .i64 0, .int .i64 0] 80)) none) := grown_alloc (World.grownBy.refl _ _) _
  have hz1 := g1.size
  have X1 := hide g1
  clear h1 h2 g1
  go_wp2_with (first | (refine wpList_load_row rfl 80 _ rfl w1.heap.size rfl X 80 hB2 _ Try.underlying80 rfl (by rw [hsX]; kernel_rfl) ?_) | (refine wpList_store_row rfl 80 _ _ rfl w1.heap.size rfl X rfl #[.int .i64 0, .int .i64 0, .int .i64 0, .int .i64 0, .int .i64 0, .int .i64 0, .int .i64 0, .int .i64 0, .int .i64 0, .int .i64 0, .int .i64 0, .int .i64 0, .int .i64 0, .int .i64 0, .int .i64 0, .int .i64 0, .int .i64 0, .int .i64 0, .int .i64 0, .int .i64 0, .int .i64 0] 80 (unhide HB2) (by rw [hsX]; rfl) (by rw [hsX]; kernel_rfl) (unhide HOX) ?_; intro w2 hB2 g2))
  have X2 : wx.grownBy w2 none := grown_new (grown_trans (unhide X1) (unhide HG2)) g2 (fun g e => by simp at e; omega)
  have hg2 : w1.heap.size < w2.heap.size := (Array.getElem?_eq_some_iff.1 hB2).1
  clear g2 HG2 HB2
  have hq : ∀ (W : World) (j : Nat) (u : Value), w.grownBy W none → w.grownBy (W.setCell ⟨w.heap.size, j, none⟩ u) none := fun W j u h => grown_new h (grown_set W _ j u) (fun g e => by simp at e; omega)
  have HQ := hide hq
  clear hq
  rcases readF_cases (unhide HF) with ⟨rfl, -, rfl, rfl, rfl, rfl, rfl⟩ | ⟨rfl, hro, hpe, -, -, -, hme⟩
  · rw [unhide H1 rfl]
    refine (isNone_yes _).mono ?_
    rintro e w3 ⟨rfl, g3⟩
    have hB3 := ((grown_trans X2 g3).block w.heap.size hgs (by simp)).trans (unhide HB0)
    have cr := frameCells5 hB3
    have fr := frameFree hB3
    have G3 := grown_trans (unhide G0) (grown_trans X2 g3)
    clear hB3 g3 X2
    go_wp2
    refine bodyPost_ret (v := .tuple #[.agg #[.int .i64 0, .int .i64 0, .int .i64 0, .int .i64 0, .slice none 0 0], .bool false]) (by simp [results, Try.results24, go_sem, cr]) rfl ⟨none, 0, rfl, World.ownsRow_nil _ _ _ _, ?_⟩
    exact unhide HQ _ _ _ (unhide HQ _ _ _ (unhide HQ _ _ _ (unhide HQ _ _ _ (unhide HQ _ _ _ G3))))
  · obtain ⟨D, hF, hD⟩ := unhide H2 rfl
    have hsm := read_comp_small hro
    rw [← hpe, ← hme] at hsm
    have HFX := hide hF
    have HRW : Hid (rowsK m 4 (compCells D) = rowsK m 4 (compCells (compOf zs))) := rowsK_congr (fun i j hi _ => by unfold compCells; rw [hD i hi])
    have hm4 := hsm.1
    have hp0 := hsm.2
    clear hD hF hro hpe hme hsm
    refine (isNone_no X p wd ht rs m D (unhide HFX) hp0 _).mono ?_
    rintro e w3 ⟨rfl, g3⟩
    have hB3 := (g3.block w1.heap.size hg2 (by simp)).trans hB2
    have X3 := grown_trans X2 g3
    clear g3 X2 hB2 hp0
    go_wp2_with (refine wpList_load_row rfl 80 _ rfl w1.heap.size rfl X 80 hB3 _ Try.underlying80 rfl (by rw [hsX]; kernel_rfl) ?_)
    refine (frameFx X p wd ht rs m D (unhide HFX) hm4 _).mono ?_
    rintro e w4 ⟨bo, bc, rfl, o4, g4⟩
    rw [unhide HRW] at o4
    have hB4 := ((grown_trans X3 g4).block w.heap.size hgs (by simp)).trans (unhide HB0)
    have cr := frameCells5 hB4
    have fr := frameFree hB4
    have G4 := hide (grown_trans (unhide G0) (grown_trans X3 g4))
    have O4 := hide o4
    have hzz : w.heap.size < w3.heap.size := by have := X3.size; omega
    clear hB4 hB3 g4 X3 o4
    go_wp2
    have hk : ∀ (W : World), W.ownsRow w3.heap.size 77 4 (.slice bo m bc) m (rowsK m 4 (compCells (compOf zs))) → ∀ (j : Nat) (u : Value), (W.setCell ⟨w.heap.size, j, none⟩ u).ownsRow w3.heap.size 77 4 (.slice bo m bc) m (rowsK m 4 (compCells (compOf zs))) :=
      fun W h j u => own_sameAt h (fun g e => Below.heap_setCell _ _ _ _ (by have := (h.lt g e).1; show g ≠ w.heap.size; omega))
    refine bodyPost_ret (v := .tuple #[.agg #[.int .i64 p, .int .i64 wd, .int .i64 ht, .int .i64 rs, .slice bo m bc], .bool true]) (by simp [results, Try.results24, go_sem, cr]) rfl ⟨bo, bc, rfl, ?_, ?_⟩
    · exact own_base (hk _ (hk _ (hk _ (hk _ (hk _ (unhide O4) _ _) _ _) _ _) _ _) _ _) (by omega)
    · exact unhide HQ _ _ _ (unhide HQ _ _ _ (unhide HQ _ _ _ (unhide HQ _ _ _ (unhide HQ _ _ _ (unhide G4)))))

end Go.Proofs.Ytoeehfjbnbbijaa
