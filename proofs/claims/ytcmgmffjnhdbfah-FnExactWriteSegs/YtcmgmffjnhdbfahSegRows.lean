/-
  Rows of segments, as they lie in memory, and the walks of the law's own small functions on them.
-/
import Derived.Test.YtcmgmffjnhdbfahBytes
import Derived.Test.YtcmgmffjnhdbfahRowsK
namespace Go.Proofs.Ytcmgmffjnhdbfah
open Go.RowKit

/-- What is read through a slice of segments: marks, and the bytes behind each. -/
def RdS (w : World) (ao : Option Addr) (n : Nat) (ss : List (Int × List Int)) : Prop :=
  ss.length = n ∧ ∀ i, i < n → ∃ b off dd dc, ao = some ⟨b, off, none⟩ ∧ w.cell? ⟨b, off + i * 2, none⟩ = some (.int .i64 (ss.getD i (0, [])).1) ∧
    w.cell? ⟨b, off + i * 2 + 1, none⟩ = some (.slice dd (ss.getD i (0, [])).2.length dc) ∧ Rd .u8 w dd (ss.getD i (0, [])).2.length (ss.getD i (0, [])).2 ∧ (dd = none → dc = 0)

theorem RdS.grown {w w' : World} {ao : Option Addr} {n : Nat} {ss : List (Int × List Int)} (h : RdS w ao n ss) (hg : w.grownBy w' none) : RdS w' ao n ss :=
  ⟨h.1, fun i hi => by
    obtain ⟨b, off, dd, dc, e, h1, h2, h3, h4⟩ := h.2 i hi
    exact ⟨b, off, dd, dc, e, hg.cell h1 (by simp), hg.cell h2 (by simp), h3.grown hg, h4⟩⟩

/-- The cells of a row of segments whose data are the values d. -/
def segCells (ss : List (Int × List Int)) (d : Nat → Value) : Nat → Nat → Value := fun i j => if j = 0 then .int .i64 (ss.getD i (0, [])).1 else d i

/-- The data of the first k segments: each owned from lo on, below hi, no two in one row. -/
def Dat (w : World) (lo hi : Nat) (ds : Nat → List Int) (d : Nat → Value) (k : Nat) : Prop :=
  ∀ i, i < k → w.ownsRow lo 5 1 (d i) (ds i).length ((ds i).map (Value.int .u8)) ∧ ∀ g, (d i).ownBlock = some g → g < hi ∧ ∀ j, j < i → (d j).ownBlock ≠ some g

/-- Segments that a call owns, wholly in rows from lo on and below hi. -/
def OwnS (w : World) (lo hi : Nat) (v : Value) (ss : List (Int × List Int)) : Prop :=
  ∃ d : Nat → Value, w.ownsRow lo 54 2 v ss.length (rowsK ss.length 2 (segCells ss d)) ∧ (∀ g, v.ownBlock = some g → g < hi) ∧ Dat w lo hi (fun i => (ss.getD i (0, [])).2) d ss.length

theorem Dat.same {w w' : World} {lo hi k : Nat} {ds : Nat → List Int} {d : Nat → Value} (h : Dat w lo hi ds d k) (hs : ∀ g, lo ≤ g → g < hi → w'.heap[g]? = w.heap[g]?) : Dat w' lo hi ds d k :=
  fun i hi' => ⟨own_sameAt (h i hi').1 (fun g e => hs g ((h i hi').1.lt g e).1 ((h i hi').2 g e).1), (h i hi').2⟩
theorem OwnS.same {w w' : World} {lo hi : Nat} {v : Value} {ss : List (Int × List Int)} (h : OwnS w lo hi v ss) (hs : ∀ g, lo ≤ g → g < hi → w'.heap[g]? = w.heap[g]?) : OwnS w' lo hi v ss := by
  obtain ⟨d, h1, h2, h3⟩ := h
  exact ⟨d, own_sameAt h1 (fun g e => hs g (h1.lt g e).1 (h2 g e)), h2, h3.same hs⟩
theorem OwnS.kp {w w' : World} {lo hi lo' hi' : Nat} {v : Value} {ss : List (Int × List Int)} (h : OwnS w lo hi v ss) (hk : Kp lo' hi' w w') (hhi : hi ≤ w.heap.size) (hd : hi ≤ lo' ∨ hi' ≤ lo) : OwnS w' lo hi v ss :=
  h.same (fun g h1 h2 => hk.block g (by omega) (by omega))
theorem OwnS.grown {w w' : World} {lo hi : Nat} {v : Value} {ss : List (Int × List Int)} (h : OwnS w lo hi v ss) (hg : w.grownBy w' none) (hhi : hi ≤ w.heap.size) : OwnS w' lo hi v ss :=
  h.same (fun g _ h2 => hg.block g (by omega) (by simp))
theorem OwnS.form {w : World} {lo hi : Nat} {v : Value} {ss : List (Int × List Int)} (h : OwnS w lo hi v ss) : ∃ ao cap, v = .slice ao ss.length cap := by
  obtain ⟨d, h1, _⟩ := h
  exact own_form h1
theorem OwnS.rd {w : World} {lo hi : Nat} {ao : Option Addr} {n cap : Nat} {ss : List (Int × List Int)} (h : OwnS w lo hi (.slice ao n cap) ss) : RdS w ao n ss := by
  obtain ⟨d, h1, h2, h3⟩ := h
  obtain ⟨_, _, e⟩ := own_form h1
  simp only [Value.slice.injEq] at e
  have hn : n = ss.length := e.2.1
  subst hn
  refine ⟨rfl, fun i hi' => ?_⟩
  obtain ⟨g, rfl, _, _⟩ := own_at h1 (by omega)
  obtain ⟨d1, d2⟩ := h3 i hi'
  obtain ⟨dd, dc, hd⟩ := own_form d1
  refine ⟨g, 0, dd, dc, rfl, ?_, ?_, ?_, ?_⟩
  · rw [Nat.zero_add, h1.cellAt _ (by omega)]
    have := rowsK_get ss.length 2 (segCells ss d) i 0 hi' (by omega)
    rw [Nat.add_zero] at this
    rw [this]; rfl
  · rw [Nat.zero_add, h1.cellAt _ (by omega), rowsK_get ss.length 2 (segCells ss d) i 1 hi' (by omega), ← hd]; rfl
  · rw [hd] at d1; exact own_rd d1
  · intro hn
    rcases d1.2 with ⟨hv, _⟩ | ⟨q, _, _, hv, _⟩
    · rw [hd] at hv; simp at hv; exact hv.2.2
    · rw [hd, hn] at hv; simp at hv

theorem Try.info54 : (Try.prog.info? 54).map (fun i => (i.zero, i.size, i.bytes)) = some (some (.agg #[.int .i64 0, .slice none 0 0]), 2, 32) := by kernel_rfl

set_option maxHeartbeats 800000 in
theorem toSeg (m : Int) (dd : Option Addr) (n dc : Nat) (zs : List Int) (w : World) (hr : Rd .u8 w dd n zs) (hn : n ≤ 4194304) :
    Calls Try.prog 33 #[.agg #[.int .i64 m, .slice dd n dc]] w fun e w' => ∃ g, e = .returned (.agg #[.int .i64 m, .slice (some ⟨g, 0, none⟩) n n]) ∧
      w'.ownsRow w.heap.size 5 1 (.slice (some ⟨g, 0, none⟩) n n) n (zs.map (Value.int .u8)) ∧ w.grownBy w' none := by
  have HR := hide hr
  clear hr
  go_enter Try.func33, Try.ntmps33
  go_wp2_with fail
  have G0 : w.grownBy (((w.alloc (.cells #[.int .i64 m, .slice dd n dc] 52)).alloc (.cells #[.int .i64 0, .slice none 0 0] 54)).alloc (.cells #[.int .i64 m, .slice none 0 0] 54)) none := grown_alloc (grown_alloc (grown_alloc (World.grownBy.refl _ _) _) _) _
  have b1 : (((w.alloc (.cells #[.int .i64 m, .slice dd n dc] 52)).alloc (.cells #[.int .i64 0, .slice none 0 0] 54)).alloc (.cells #[.int .i64 m, .slice none 0 0] 54)).heap[w.heap.size + 1]? = some (.cells #[.int .i64 0, .slice none 0 0] 54 (0, 0)) := by
    rw [Below.heap_alloc _ _ _ (by simp)]
    have := heap_alloc_new (w.alloc (.cells #[.int .i64 m, .slice dd n dc] 52)) (.cells #[.int .i64 0, .slice none 0 0] 54)
    simpa using this
  have b2 : (((w.alloc (.cells #[.int .i64 m, .slice dd n dc] 52)).alloc (.cells #[.int .i64 0, .slice none 0 0] 54)).alloc (.cells #[.int .i64 m, .slice none 0 0] 54)).heap[w.heap.size + 1 + 1]? = some (.cells #[.int .i64 m, .slice none 0 0] 54 (0, 0)) := by
    have := heap_alloc_new ((w.alloc (.cells #[.int .i64 m, .slice dd n dc] 52)).alloc (.cells #[.int .i64 0, .slice none 0 0] 54)) (.cells #[.int .i64 m, .slice none 0 0] 54)
    simpa using this
  have hsz : (((w.alloc (.cells #[.int .i64 m, .slice dd n dc] 52)).alloc (.cells #[.int .i64 0, .slice none 0 0] 54)).alloc (.cells #[.int .i64 m, .slice none 0 0] 54)).heap.size = w.heap.size + 3 := by simp
  generalize (((w.alloc (.cells #[.int .i64 m, .slice dd n dc] 52)).alloc (.cells #[.int .i64 0, .slice none 0 0] 54)).alloc (.cells #[.int .i64 m, .slice none 0 0] 54)) = wx at *
  refine (toByteS dd n dc zs wx ((unhide HR).grown G0) hn).mono ?_
  rintro e w1 ⟨rfl, o1, g1⟩
  have G1 := grown_trans G0 g1
  have e1 := (g1.block (w.heap.size + 1) (by omega) (by simp)).trans b1
  have e2 := (g1.block (w.heap.size + 1 + 1) (by omega) (by simp)).trans b2
  have c10 : w1.cell? ⟨w.heap.size + 1, 0, none⟩ = some (.int .i64 0) := by rw [cell_of_row w1 _ 0 _ _ (0, 0) e1]; rfl
  have c11 : w1.cell? ⟨w.heap.size + 1, 1, none⟩ = some (.slice none 0 0) := by rw [cell_of_row w1 _ 1 _ _ (0, 0) e1]; rfl
  have c20 : w1.cell? ⟨w.heap.size + 1 + 1, 0, none⟩ = some (.int .i64 m) := by rw [cell_of_row w1 _ 0 _ _ (0, 0) e2]; rfl
  have c21 : w1.cell? ⟨w.heap.size + 1 + 1, 1, none⟩ = some (.slice none 0 0) := by rw [cell_of_row w1 _ 1 _ _ (0, 0) e2]; rfl
  have f10 : w1.frozen? ⟨w.heap.size + 1, 0, none⟩ = false := frozen_of_row w1 _ 0 _ _ e1
  have f11 : w1.frozen? ⟨w.heap.size + 1, 1, none⟩ = false := frozen_of_row w1 _ 1 _ _ e1
  have f20 : w1.frozen? ⟨w.heap.size + 1 + 1, 0, none⟩ = false := frozen_of_row w1 _ 0 _ _ e2
  have f21 : w1.frozen? ⟨w.heap.size + 1 + 1, 1, none⟩ = false := frozen_of_row w1 _ 1 _ _ e2
  have hge : w.heap.size + 3 ≤ wx.heap.size := by omega
  have O1 := hide (own_base o1 (show w.heap.size ≤ wx.heap.size by omega))
  have HO := hide o1
  clear hsz b1 b2 e1 e2 G0 g1 o1
  generalize wx.heap.size = gx at *
  go_wp2
  have hk : ∀ (W : World), W.ownsRow w.heap.size 5 1 (.slice (some ⟨gx, 0, none⟩) n n) n (zs.map (Value.int .u8)) → ∀ (b j : Nat) (u : Value), b < gx → (W.setCell ⟨b, j, none⟩ u).ownsRow w.heap.size 5 1 (.slice (some ⟨gx, 0, none⟩) n n) n (zs.map (Value.int .u8)) :=
    fun W h b j u hb => own_sameAt h (fun g e => by simp [Value.ownBlock] at e; subst e; exact Below.heap_setCell _ _ _ _ (by show gx ≠ b; omega))
  have hq : ∀ (W : World) (b j : Nat) (u : Value), w.grownBy W none → w.heap.size ≤ b → w.grownBy (W.setCell ⟨b, j, none⟩ u) none := fun W b j u h hb => grown_new h (grown_set W b j u) (fun g e => by simp at e; omega)
  refine bodyPost_ret (v := .agg #[.int .i64 m, .slice (some ⟨gx, 0, none⟩) n n]) (by simp [results, Try.results33, go_sem, c10, c11]) rfl ⟨gx, rfl, ?_, ?_⟩
  · exact hk _ (hk _ (hk _ (unhide O1) _ _ _ (by omega)) _ _ _ (by omega)) _ _ _ (by omega)
  · exact hq _ _ _ _ (hq _ _ _ _ (hq _ _ _ _ G1 (by omega)) (by omega)) (by omega)

/-- One more segment's data. -/
theorem Dat.snoc {w w' : World} {lo hi k base : Nat} {ds : Nat → List Int} {d : Nat → Value} {v : Value} (h : Dat w lo hi ds d k) (hhi : hi ≤ w.heap.size) (hg : w.grownBy w' none) (ho : w'.ownsRow base 5 1 v (ds k).length ((ds k).map (Value.int .u8))) (hb : w.heap.size ≤ base) (hlo : lo ≤ base) :
    Dat w' lo w'.heap.size ds (fun i => if i = k then v else d i) (k + 1) := by
  intro i hi'
  by_cases e : i = k
  · subst e
    simp only [if_true]
    refine ⟨own_base ho hlo, fun g hg' => ⟨(ho.lt g hg').2, fun j hj => ?_⟩⟩
    rw [if_neg (by omega)]
    intro hc
    have h1 := (h j hj).2 g hc
    have h2 := (ho.lt g hg').1
    omega
  · obtain ⟨h1, h2⟩ := h i (by omega)
    simp only [if_neg e]
    refine ⟨own_sameAt h1 (fun g hg' => hg.block g (by have := h2 g hg'; omega) (by simp)), fun g hg' => ⟨by have := (h2 g hg').1; have := hg.size; omega, fun j hj => ?_⟩⟩
    rw [if_neg (by omega)]
    exact (h2 g hg').2 j hj

def zeroSeg (j : Nat) : Value := if j = 0 then .int .i64 0 else .slice none 0 0

/-- The copy's cells behind k rounds. -/
def segPart (ss : List (Int × List Int)) (d : Nat → Value) (k : Nat) : Nat → Nat → Value := fun i j => if i < k then segCells ss d i j else zeroSeg j
theorem segPart_set (ss : List (Int × List Int)) (d : Nat → Value) (n k : Nat) (mk : Int) (v : Value) (hf : (ss.getD k (0, [])).1 = mk) :
    ((rowsK n 2 (segPart ss d k)).set (k * 2) (.int .i64 mk)).set (k * 2 + 1) v = rowsK n 2 (segPart ss (fun i => if i = k then v else d i) (k + 1)) := by
  have h0 := rowsK_set n 2 (segPart ss d k) k 0 (.int .i64 mk) (by omega)
  rw [Nat.add_zero] at h0
  rw [h0, rowsK_set _ _ _ k 1 _ (by omega)]
  apply rowsK_congr
  intro i j _ hj
  have hj2 : j = 0 ∨ j = 1 := by omega
  by_cases e1 : i = k
  · subst e1
    rcases hj2 with rfl | rfl
    · simp only [segPart, segCells, hf]; simp
    · simp [segPart, segCells]
  · by_cases e2 : i < k
    · rcases hj2 with rfl | rfl <;> simp [segPart, segCells, e1, e2, show i < k + 1 by omega]
    · rcases hj2 with rfl | rfl <;> simp [segPart, e1, e2, show ¬ i < k + 1 by omega]

set_option maxHeartbeats 800000 in
theorem toSegS (ao : Option Addr) (n cap : Nat) (ss : List (Int × List Int)) (w : World) (hr : RdS w ao n ss) (hn : n ≤ 4194304) (hd : ∀ i, i < n → (ss.getD i (0, [])).2.length ≤ 4194304) :
    Calls Try.prog 18 #[.slice ao n cap] w fun e w' => e = .returned (.slice (some ⟨w.heap.size, 0, none⟩) n n) ∧ OwnS w' w.heap.size w'.heap.size (.slice (some ⟨w.heap.size, 0, none⟩) n n) ss ∧ w.grownBy w' none := by
  obtain ⟨i0, hi, hz0, hz1, hz2⟩ := info_parts Try.info54
  obtain ⟨hl, hc⟩ := hr
  have HD := hide hd
  clear hd
  go_enter Try.func18, Try.ntmps18
  go_wp2_with (at_make; refine wpList_make_full _ rfl _ _ 32 rfl w.heap.size 54 i0 (.agg #[.int .i64 0, .slice none 0 0]) 2 Try.underlying32 hi hz0 hz1 .i64 .i64 _ _ n rfl rfl rfl rfl (by rw [hz2]; omega) (by unfold maxLen; omega) (Nat.le_refl _) ?_)
  intro w1 hown hgrow
  have hlt1 : w.heap.size < w1.heap.size := (hown.lt _ rfl).2
  have hown0 : w1.ownsRow w.heap.size 54 2 (.slice (some ⟨w.heap.size, 0, none⟩) n n) n (rowsK n 2 (segPart ss (fun _ => .slice none 0 0) 0)) := by
    have e := madeK #[.int .i64 0, .slice none 0 0] n (by decide)
    have e2 : rowsK n 2 (segPart ss (fun _ => .slice none 0 0) 0) = (madeCells #[Value.int .i64 0, .slice none 0 0] (n * 2)).toList := by
      rw [show (n * 2) = n * (#[Value.int .i64 0, Value.slice none 0 0] : Array Value).size from rfl, e]
      apply rowsK_congr
      intro i j _ hj
      have : j = 0 ∨ j = 1 := by have : j < 2 := hj; omega
      rcases this with rfl | rfl <;> simp [segPart, zeroSeg]
    rw [e2]; exact hown
  clear hown hi hz0 hz1 hz2
  go_wp2
  go_loopw [4] (fun i wr => ∃ (k : Nat) (d : Nat → Value), k ≤ n ∧ i = .int .i64 k ∧ wr.ownsRow w.heap.size 54 2 (.slice (some ⟨w.heap.size, 0, none⟩) n n) n (rowsK n 2 (segPart ss d k)) ∧ Dat wr (w.heap.size + 1) wr.heap.size (fun i => (ss.getD i (0, [])).2) d k ∧ w.heap.size < wr.heap.size ∧ w.grownBy wr none) (fun i _ => n - (intOf i).toNat)
  case atStart => exact ⟨0, fun _ => .slice none 0 0, Nat.zero_le _, rfl, hown0, fun i hi' => absurd hi' (by omega), hlt1, hgrow⟩
  case round =>
    obtain ⟨k, d, hk, rfl, hok, hda, hsz, hgk⟩ := hrel
    clear hown0 hgrow hlt1
    by_cases hlt : k < n
    · obtain ⟨b, off, dd, dc, rfl, hc1, hc2, hrd, _⟩ := hc k hlt
      have hca := hgk.cell hc1 (by simp)
      have hcb := hgk.cell hc2 (by simp)
      have hrd' := hrd.grown hgk
      have hdk := unhide HD k hlt
      have HDA := hide hda
      clear hc hc1 hc2 hrd hda
      obtain ⟨⟨mk, bk⟩, hf⟩ : ∃ f, ss.getD k (0, []) = f := ⟨_, rfl⟩
      rw [hf] at hca hcb hrd' hdk
      dsimp only at hca hcb hrd' hdk
      have HF := hide hf
      clear hf
      go_wp2_with fail
      refine (toSeg mk dd _ dc bk wr hrd' hdk).mono ?_
      rintro e w2 ⟨g, rfl, o2, g2⟩
      have hok2 := own_grown hok g2
      have hG2 := grown_trans hgk g2
      have hfro := hok2.frozenAt (k * 2)
      have hfro1 := hok2.frozenAt (k * 2 + 1)
      have hold : ∀ j, j < n * 2 → ∃ u, w2.cell? ⟨w.heap.size, j, none⟩ = some u := fun j hj => by rw [hok2.cellAt j hj]; exact ⟨_, List.getElem?_eq_getElem (by rw [hok2.1]; omega)⟩
      obtain ⟨u1, hu1⟩ := hold (k * 2) (by omega)
      obtain ⟨u2, hu2⟩ := hold (k * 2 + 1) (by omega)
      have o2' : w2.ownsRow wr.heap.size 5 1 (.slice (some ⟨g, 0, none⟩) bk.length bk.length) (ss.getD k (0, [])).2.length ((ss.getD k (0, [])).2.map (Value.int .u8)) := by rw [unhide HF]; exact o2
      have hda2 := (unhide HDA).snoc (Nat.le_refl _) g2 o2' (Nat.le_refl _) (by omega)
      have hst := hok2.stored (k * 2) (.int .i64 mk)
      have hst2 := hst.1.stored (k * 2 + 1) (.slice (some ⟨g, 0, none⟩) bk.length bk.length)
      have hsz2 : w.heap.size < w2.heap.size := by have := g2.size; omega
      have hg' := grown_new (grown_new hG2 hst.2 (by intro g e; simp at e; omega)) hst2.2 (by intro g e; simp at e; omega)
      have hda3 := hda2.same (w' := (w2.setCell ⟨w.heap.size, k * 2, none⟩ (.int .i64 mk)).setCell ⟨w.heap.size, k * 2 + 1, none⟩ (.slice (some ⟨g, 0, none⟩) bk.length bk.length)) (fun q h1 _ => by
        rw [Below.heap_setCell _ _ _ _ (by show q ≠ w.heap.size; omega), Below.heap_setCell _ _ _ _ (by show q ≠ w.heap.size; omega)])
      have HR := hst2.1
      rw [segPart_set ss d n k mk _ (by rw [unhide HF])] at HR
      have HD3 := hide hda3
      have HRR := hide HR
      have HSZ := hide hsz2
      clear hst hst2 hok hok2 hgk hG2 hold g2 hca hcb hda2 hda3 HR o2 o2' HDA hrd' hsz2
      go_wp2
      go_roundw
      case rel => exact ⟨k + 1, _, by omega, by go_num, unhide HRR, by have := unhide HD3; simpa using this, by have := unhide HSZ; simpa using this, hg'⟩
      case measure => simp [intOf]; omega
    · have hkn : k = n := by omega
      subst hkn
      go_wp2
      go_ret
      refine ⟨rfl, ⟨d, ?_, fun g e => ?_, ?_⟩, hgk⟩
      · rw [hl]
        have e : rowsK k 2 (segCells ss d) = rowsK k 2 (segPart ss d k) := rowsK_congr (fun i j hi' _ => by unfold segPart; rw [if_pos hi'])
        rw [e]; exact hok
      · simp [Value.ownBlock] at e; omega
      · rw [hl]
        intro i hi'
        obtain ⟨h1, h2⟩ := hda i hi'
        exact ⟨own_base h1 (by omega), h2⟩

end Go.Proofs.Ytcmgmffjnhdbfah
