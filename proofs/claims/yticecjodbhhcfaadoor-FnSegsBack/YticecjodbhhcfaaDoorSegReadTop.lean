/-
  The walk of the program's ReadSegs.
-/
import Derived.Test.YticecjodbhhcfaaDoorSegReadAll
import Derived.Test.YticecjodbhhcfaaDoorSegReadPart
import Derived.Test.YticecjodbhhcfaaDoorAsHit
namespace Go.Proofs.YticecjodbhhcfaaDoor
open Go.RowKit

theorem as_hit2 (x y : Int) (t0 : Nat) (o1 o2 : Value) (w : World) (hg : w.cell? ⟨0, 0, none⟩ = some (.iface 82 (.agg #[.pointer (some ⟨1, 51, none⟩)]))) (ht : w.heap[t0]? = some (.cells #[o1, o2] 48 (0, 0))) :
    Calls Tryd.prog 26 #[.iface 48 (.agg #[.int .i64 x, .int .i64 y]), .iface 53 (.pointer (some ⟨t0, 0, none⟩))] w fun ev w' => ev = .returned (.bool true) ∧ w'.heap[t0]? = some (.cells #[.int .i64 x, .int .i64 y] 48 (0, 0)) ∧ w.grownBy w' (some t0) := by
  obtain ⟨h1, h2, h3, h4⟩ := two_of ht
  refine (as_hit x y t0 o1 o2 w hg h1 h3 h2 h4).mono ?_
  rintro e w' ⟨rfl, rfl⟩
  refine ⟨rfl, ?_, ?_⟩
  · exact heap_setCell_same _ t0 1 _ _ _ (heap_setCell_same _ t0 0 _ _ _ (alloc_at (alloc_at (alloc_at (alloc_at ht _) _) _) _))
  · exact grown_trans (grown_trans (grown_any (grown_alloc (grown_alloc (grown_alloc (grown_alloc (World.grownBy.refl _ _) _) _) _) _)) (grown_set _ _ _ _)) (grown_set _ _ _ _)

set_option maxRecDepth 8000 in
set_option maxHeartbeats 3200000 in
theorem implReadSegs (ao : Option Addr) (n cap : Nat) (zs : List Int) (w : World) (hg : w.cell? ⟨0, 0, none⟩ = some (.iface 82 (.agg #[.pointer (some ⟨1, 51, none⟩)]))) (hr : Rd .u8 w ao n zs) (hby : ∀ i, 0 ≤ zs.getD i 0 ∧ zs.getD i 0 ≤ 255) (hn : n ≤ 4194304) (hcap : n ≤ cap) :
    Calls Tryd.prog 11 #[.slice ao n cap] w fun e w' => ∃ bo c, e = .returned (.tuple #[.slice bo (readS zs).1.length c, .agg #[.int .i64 (readS zs).2.1, .int .i64 (readS zs).2.2]]) ∧
      OwnS w' w.heap.size w'.heap.size (.slice bo (readS zs).1.length c) (readS zs).1 ∧ w.grownBy w' none := by
  have HR := hide hr
  have HBY := hide hby
  have HG := hide hg
  obtain ⟨n1, n2, n3⟩ := three_new w (.cells #[.int .i64 0, .int .i64 0] 30) (.cells #[.slice ao n cap, .int .i64 0, .int .i64 0, .slice none 0 0] 46) (.cells #[.int .i64 0, .int .i64 0] 48)
  have G3 : w.grownBy (((w.alloc (.cells #[.int .i64 0, .int .i64 0] 30)).alloc (.cells #[.slice ao n cap, .int .i64 0, .int .i64 0, .slice none 0 0] 46)).alloc (.cells #[.int .i64 0, .int .i64 0] 48)) none := grown_alloc (grown_alloc (grown_alloc (World.grownBy.refl _ _) _) _) _
  have hSt : St w (((w.alloc (.cells #[.int .i64 0, .int .i64 0] 30)).alloc (.cells #[.slice ao n cap, .int .i64 0, .int .i64 0, .slice none 0 0] 46)).alloc (.cells #[.int .i64 0, .int .i64 0] 48)) (w.heap.size + 1) (w.heap.size + 3) ao n cap 0 0 (.slice none 0 0) [] :=
    ⟨by omega, by omega, by simp, n2, OwnS.nil _ _ _, G3⟩
  have HST := hide hSt
  have HN1 := hide n1
  have HN3 := hide n3
  have HG3 := hide G3
  clear hr hby hg n1 n2 n3 G3 hSt
  go_enter Tryd.func11, Tryd.ntmps11
  go_wp2_with fail
  refine (implReadAll w _ (w.heap.size + 1) (w.heap.size + 3) ao n cap implPart zs (unhide HST) (unhide HR) (unhide HBY) hn hcap).mono ?_
  intro e w1 hpost
  rcases hpost with ⟨k, last, sv, hc0, ha0, rfl, hst, hfr⟩ | ⟨hnil, hcn, rfl, hfr⟩
  · have hrf := (hfr.block w.heap.size (by omega) (by omega)).trans (unhide HN1)
    have hgr := Fr.new (unhide HG3) hfr (by omega) (by omega)
    obtain ⟨so, sc, rfl⟩ := hst.own.form
    obtain ⟨c0, c1, c2, c3⟩ := hst.cells
    obtain ⟨p1, p2, p3, p4⟩ := two_of hrf
    have HOWN := hide hst.own
    have HC0 := hide hc0
    have HA0 := hide ha0
    have hlow := hst.low
    clear hrf hst hfr hc0 ha0
    generalize hln : (readS zs).1.length = ln at *
    go_wp2_with fail
    refine (as_nil _ _).mono ?_
    rintro e w2 ⟨rfl, rfl⟩
    go_wp2
    refine bodyPost_ret (v := .tuple #[.slice so ln sc, .agg #[.int .i64 0, .int .i64 0]]) (by simp [results, Tryd.results11, go_sem, p1, p2]) rfl ?_
    refine ⟨so, sc, ?_, ?_, grown_setNew (grown_setNew hgr _ _ _ (Nat.le_refl _)) _ _ _ (Nat.le_refl _)⟩
    · rw [hln, unhide HC0, unhide HA0]; rfl
    · rw [hln]
      exact (((unhide HOWN).set w.heap.size 0 (.int .i64 0) (by omega)).set w.heap.size 1 (.int .i64 0) (by omega)).top (by omega) (by simp)
  · have hrf := (hfr.block w.heap.size (by omega) (by omega)).trans (unhide HN1)
    have hte := (hfr.block (w.heap.size + 1 + 1) (by omega) (by omega)).trans (unhide HN3)
    have hgr := Fr.new (unhide HG3) hfr (by omega) (by omega)
    have hgc := hgr.cell (unhide HG) (by simp)
    have hev : errV (some ((readS zs).2.1, (readS zs).2.2)) = .iface 48 (.agg #[.int .i64 (readS zs).2.1, .int .i64 ((readS zs).2.2 : Int)]) := rfl
    rw [hev]
    clear hev
    have HNIL := hide hnil
    have HTE := hide hte
    have HGC := hide hgc
    have HRF := hide hrf
    clear hnil hcn hte hgc hrf hfr
    generalize hq1 : (readS zs).2.1 = q1 at *
    generalize hq2 : (readS zs).2.2 = q2 at *
    go_wp2_with fail
    refine (as_hit2 q1 q2 (w.heap.size + 1 + 1) _ _ w1 (unhide HGC) (unhide HTE)).mono ?_
    rintro e w2 ⟨rfl, ht2, g2⟩
    have hrf2 := (g2.block w.heap.size (by have := (Array.getElem?_eq_some_iff.1 (unhide HRF)).1; exact this) (by simp; omega)).trans (unhide HRF)
    have hg2 := grown_new hgr g2 (fun g e => by simp at e; omega)
    obtain ⟨p1, p2, p3, p4⟩ := two_of hrf2
    obtain ⟨t1, t2, t3, t4⟩ := two_of ht2
    clear ht2 g2 hrf2 hgr
    go_wp2
    go_region
    all_goals
      go_wp2
      refine bodyPost_ret (v := .tuple #[.slice none 0 0, .agg #[.int .i64 q1, .int .i64 q2]]) (by simp [results, Tryd.results11, go_sem, p1, p2]) rfl ?_
      refine ⟨none, 0, ?_, ?_, ?_⟩
      · rw [unhide HNIL, hq1, hq2]; rfl
      · rw [unhide HNIL]; exact OwnS.nil _ _ _
      · first | exact grown_drew (grown_setNew (grown_setNew hg2 _ _ _ (Nat.le_refl _)) _ _ _ (Nat.le_refl _)) | exact grown_setNew (grown_setNew hg2 _ _ _ (Nat.le_refl _)) _ _ _ (Nat.le_refl _)

end Go.Proofs.YticecjodbhhcfaaDoor
