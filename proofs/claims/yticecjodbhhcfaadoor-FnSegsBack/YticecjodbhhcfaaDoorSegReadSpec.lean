/-
  The walk of the specification's ReadSegs.
-/
import Derived.Test.YticecjodbhhcfaaDoorSegNextSpec
namespace Go.Proofs.YticecjodbhhcfaaDoor
open Go.RowKit

theorem next_fault {zs : List Int} {k : Nat} {was : Int} {many : Bool} {c : Int} {a : Nat} (h : nextS zs k was many = .fault c a) : c = 3 ∨ c = 4 ∨ c = 5 ∨ c = 6 := by
  unfold nextS nextRun nextMk nextPart at h
  repeat' split at h
  all_goals cases h
  all_goals simp

theorem readFrom_fault {f k : Nat} {zs : List Int} {was : Int} {ss : List (Int × List Int)} {c : Int} {a : Nat} (hf : 0 < f) (h : nextS zs k was (decide (ss.length = 300)) = .fault c a) : readFrom f zs k was ss = ([], c, a) := by
  obtain ⟨f', rfl⟩ : ∃ f', f = f' + 1 := ⟨f - 1, by omega⟩
  rw [readFrom, h]
theorem readFrom_fin {f k : Nat} {zs : List Int} {was : Int} {ss : List (Int × List Int)} {a : Nat} (hf : 0 < f) (h : nextS zs k was (decide (ss.length = 300)) = .fin a) : readFrom f zs k was ss = if a < zs.length then ([], 7, a) else (ss, 0, 0) := by
  obtain ⟨f', rfl⟩ : ∃ f', f = f' + 1 := ⟨f - 1, by omega⟩
  rw [readFrom, h]
theorem readFrom_seg {f k : Nat} {zs : List Int} {was : Int} {ss : List (Int × List Int)} {m : Int} {d : List Int} {nx : Nat} (hf : 0 < f) (h : nextS zs k was (decide (ss.length = 300)) = .seg m d nx) : readFrom f zs k was ss = readFrom (f - 1) zs nx (kindOf m) (ss ++ [(m, d)]) := by
  obtain ⟨f', rfl⟩ : ∃ f', f = f' + 1 := ⟨f - 1, by omega⟩
  rw [readFrom, h]; rfl
theorem OwnS.nil (w : World) (lo hi : Nat) : OwnS w lo hi (.slice none 0 0) [] := ⟨fun _ => .slice none 0 0, World.ownsRow_nil _ _ _ _, fun g e => by simp [Value.ownBlock] at e, fun i hi => absurd hi (by simp)⟩
theorem OwnS.lit (w : World) (lo : Nat) (hlo : lo ≤ w.heap.size) : OwnS (w.alloc (.cells #[] 41)) lo (w.heap.size + 1) (.slice (some ⟨w.heap.size, 0, none⟩) 0 0) [] :=
  ⟨fun _ => .slice none 0 0, World.ownsRow_lit w #[] 0 hlo (by unfold maxLen; omega) rfl, fun g e => by simp [Value.ownBlock] at e; omega, fun i hi => absurd hi (by simp)⟩
theorem OwnS.base {w : World} {lo lo' hi hi' : Nat} {v : Value} {ss : List (Int × List Int)} (h : OwnS w lo hi v ss) (hl : lo' ≤ lo) (hh : hi ≤ hi') : OwnS w lo' hi' v ss := by
  obtain ⟨d, h1, h2, h3⟩ := h
  exact ⟨d, own_base h1 hl, fun g e => by have := h2 g e; omega, fun i hi => ⟨own_base (h3 i hi).1 hl, fun g e => ⟨by have := ((h3 i hi).2 g e).1; omega, ((h3 i hi).2 g e).2⟩⟩⟩
theorem OwnS.top {w : World} {lo lo' hi : Nat} {v : Value} {ss : List (Int × List Int)} (h : OwnS w lo hi v ss) (hl : lo' ≤ lo) (hh : hi ≤ w.heap.size) : OwnS w lo' w.heap.size v ss := h.base hl hh
theorem OwnS.set {w : World} {lo hi : Nat} {v : Value} {ss : List (Int × List Int)} (h : OwnS w lo hi v ss) (b j : Nat) (u : Value) (hb : b < lo) : OwnS (w.setCell ⟨b, j, none⟩ u) lo hi v ss :=
  h.same (fun g hg _ => Below.heap_setCell _ _ _ _ (by show g ≠ b; omega))

theorem alloc_at {w : World} {g : Nat} {o : Obj} (h : w.heap[g]? = some o) (o' : Obj) : (w.alloc o').heap[g]? = some o := grown_at (World.grownBy_alloc _ _ _) h
theorem OwnS.alloc {w : World} {lo hi : Nat} {v : Value} {ss : List (Int × List Int)} (h : OwnS w lo hi v ss) (hhi : hi ≤ w.heap.size) (o : Obj) : OwnS (w.alloc o) lo hi v ss := h.grown (World.grownBy_alloc _ _ _) hhi

theorem OwnS.drew {w : World} {lo hi : Nat} {v : Value} {ss : List (Int × List Int)} (h : OwnS w lo hi v ss) : OwnS w.drew lo hi v ss := h.same (fun _ _ _ => rfl)

set_option maxRecDepth 8000 in
set_option maxHeartbeats 6400000 in
theorem specReadSegs (ao : Option Addr) (n cap : Nat) (zs : List Int) (w : World) (hr : Rd .u8 w ao n zs) (hby : ∀ i, 0 ≤ zs.getD i 0 ∧ zs.getD i 0 ≤ 255) (hn : n ≤ 4194304) (hcap : n ≤ cap) :
    Calls Tryd.prog 14 #[.slice ao n cap] w fun e w' => ∃ bo c, e = .returned (.tuple #[.slice bo (readS zs).1.length c, .agg #[.int .i64 (readS zs).2.1, .int .i64 (readS zs).2.2]]) ∧
      OwnS w' w.heap.size w'.heap.size (.slice bo (readS zs).1.length c) (readS zs).1 ∧ w.grownBy w' none := by
  obtain ⟨i0, hi, hz0, hz1, hz2⟩ := info_parts Tryd.info41
  have HBY := hide hby
  have HRW := hide hr
  have hr' := hr
  obtain ⟨hl, hc⟩ := hr
  clear hby
  by_cases hbig : 60000 < n
  · have hd : decide ((60000 : Int) < (n : Int)) = true := decide_eq_true (by omega)
    have HS : Hid (readS zs = ([], 1, 0)) := by unfold Hid readS; rw [if_pos (by omega)]
    go_enter Tryd.func14, Tryd.ntmps14
    go_wp2
    exact bodyPost_ret (v := .tuple #[.slice (some ⟨w.heap.size + 1, 0, none⟩) 0 0, .agg #[.int .i64 1, .int .i64 0]]) (by simp [results, Tryd.results14, go_sem]) rfl
      ⟨some ⟨w.heap.size + 1, 0, none⟩, 0, by rw [unhide HS]; rfl, by rw [unhide HS]; have h := OwnS.lit (w.alloc (.cells #[.int .i64 1, .int .i64 0] 30)) w.heap.size (by simp); simpa using h, grown_alloc (grown_alloc (World.grownBy.refl _ _) _) _⟩
  · have hd : decide ((60000 : Int) < (n : Int)) = false := decide_eq_false (by omega)
    have hn6 : n ≤ 60000 := by omega
    have hneg : ¬ 60000 < zs.length := by omega
    have G0 : w.grownBy ((w.alloc (.cells #[.int .i64 0, .int .i64 0] 30)).alloc (.cells #[] 41)) none := grown_alloc (grown_alloc (World.grownBy.refl _ _) _) _
    have HG0 := hide G0
    have O0 : Hid (OwnS ((w.alloc (.cells #[.int .i64 0, .int .i64 0] 30)).alloc (.cells #[] 41)) (w.heap.size + 1) (w.heap.size + 2) (.slice (some ⟨w.heap.size + 1, 0, none⟩) 0 0) []) := by
      have h := OwnS.lit (w.alloc (.cells #[.int .i64 0, .int .i64 0] 30)) (w.heap.size + 1) (by simp)
      unfold Hid; simpa using h
    have O2 : Hid (OwnS ((w.alloc (.cells #[.int .i64 2, .int .i64 0] 30)).alloc (.cells #[] 41)) w.heap.size ((w.alloc (.cells #[.int .i64 2, .int .i64 0] 30)).alloc (.cells #[] 41)).heap.size (.slice (some ⟨w.heap.size + 1, 0, none⟩) 0 0) []) := by
      have h := OwnS.lit (w.alloc (.cells #[.int .i64 2, .int .i64 0] 30)) w.heap.size (by simp)
      unfold Hid; simpa using h
    have G2 : Hid (w.grownBy ((w.alloc (.cells #[.int .i64 2, .int .i64 0] 30)).alloc (.cells #[] 41)) none) := grown_alloc (grown_alloc (World.grownBy.refl _ _) _) _
    have HC := hide (hr'.grown G0).2
    clear hc G0 hr'
    by_cases hbe : begins zs
    · have HS : Hid (readS zs = readFrom (n + 1) zs 2 0 []) := by unfold Hid readS; rw [if_neg (by omega), if_pos hbe, hl]
      obtain ⟨h2, h84, h83⟩ := hbe
      have hd2 : decide ((n : Int) < 2) = false := decide_eq_false (by omega)
      have hn1 : 1 < n := by omega
      obtain ⟨b, off, rfl, hc0⟩ := unhide HC 0 (by omega)
      obtain ⟨b1, off1, e1, hc1⟩ := unhide HC 1 (by omega)
      simp only [Option.some.injEq, Addr.mk.injEq] at e1
      have ea := e1.1
      have eb := e1.2.1
      subst ea; subst eb
      rw [Nat.add_zero, h84] at hc0
      rw [h83] at hc1
      have RF : Hid (((w.alloc (.cells #[.int .i64 0, .int .i64 0] 30)).alloc (.cells #[] 41)).heap[w.heap.size]? = some (.cells #[.int .i64 0, .int .i64 0] 30 (0, 0))) := by
        unfold Hid; rw [Below.heap_alloc _ _ _ (by simp)]; exact heap_alloc_new _ _
      clear e1 h84 h83 HC O2 G2
      go_enter Tryd.func14, Tryd.ntmps14
      go_wp2
      clear hc0 hc1
      go_loopw [4, 5, 6] (fun v i a wr => ∃ (f k : Nat) (was : Int) (ss : List (Int × List Int)), 2 ≤ k ∧ k ≤ n ∧ n < f + k ∧ i = .int .i64 k ∧ a = .int .i64 was ∧ (was = 0 ∨ was = 1 ∨ was = 2 ∨ was = 3) ∧ ss.length ≤ 300 ∧ readS zs = readFrom f zs k was ss ∧ OwnS wr (w.heap.size + 1) wr.heap.size v ss ∧
        wr.heap[w.heap.size]? = some (.cells #[.int .i64 0, .int .i64 0] 30 (0, 0)) ∧ w.grownBy wr none) (fun _ i _ _ => n - (intOf i).toNat)
      case atStart => exact ⟨n + 1, 2, 0, [], by omega, by omega, by omega, rfl, rfl, .inl rfl, by simp, unhide HS, (unhide O0).base (Nat.le_refl _) (by simp), unhide RF, unhide HG0⟩
      case round =>
        obtain ⟨f, k, was, ss, hk2, hkn, hfk, rfl, rfl, hwas, hss, hrd, hown, hrf, hgk⟩ := hrel
        have HWAS := hide hwas
        have HRD := hide hrd
        have HRF := hide hrf
        have HOWN := hide hown
        obtain ⟨ao2, c2, rfl⟩ := hown.form
        obtain ⟨many, hmany⟩ : ∃ bb, decide (ss.length = 300) = bb := ⟨_, rfl⟩
        have hm' : ((ss.length : Int) == 300) = many := by rw [← hmany, Bool.eq_iff_iff, beq_iff_eq, decide_eq_true_eq]; omega
        obtain ⟨r, hr⟩ : ∃ r, nextS zs k was many = r := ⟨_, rfl⟩
        have HNX := hide hr
        have HMANY := hide hmany
        clear hwas hrd hrf hown hmany HS O0 RF HG0
        go_wp2_with fail
        refine (specNext _ n cap zs k was many r wr ((unhide HRW).grown hgk) (unhide HBY) hn6 hcap hkn (unhide HWAS) HNX).mono ?_
        intro e w2 hpost
        cases r with
        | fault c a =>
          obtain ⟨rfl, g2⟩ := hpost
          have hcc := next_fault (unhide HNX)
          have hcn : (c != 0) = true := by rw [bne_iff_ne]; omega
          have HS : Hid (readS zs = ([], c, a)) := by unfold Hid; rw [unhide HRD]; exact readFrom_fault (by omega) (by rw [unhide HMANY]; exact unhide HNX)
          have hg2 := grown_trans hgk g2
          have hrf2 := grown_at g2 (unhide HRF)
          have hs2 := hg2.size
          have hlt : w.heap.size < w2.heap.size := (Array.getElem?_eq_some_iff.1 hrf2).1
          obtain ⟨p1, p2, p3, p4⟩ := two_of (alloc_at (alloc_at (alloc_at hrf2 (.cells #[.int .i64 0, .slice none 0 0] 41)) (.cells #[.int .i64 c, .int .i64 a] 30)) (.cells #[] 41))
          have HG2 := hide (grown_alloc (grown_alloc (grown_alloc hg2 (.cells #[.int .i64 0, .slice none 0 0] 41)) (.cells #[.int .i64 c, .int .i64 a] 30)) (.cells #[] 41))
          have HOL : Hid (OwnS (((w2.alloc (.cells #[.int .i64 0, .slice none 0 0] 41)).alloc (.cells #[.int .i64 c, .int .i64 a] 30)).alloc (.cells #[] 41)) (w.heap.size + 1) (w2.heap.size + 1 + 1 + 1) (.slice (some ⟨w2.heap.size + 1 + 1, 0, none⟩) 0 0) []) := by have h := OwnS.lit ((w2.alloc (.cells #[.int .i64 0, .slice none 0 0] 41)).alloc (.cells #[.int .i64 c, .int .i64 a] 30)) (w.heap.size + 1) (by simp; omega); unfold Hid; simpa using h
          clear hcc hrf2 hgk g2 hg2
          go_wp2
          go_region
          go_wp2
          refine bodyPost_ret (v := .tuple #[.slice (some ⟨w2.heap.size + 1 + 1, 0, none⟩) 0 0, .agg #[.int .i64 c, .int .i64 a]]) (by simp [results, Tryd.results14, go_sem, p1, p2]) rfl ?_
          exact ⟨some ⟨w2.heap.size + 1 + 1, 0, none⟩, 0, by rw [unhide HS]; rfl, by rw [unhide HS]; exact (((unhide HOL).set w.heap.size 0 (.int .i64 c) (by omega)).set w.heap.size 1 (.int .i64 a) (by omega)).drew.top (Nat.le_succ _) (by simp), grown_drew (grown_setNew (grown_setNew (unhide HG2) _ _ _ (Nat.le_refl _)) _ _ _ (Nat.le_refl _))⟩
        | fin a =>
          obtain ⟨rfl, g2⟩ := hpost
          have hfb := fin_bounds (unhide HNX)
          have hfa := hfb.1
          subst hfa
          have hg2 := grown_trans hgk g2
          have hrf2 := grown_at g2 (unhide HRF)
          have hlt : w.heap.size < w2.heap.size := (Array.getElem?_eq_some_iff.1 hrf2).1
          have HRF2 := hide hrf2
          have hgA := grown_alloc (grown_alloc hg2 (.cells #[.int .i64 0, .slice none 0 0] 41)) (.cells #[.int .i64 0, .int .i64 0] 30)
          have HO2 := hide ((unhide HOWN).grown g2 (Nat.le_refl _))
          have HG2 := hide hg2
          have hsz2 := g2.size
          clear hrf2 hgk g2 hg2
          by_cases hrest : k + 2 < n
          · have hdr : decide (((k + 2 : Nat) : Int) < (n : Int)) = true := decide_eq_true (by omega)
            have HS : Hid (readS zs = ([], 7, k + 2)) := by unfold Hid; rw [unhide HRD, readFrom_fin (by omega) (by rw [unhide HMANY]; exact unhide HNX), if_pos (by omega)]
            obtain ⟨p1, p2, p3, p4⟩ := two_of (alloc_at (alloc_at (alloc_at (unhide HRF2) (.cells #[.int .i64 0, .slice none 0 0] 41)) (.cells #[.int .i64 0, .int .i64 0] 30)) (.cells #[] 41))
            have HGA := hide (grown_alloc hgA (.cells #[] 41))
            have HOL : Hid (OwnS (((w2.alloc (.cells #[.int .i64 0, .slice none 0 0] 41)).alloc (.cells #[.int .i64 0, .int .i64 0] 30)).alloc (.cells #[] 41)) (w.heap.size + 1) (w2.heap.size + 1 + 1 + 1) (.slice (some ⟨w2.heap.size + 1 + 1, 0, none⟩) 0 0) []) := by have h := OwnS.lit ((w2.alloc (.cells #[.int .i64 0, .slice none 0 0] 41)).alloc (.cells #[.int .i64 0, .int .i64 0] 30)) (w.heap.size + 1) (by simp; omega); unfold Hid; simpa using h
            clear hgA
            go_wp2
            refine bodyPost_ret (v := .tuple #[.slice (some ⟨w2.heap.size + 1 + 1, 0, none⟩) 0 0, .agg #[.int .i64 7, .int .i64 ((k : Int) + 2)]]) (by simp [results, Tryd.results14, go_sem, p1, p2]) rfl ?_
            exact ⟨some ⟨w2.heap.size + 1 + 1, 0, none⟩, 0, by rw [unhide HS]; rfl, by rw [unhide HS]; exact (((unhide HOL).set w.heap.size 0 (.int .i64 7) (by omega)).set w.heap.size 1 (.int .i64 ((k : Int) + 2)) (by omega)).top (Nat.le_succ _) (by simp), grown_setNew (grown_setNew (unhide HGA) _ _ _ (Nat.le_refl _)) _ _ _ (Nat.le_refl _)⟩
          · have hdr : decide (((k + 2 : Nat) : Int) < (n : Int)) = false := decide_eq_false (by omega)
            have HS : Hid (readS zs = (ss, 0, 0)) := by unfold Hid; rw [unhide HRD, readFrom_fin (by omega) (by rw [unhide HMANY]; exact unhide HNX), if_neg (by omega)]
            obtain ⟨p1, p2, p3, p4⟩ := two_of (unhide HRF2)
            have HGA := hide hgA
            clear hgA
            go_wp2
            have q0 : ∀ j, (((((w2.setCell ⟨w.heap.size, 0, none⟩ (.int .i64 0)).setCell ⟨w.heap.size, 1, none⟩ (.int .i64 0)).alloc (.cells #[.int .i64 0, .slice none 0 0] 41)).alloc (.cells #[.int .i64 0, .int .i64 0] 30)).cell? ⟨w.heap.size, j, none⟩) = ((w2.setCell ⟨w.heap.size, 0, none⟩ (.int .i64 0)).setCell ⟨w.heap.size, 1, none⟩ (.int .i64 0)).cell? ⟨w.heap.size, j, none⟩ := fun j => by
              rw [World.cell?_alloc_lt _ _ _ (by simp; omega), World.cell?_alloc_lt _ _ _ (by simp; omega)]
            have hs1 : ∀ (W : World) (b j : Nat) (u : Value), (W.setCell ⟨b, j, none⟩ u).heap.size = W.heap.size := fun W b j u => by simp
            refine bodyPost_ret (v := .tuple #[.slice ao2 ss.length c2, .agg #[.int .i64 0, .int .i64 0]]) (by simp [results, Tryd.results14, go_sem, q0, p1, p2]) rfl ?_
            exact ⟨ao2, c2, by rw [unhide HS]; rfl, by rw [unhide HS]; exact (((((unhide HO2).set w.heap.size 0 (.int .i64 0) (by omega)).set w.heap.size 1 (.int .i64 0) (by omega)).alloc (by rw [hs1, hs1]; exact hsz2) (.cells #[.int .i64 0, .slice none 0 0] 41)).alloc (by simp; omega) (.cells #[.int .i64 0, .int .i64 0] 30)).top (Nat.le_succ _) (by simp; omega), grown_alloc (grown_alloc (grown_setNew (grown_setNew (unhide HG2) _ _ _ (Nat.le_refl _)) _ _ _ (Nat.le_refl _)) _) _⟩
        | seg m d nx =>
          obtain ⟨dv, rfl, od, g2⟩ := hpost
          have hnb := next_bounds (unhide HNX)
          have HS : Hid (readS zs = readFrom (f - 1) zs nx (kindOf m) (ss ++ [(m, d)])) := by unfold Hid; rw [unhide HRD]; exact readFrom_seg (by omega) (by rw [unhide HMANY]; exact unhide HNX)
          have hss3 : ss.length < 300 := by
            have h := unhide HMANY
            rw [hnb.2.2.2] at h
            have := of_decide_eq_false h
            omega
          obtain ⟨dd, dc, rfl⟩ := own_form od
          have hkc := hide (kindOf_cases m)
          have hg2 := grown_trans hgk g2
          have hrf2 := grown_at g2 (unhide HRF)
          have hlt : w.heap.size < w2.heap.size := (Array.getElem?_eq_some_iff.1 hrf2).1
          have hO3 := ((((unhide HOWN).grown g2 (Nat.le_refl _)).alloc g2.size (.cells #[.int .i64 m, .slice dd d.length dc] 41)).alloc (by have := g2.size; simp; omega) (.cells #[.int .i64 0, .int .i64 0] 30)).alloc (by have := g2.size; simp; omega) (.cells #[.int .i64 m, .slice dd d.length dc] 41)
          have hod3 := own_grown od (grown_alloc (grown_alloc (grown_alloc (World.grownBy.refl w2 none) (.cells #[.int .i64 m, .slice dd d.length dc] 41)) (.cells #[.int .i64 0, .int .i64 0] 30)) (.cells #[.int .i64 m, .slice dd d.length dc] 41))
          have hrf3 := alloc_at (alloc_at (alloc_at hrf2 (.cells #[.int .i64 m, .slice dd d.length dc] 41)) (.cells #[.int .i64 0, .int .i64 0] 30)) (.cells #[.int .i64 m, .slice dd d.length dc] 41)
          have hg3 := grown_alloc (grown_alloc (grown_alloc hg2 (.cells #[.int .i64 m, .slice dd d.length dc] 41)) (.cells #[.int .i64 0, .int .i64 0] 30)) (.cells #[.int .i64 m, .slice dd d.length dc] 41)
          obtain ⟨n1, n2, n3⟩ := three_new w2 (.cells #[.int .i64 m, .slice dd d.length dc] 41) (.cells #[.int .i64 0, .int .i64 0] 30) (.cells #[.int .i64 m, .slice dd d.length dc] 41)
          have hs2 := g2.size
          obtain ⟨d0, a1, a2, a3⟩ := hO3
          have HA1 := hide a1
          have HA2 := hide a2
          have HA3 := hide a3
          have HN1 := hide n1
          have HN3 := hide n3
          have HRF3 := hide hrf3
          have HG3 := hide hg3
          have HOD3 := hide hod3
          clear a1 a2 a3 n1 n2 n3 hrf3 hg3 hod3 hrf2 hg2 hgk g2 od
          generalize hdl : d.length = dl at *
          go_wp2_with (at_builtin; refine wpList_append_own _ rfl _ _ 24 rfl (w.heap.size + 1) 41 i0 (.agg #[.int .i64 0, .slice none 0 0]) 2 32 Tryd.underlying24 hi hz0 hz1 hz2 rfl (by decide) _ _ _ rfl (unhide HA1) ⟨w2.heap.size + 1 + 1, 0, none⟩ 1 1 [.int .i64 m, .slice dd dl dc] rfl rfl ?a1 ?a2 ?a3 ?a4 ?a5 ?_)
          case a1 =>
            intro j u hj
            rw [Addr.add_lit, Nat.zero_add, cell_of_row _ _ j _ _ (0, 0) (unhide HN3)]
            simpa using hj
          case a2 => intro u hu; simp at hu; rcases hu with rfl | rfl <;> rfl
          case a3 => unfold maxLen; omega
          case a4 => omega
          case a5 => simp; omega
          intro v3 w3 hown3 hgrow3 _
          have hrow : ∀ g, (Value.slice ao2 ss.length c2).ownBlock = some g → w.heap.size + 1 ≤ g ∧ g < wr.heap.size := fun g e => ⟨((unhide HA1).lt g e).1, unhide HA2 g e⟩
          have hg3 := grown_new (unhide HG3) hgrow3 (fun g e => by have := hrow g e; omega)
          have hrf3 : w3.heap[w.heap.size]? = some (.cells #[.int .i64 0, .int .i64 0] 30 (0, 0)) := (hgrow3.block w.heap.size (by simp; omega) (fun e => by have := hrow _ e.symm; omega)).trans (unhide HRF3)
          have hseg3 : w3.heap[w2.heap.size]? = some (.cells #[.int .i64 m, .slice dd dl dc] 41 (0, 0)) := (hgrow3.block w2.heap.size (by simp; omega) (fun e => by have := hrow _ e.symm; omega)).trans (unhide HN1)
          have hO := OwnS.push (hi := wr.heap.size) (base := wr.heap.size) (zs := d) (unhide HA1) (unhide HA3) (by simp; omega) (by have := (Array.getElem?_eq_some_iff.1 (unhide HRF)).1; omega) (Nat.le_refl _) (by rw [hdl]; exact unhide HOD3) hown3 hgrow3
          obtain ⟨c1, _, _, _⟩ := two_of hseg3
          have HO := hide hO
          have HRF4 := hide hrf3
          have hnxk := hnb.1
          have hnxn := hnb.2.1
          clear hown3 hgrow3 hrow hO hrf3 hseg3 hnb HA1 HA2 HA3 HN1 HN3 HRF3 HG3 HOD3
          go_wp2_with fail
          refine (specKind m (kindOf m) _ rfl).mono ?_
          rintro e w4 ⟨rfl, rfl⟩
          generalize hkm : kindOf m = km at *
          go_wp2
          go_roundw
          case rel => exact ⟨f - 1, nx, km, ss ++ [(m, d)], by omega, by omega, by omega, by go_num, by rfl, unhide hkc, by simp; omega, unhide HS, unhide HO, unhide HRF4, hg3⟩
          case measure => simp [intOf]; omega
    · have HS : Hid (readS zs = ([], 2, 0)) := by unfold Hid readS; rw [if_neg (by omega), if_neg hbe]
      by_cases h2 : n < 2
      · have hd2 : decide ((n : Int) < 2) = true := decide_eq_true (by omega)
        go_enter Tryd.func14, Tryd.ntmps14
        go_wp2
        refine bodyPost_ret (v := .tuple #[.slice (some ⟨w.heap.size + 1, 0, none⟩) 0 0, .agg #[.int .i64 2, .int .i64 0]]) (by simp [results, Tryd.results14, go_sem]) rfl ?_
        exact ⟨some ⟨w.heap.size + 1, 0, none⟩, 0, by rw [unhide HS]; rfl, by rw [unhide HS]; exact unhide O2, unhide G2⟩
      · have hd2 : decide ((n : Int) < 2) = false := decide_eq_false (by omega)
        have hn1 : 1 < n := by omega
        obtain ⟨b, off, rfl, hc0⟩ := unhide HC 0 (by omega)
        obtain ⟨b1, off1, e1, hc1⟩ := unhide HC 1 (by omega)
        simp only [Option.some.injEq, Addr.mk.injEq] at e1
        have ea := e1.1
        have eb := e1.2.1
        subst ea; subst eb
        rw [Nat.add_zero] at hc0
        by_cases h84 : zs.getD 0 0 = 84
        · have h83 : (zs.getD 1 0 != 83) = true := by
            rw [bne_iff_ne]; intro e; exact hbe ⟨by omega, h84, e⟩
          rw [h84] at hc0
          generalize zs.getD 1 0 = y at *
          clear e1 h84
          go_enter Tryd.func14, Tryd.ntmps14
          go_wp2
          refine bodyPost_ret (v := .tuple #[.slice (some ⟨w.heap.size + 1, 0, none⟩) 0 0, .agg #[.int .i64 2, .int .i64 0]]) (by simp [results, Tryd.results14, go_sem]) rfl ?_
          exact ⟨some ⟨w.heap.size + 1, 0, none⟩, 0, by rw [unhide HS]; rfl, by rw [unhide HS]; exact unhide O2, unhide G2⟩
        · have h84b : (zs.getD 0 0 != 84) = true := by rw [bne_iff_ne]; exact h84
          generalize zs.getD 0 0 = y at *
          clear e1 h84
          go_enter Tryd.func14, Tryd.ntmps14
          go_wp2
          refine bodyPost_ret (v := .tuple #[.slice (some ⟨w.heap.size + 1, 0, none⟩) 0 0, .agg #[.int .i64 2, .int .i64 0]]) (by simp [results, Tryd.results14, go_sem]) rfl ?_
          exact ⟨some ⟨w.heap.size + 1, 0, none⟩, 0, by rw [unhide HS]; rfl, by rw [unhide HS]; exact unhide O2, unhide G2⟩

end Go.Proofs.YticecjodbhhcfaaDoor
