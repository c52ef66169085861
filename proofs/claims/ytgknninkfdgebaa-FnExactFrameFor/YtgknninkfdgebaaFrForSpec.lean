/-
  FrameFor in the specification (written by gen_framefor.py).
-/
import Derived.Test.YtgknninkfdgebaaFramePic
import Derived.Test.YtgknninkfdgebaaPicSpec
import Derived.Test.YtgknninkfdgebaaOptRows
import Derived.Test.YtgknninkfdgebaaFrFx
import Derived.Deep.AppendLies
import Derived.Test.YtgknninkfdgebaaHeldTail
namespace Go.Proofs.Ytgknninkfdgebaa
open Go.RowKit

theorem grown_newR18 {a b c : World} {r row : Option Nat} (h : a.grownBy b r) (hg : b.grownBy c row) (hge : ∀ g, row = some g → a.heap.size ≤ g) : a.grownBy c r :=
  ⟨hg.os.trans h.os, hg.tape.trans h.tape, hg.output.trans h.output, Nat.le_trans h.size hg.size, fun k hk hr => (hg.block k (Nat.lt_of_lt_of_le hk h.size) (by intro e; have := hge k e.symm; omega)).trans (h.block k hk hr)⟩

set_option maxRecDepth 20000 in
set_option maxHeartbeats 6400000 in
theorem specL18 (p wd ht : Int) (xo : Option Addr) (n xc : Nat) (q m kd rs : Int) (co ha : Bool) (hn : n ≤ 4) (w : World) (tc hv : Bool) (HTC : Hid (tcB co n = tc)) (HHV : Hid (hvB ha n = hv)) :
    Calls Try.prog 44 #[.agg #[.int .i64 p, .int .i64 wd, .int .i64 ht, .slice xo n xc], .agg #[.int .i64 q, .int .i64 m, .int .i64 kd, .int .i64 rs, .bool co, .bool ha]] w fun e w' => ∃ so sc, e = .returned (.agg #[.int .i64 p, .int .i64 wd, .int .i64 ht, .int .i64 rs, .slice so n sc]) ∧
      w'.ownsRow w.heap.size 62 4 (.slice so n sc) n (rowsK n 4 (compCells (frC tc hv))) ∧ w.grownBy w' none := by
  obtain ⟨ic, hic, hz0, hz1, hz2⟩ := info_parts Try.info62
  obtain ⟨W0, hW0⟩ : ∃ W0, ((((w.alloc (.cells #[.int .i64 p, .int .i64 wd, .int .i64 ht, .slice xo n xc] 33)).alloc (.cells #[.int .i64 q, .int .i64 m, .int .i64 kd, .int .i64 rs, .bool co, .bool ha] 40)).alloc (.cells #[.int .i64 0, .int .i64 0, .int .i64 0, .int .i64 0, .slice none 0 0] 45)).alloc (.cells #[.int .i64 0, .int .i64 0, .int .i64 0, .int .i64 0, .slice none 0 0] 45)) = W0 := ⟨_, rfl⟩
  have HG0 : Hid (w.grownBy W0 none) := by rw [← hW0]; exact grown_alloc (grown_alloc (grown_alloc (World.grownBy_alloc _ _ _) _) _) _
  have b0 : Hid (W0.heap[w.heap.size]? = some (.cells #[.int .i64 p, .int .i64 wd, .int .i64 ht, .slice xo n xc] 33 (0, 0))) := by
    rw [← hW0, Below.heap_alloc _ _ _ (by simp <;> omega), Below.heap_alloc _ _ _ (by simp <;> omega), Below.heap_alloc _ _ _ (by simp)]
    exact heap_alloc_new w _
  have b1 : Hid (W0.heap[w.heap.size + 1]? = some (.cells #[.int .i64 q, .int .i64 m, .int .i64 kd, .int .i64 rs, .bool co, .bool ha] 40 (0, 0))) := by
    rw [← hW0, Below.heap_alloc _ _ _ (by simp <;> omega), Below.heap_alloc _ _ _ (by simp)]
    have := heap_alloc_new (w.alloc (.cells #[.int .i64 p, .int .i64 wd, .int .i64 ht, .slice xo n xc] 33)) (.cells #[.int .i64 q, .int .i64 m, .int .i64 kd, .int .i64 rs, .bool co, .bool ha] 40)
    unfold Hid
    simpa using this
  have b2 : Hid (W0.heap[w.heap.size + 1 + 1]? = some (.cells #[.int .i64 0, .int .i64 0, .int .i64 0, .int .i64 0, .slice none 0 0] 45 (0, 0))) := by
    rw [← hW0, Below.heap_alloc _ _ _ (by simp)]
    have := heap_alloc_new ((w.alloc (.cells #[.int .i64 p, .int .i64 wd, .int .i64 ht, .slice xo n xc] 33)).alloc (.cells #[.int .i64 q, .int .i64 m, .int .i64 kd, .int .i64 rs, .bool co, .bool ha] 40)) (.cells #[.int .i64 0, .int .i64 0, .int .i64 0, .int .i64 0, .slice none 0 0] 45)
    unfold Hid
    simpa using this
  have b3 : Hid (W0.heap[w.heap.size + 1 + 1 + 1]? = some (.cells #[.int .i64 0, .int .i64 0, .int .i64 0, .int .i64 0, .slice none 0 0] 45 (0, 0))) := by
    rw [← hW0]
    have := heap_alloc_new (((w.alloc (.cells #[.int .i64 p, .int .i64 wd, .int .i64 ht, .slice xo n xc] 33)).alloc (.cells #[.int .i64 q, .int .i64 m, .int .i64 kd, .int .i64 rs, .bool co, .bool ha] 40)).alloc (.cells #[.int .i64 0, .int .i64 0, .int .i64 0, .int .i64 0, .slice none 0 0] 45)) (.cells #[.int .i64 0, .int .i64 0, .int .i64 0, .int .i64 0, .slice none 0 0] 45)
    unfold Hid
    simpa using this
  have HS0 : Hid (W0.heap.size = w.heap.size + 4) := by rw [← hW0]; simp [Hid]
  have HW := hide hW0
  have hnI : (n : Int) ≤ 4 := by omega
  have HN4 := hide hn
  clear hW0
  go_enter Try.func44, Try.ntmps44
  go_wp2_with (rw [unhide HW]; refine store_row rfl 45 _ _ rfl (w.heap.size + 1 + 1 + 1) rfl #[.int .i64 p, .int .i64 wd, .int .i64 ht, .int .i64 rs, .slice none 0 0] rfl #[.int .i64 0, .int .i64 0, .int .i64 0, .int .i64 0, .slice none 0 0] 45 (unhide b3) rfl (by kernel_rfl) (by simp [Value.oneCell']) ?_; intro W1 hB3 g3; have P1 := rowAt (grown_at7 g3 (unhide b0) (by simp <;> omega)) 3 rfl)
  have O1 := hide (grown_at7 g3 (unhide b1) (by simp <;> omega))
  have R1 := hide (grown_at7 g3 (unhide b2) (by simp))
  have F1 := hide hB3
  have G1 := hide (grown_new (unhide HG0) g3 (fun g e => by simp at e; omega))
  have HS1 : Hid (w.heap.size + 4 ≤ W1.heap.size) := by have := g3.size; have := unhide HS0; unfold Hid; omega
  clear P1 g3 hB3 b0 b1 b2 b3 HG0 HW HS0
  generalize hs : w.heap.size = s at *
  have HSZ := hide hs
  clear hs
  go_loopw [7] (fun i wr => ∃ (k : Nat) (v : Value), k ≤ n ∧ i = .int .i64 k ∧ Hid (wr.heap[s + 1 + 1 + 1]? = some (.cells #[.int .i64 p, .int .i64 wd, .int .i64 ht, .int .i64 rs, v] 45 (0, 0))) ∧ Hid (wr.ownsRow W1.heap.size 62 4 v k (rowsK k 4 (compCells (frC tc hv)))) ∧ Hid (W1.grownBy wr (some (s + 1 + 1 + 1)))) (fun i _ => n - (intOf i).toNat)
  case atStart => exact ⟨0, _, Nat.zero_le _, rfl, F1, World.ownsRow_nil _ _ _ _, World.grownBy.refl _ _⟩
  case round =>
    obtain ⟨k, v, hk, rfl, HF, HO, HG⟩ := hrel
    have HOB := hide (grown_at7 (unhide HG) (unhide O1) (by simp <;> omega))
    have HRB := hide (grown_at7 (unhide HG) (unhide R1) (by simp <;> omega))
    by_cases hlt : k < n
    · have hkI : (k : Int) < (n : Int) := by omega
      obtain ⟨so, sc, rfl⟩ := own_form (unhide HO)
      have HO4 : Hid (∀ c, (wr.alloc (.cells c 62)).cell? ⟨s + 1, 4, none⟩ = some (.bool co)) := fun c => rowAt (grown_at7 (World.grownBy_alloc wr _ none) (unhide HOB) (by simp)) 4 rfl
      have HO5 : Hid (∀ c, (wr.alloc (.cells c 62)).cell? ⟨s + 1, 5, none⟩ = some (.bool ha)) := fun c => rowAt (grown_at7 (World.grownBy_alloc wr _ none) (unhide HOB) (by simp)) 5 rfl
      have f4 : ∀ c, (wr.alloc (.cells c 62)).cell? ⟨s + 1 + 1 + 1, 4, none⟩ = some (.slice so k sc) := fun c => rowAt (grown_at7 (World.grownBy_alloc wr _ none) (unhide HF) (by simp)) 4 rfl
      have HNB : Hid (∀ c d, ((wr.alloc (.cells c 62)).alloc (.cells d 62)).heap[wr.heap.size + 1]? = some (.cells d 62 (0, 0))) := fun c d => by
        have := heap_alloc_new (wr.alloc (.cells c 62)) (.cells d 62)
        simpa using this
      have HFB : Hid (∀ c d, ((wr.alloc (.cells c 62)).alloc (.cells d 62)).heap[s + 1 + 1 + 1]? = some (.cells #[.int .i64 p, .int .i64 wd, .int .i64 ht, .int .i64 rs, .slice so k sc] 45 (0, 0))) := fun c d => grown_at7 (grown_alloc (World.grownBy_alloc wr _ none) _) (unhide HF) (by simp)
      have e9 := i64_in ((k : Int) + 1) (by omega)
      have e8 := i64_in (1 + (k : Int)) (by omega)
      have e7 := i64_in (11 + (k : Int)) (by omega)
      have HLE : Hid (s + 1 + 1 + 1 < wr.heap.size) := (Array.getElem?_eq_some_iff.1 (unhide HF)).1
      have htc := unhide HTC
      unfold tcB at htc
      have hhv := unhide HHV
      unfold hvB at hhv
      clear HOB HRB
      rcases Nat.eq_zero_or_pos k with hk0 | hk0
      · have hk0I : ((k : Int) == 0) = true := by simpa using hk0
        subst hk0
        cases co with
        | false =>
          obtain rfl : tc = false := by simpa using htc.symm
          have o4 : ∀ c, (wr.alloc (.cells c 62)).cell? ⟨s + 1, 4, none⟩ = some (.bool false) := fun c => unhide HO4 c
          cases ha with
          | false =>
            obtain rfl : hv = false := by simpa using hhv.symm
            have o5 : ∀ c, (wr.alloc (.cells c 62)).cell? ⟨s + 1, 5, none⟩ = some (.bool false) := fun c => unhide HO5 c
            have HC : Hid (frC false false 0 = fun j => if j = 0 then 1 else if j = 1 then 1 else if j = 2 then 1 else 0) := by
              unfold Hid
              funext j
              simp [frC]
            go_wp2_with (at_builtin; refine wpList_append_own _ rfl _ _ 43 rfl W1.heap.size 62 ic _ 4 32 Try.underlying43 hic hz0 hz1 hz2 rfl (by omega) (.slice so 0 sc) 0 (rowsK 0 4 (compCells (frC false false))) rfl (own_grown (unhide HO) (grown_alloc (World.grownBy_alloc _ _ _) _)) ⟨wr.heap.size + 1, 0, none⟩ 1 1 [.int .i64 1, .int .i64 1, .int .i64 1, .int .i64 0] rfl rfl (World.news_of_block (cs := #[.int .i64 1, .int .i64 1, .int .i64 1, .int .i64 0]) (t := 62) (fr := (0, 0)) (unhide HNB _ _)) (by simp [Value.oneCell']) (by unfold maxLen; omega) (by omega) (by have := (unhide HG).size; simp; omega) ?_; intro v2 w2 hown2 hgrow2 _; have hrow2 := (hgrow2.block (s + 1 + 1 + 1) (by have := unhide HLE; simp; omega) (fun e => by have := ((unhide HO).lt _ e.symm).1; have := unhide HS1; omega)).trans (unhide HFB _ _); have c5 := frameCells5 hrow2; have f5 := frameFree hrow2; have HROW := hide hrow2; have HOWN := hide (own_as4 hown2 (n' := 0 + 1) (xs' := rowsK 0 4 (compCells (frC false false)) ++ [.int .i64 1, .int .i64 1, .int .i64 1, .int .i64 0]) (by omega) rfl); obtain ⟨bo, bc, hv2⟩ := own_form (unhide HOWN); subst hv2; have HGR := hide hgrow2; clear hrow2 hown2 hgrow2)
            have HF' := hide (heap_setCell_same w2 (s + 1 + 1 + 1) 4 _ _ (.slice bo (0 + 1) bc) (unhide HROW))
            have HO' : Hid ((w2.setCell ⟨s + 1 + 1 + 1, 4, none⟩ (.slice bo (0 + 1) bc)).ownsRow W1.heap.size 62 4 (.slice bo (0 + 1) bc) (0 + 1) (rowsK (0 + 1) 4 (compCells (frC false false)))) := own_sameAt (own_as4 (unhide HOWN) rfl (rowsK_comp _ 0 _ _ _ _ (unhide HC)).symm) (fun g e => Below.heap_setCell _ _ _ _ (by have := ((unhide HOWN).lt g e).1; have := unhide HS1; show g ≠ s + 1 + 1 + 1; omega))
            have HG' : Hid (W1.grownBy (w2.setCell ⟨s + 1 + 1 + 1, 4, none⟩ (.slice bo (0 + 1) bc)) (some (s + 1 + 1 + 1))) := grown_trans (grown_newR18 (grown_trans (unhide HG) (grown_any (grown_alloc (World.grownBy_alloc wr _ _) _))) (unhide HGR) (fun g e => ((unhide HO).lt g e).1)) (grown_set w2 _ 4 (.slice bo (0 + 1) bc))
            clear HROW HOWN HGR c5 f5
            go_roundw
            case rel => exact ⟨0 + 1, (.slice bo (0 + 1) bc), by omega, by go_num, HF', HO', HG'⟩
            case measure => simp [intOf]; omega
          | true =>
            have o5 : ∀ c, (wr.alloc (.cells c 62)).cell? ⟨s + 1, 5, none⟩ = some (.bool true) := fun c => unhide HO5 c
            simp only [Bool.true_and] at hhv
            cases hv with
            | false =>
              have HC : Hid (frC false false 0 = fun j => if j = 0 then 1 else if j = 1 then 1 else if j = 2 then 1 else 0) := by
                unfold Hid
                funext j
                simp [frC]
              go_wp2_with (at_builtin; refine wpList_append_own _ rfl _ _ 43 rfl W1.heap.size 62 ic _ 4 32 Try.underlying43 hic hz0 hz1 hz2 rfl (by omega) (.slice so 0 sc) 0 (rowsK 0 4 (compCells (frC false false))) rfl (own_grown (unhide HO) (grown_alloc (World.grownBy_alloc _ _ _) _)) ⟨wr.heap.size + 1, 0, none⟩ 1 1 [.int .i64 1, .int .i64 1, .int .i64 1, .int .i64 0] rfl rfl (World.news_of_block (cs := #[.int .i64 1, .int .i64 1, .int .i64 1, .int .i64 0]) (t := 62) (fr := (0, 0)) (unhide HNB _ _)) (by simp [Value.oneCell']) (by unfold maxLen; omega) (by omega) (by have := (unhide HG).size; simp; omega) ?_; intro v2 w2 hown2 hgrow2 _; have hrow2 := (hgrow2.block (s + 1 + 1 + 1) (by have := unhide HLE; simp; omega) (fun e => by have := ((unhide HO).lt _ e.symm).1; have := unhide HS1; omega)).trans (unhide HFB _ _); have c5 := frameCells5 hrow2; have f5 := frameFree hrow2; have HROW := hide hrow2; have HOWN := hide (own_as4 hown2 (n' := 0 + 1) (xs' := rowsK 0 4 (compCells (frC false false)) ++ [.int .i64 1, .int .i64 1, .int .i64 1, .int .i64 0]) (by omega) rfl); obtain ⟨bo, bc, hv2⟩ := own_form (unhide HOWN); subst hv2; have HGR := hide hgrow2; clear hrow2 hown2 hgrow2)
              have HF' := hide (heap_setCell_same w2 (s + 1 + 1 + 1) 4 _ _ (.slice bo (0 + 1) bc) (unhide HROW))
              have HO' : Hid ((w2.setCell ⟨s + 1 + 1 + 1, 4, none⟩ (.slice bo (0 + 1) bc)).ownsRow W1.heap.size 62 4 (.slice bo (0 + 1) bc) (0 + 1) (rowsK (0 + 1) 4 (compCells (frC false false)))) := own_sameAt (own_as4 (unhide HOWN) rfl (rowsK_comp _ 0 _ _ _ _ (unhide HC)).symm) (fun g e => Below.heap_setCell _ _ _ _ (by have := ((unhide HOWN).lt g e).1; have := unhide HS1; show g ≠ s + 1 + 1 + 1; omega))
              have HG' : Hid (W1.grownBy (w2.setCell ⟨s + 1 + 1 + 1, 4, none⟩ (.slice bo (0 + 1) bc)) (some (s + 1 + 1 + 1))) := grown_trans (grown_newR18 (grown_trans (unhide HG) (grown_any (grown_alloc (World.grownBy_alloc wr _ _) _))) (unhide HGR) (fun g e => ((unhide HO).lt g e).1)) (grown_set w2 _ 4 (.slice bo (0 + 1) bc))
              clear HROW HOWN HGR c5 f5
              go_roundw
              case rel => exact ⟨0 + 1, (.slice bo (0 + 1) bc), by omega, by go_num, HF', HO', HG'⟩
              case measure => simp [intOf]; omega
            | true =>
              have HC : Hid (frC false true 0 = fun j => if j = 0 then 1 else if j = 1 then 2 else if j = 2 then 2 else 0) := by
                unfold Hid
                funext j
                simp [frC]
              go_wp2_with (at_builtin; refine wpList_append_own _ rfl _ _ 43 rfl W1.heap.size 62 ic _ 4 32 Try.underlying43 hic hz0 hz1 hz2 rfl (by omega) (.slice so 0 sc) 0 (rowsK 0 4 (compCells (frC false true))) rfl (own_grown (unhide HO) (grown_alloc (World.grownBy_alloc _ _ _) _)) ⟨wr.heap.size + 1, 0, none⟩ 1 1 [.int .i64 1, .int .i64 2, .int .i64 2, .int .i64 0] rfl rfl (World.news_of_block (cs := #[.int .i64 1, .int .i64 2, .int .i64 2, .int .i64 0]) (t := 62) (fr := (0, 0)) (unhide HNB _ _)) (by simp [Value.oneCell']) (by unfold maxLen; omega) (by omega) (by have := (unhide HG).size; simp; omega) ?_; intro v2 w2 hown2 hgrow2 _; have hrow2 := (hgrow2.block (s + 1 + 1 + 1) (by have := unhide HLE; simp; omega) (fun e => by have := ((unhide HO).lt _ e.symm).1; have := unhide HS1; omega)).trans (unhide HFB _ _); have c5 := frameCells5 hrow2; have f5 := frameFree hrow2; have HROW := hide hrow2; have HOWN := hide (own_as4 hown2 (n' := 0 + 1) (xs' := rowsK 0 4 (compCells (frC false true)) ++ [.int .i64 1, .int .i64 2, .int .i64 2, .int .i64 0]) (by omega) rfl); obtain ⟨bo, bc, hv2⟩ := own_form (unhide HOWN); subst hv2; have HGR := hide hgrow2; clear hrow2 hown2 hgrow2)
              have HF' := hide (heap_setCell_same w2 (s + 1 + 1 + 1) 4 _ _ (.slice bo (0 + 1) bc) (unhide HROW))
              have HO' : Hid ((w2.setCell ⟨s + 1 + 1 + 1, 4, none⟩ (.slice bo (0 + 1) bc)).ownsRow W1.heap.size 62 4 (.slice bo (0 + 1) bc) (0 + 1) (rowsK (0 + 1) 4 (compCells (frC false true)))) := own_sameAt (own_as4 (unhide HOWN) rfl (rowsK_comp _ 0 _ _ _ _ (unhide HC)).symm) (fun g e => Below.heap_setCell _ _ _ _ (by have := ((unhide HOWN).lt g e).1; have := unhide HS1; show g ≠ s + 1 + 1 + 1; omega))
              have HG' : Hid (W1.grownBy (w2.setCell ⟨s + 1 + 1 + 1, 4, none⟩ (.slice bo (0 + 1) bc)) (some (s + 1 + 1 + 1))) := grown_trans (grown_newR18 (grown_trans (unhide HG) (grown_any (grown_alloc (World.grownBy_alloc wr _ _) _))) (unhide HGR) (fun g e => ((unhide HO).lt g e).1)) (grown_set w2 _ 4 (.slice bo (0 + 1) bc))
              clear HROW HOWN HGR c5 f5
              go_roundw
              case rel => exact ⟨0 + 1, (.slice bo (0 + 1) bc), by omega, by go_num, HF', HO', HG'⟩
              case measure => simp [intOf]; omega
        | true =>
          have o4 : ∀ c, (wr.alloc (.cells c 62)).cell? ⟨s + 1, 4, none⟩ = some (.bool true) := fun c => unhide HO4 c
          simp only [Bool.true_and] at htc
          have hcc : ((n : Int) == 3) = tc := by rw [← htc]; rfl
          clear htc
          cases tc with
          | false =>
            cases ha with
            | false =>
              obtain rfl : hv = false := by simpa using hhv.symm
              have o5 : ∀ c, (wr.alloc (.cells c 62)).cell? ⟨s + 1, 5, none⟩ = some (.bool false) := fun c => unhide HO5 c
              have HC : Hid (frC false false 0 = fun j => if j = 0 then 1 else if j = 1 then 1 else if j = 2 then 1 else 0) := by
                unfold Hid
                funext j
                simp [frC]
              go_wp2_with (at_builtin; refine wpList_append_own _ rfl _ _ 43 rfl W1.heap.size 62 ic _ 4 32 Try.underlying43 hic hz0 hz1 hz2 rfl (by omega) (.slice so 0 sc) 0 (rowsK 0 4 (compCells (frC false false))) rfl (own_grown (unhide HO) (grown_alloc (World.grownBy_alloc _ _ _) _)) ⟨wr.heap.size + 1, 0, none⟩ 1 1 [.int .i64 1, .int .i64 1, .int .i64 1, .int .i64 0] rfl rfl (World.news_of_block (cs := #[.int .i64 1, .int .i64 1, .int .i64 1, .int .i64 0]) (t := 62) (fr := (0, 0)) (unhide HNB _ _)) (by simp [Value.oneCell']) (by unfold maxLen; omega) (by omega) (by have := (unhide HG).size; simp; omega) ?_; intro v2 w2 hown2 hgrow2 _; have hrow2 := (hgrow2.block (s + 1 + 1 + 1) (by have := unhide HLE; simp; omega) (fun e => by have := ((unhide HO).lt _ e.symm).1; have := unhide HS1; omega)).trans (unhide HFB _ _); have c5 := frameCells5 hrow2; have f5 := frameFree hrow2; have HROW := hide hrow2; have HOWN := hide (own_as4 hown2 (n' := 0 + 1) (xs' := rowsK 0 4 (compCells (frC false false)) ++ [.int .i64 1, .int .i64 1, .int .i64 1, .int .i64 0]) (by omega) rfl); obtain ⟨bo, bc, hv2⟩ := own_form (unhide HOWN); subst hv2; have HGR := hide hgrow2; clear hrow2 hown2 hgrow2)
              have HF' := hide (heap_setCell_same w2 (s + 1 + 1 + 1) 4 _ _ (.slice bo (0 + 1) bc) (unhide HROW))
              have HO' : Hid ((w2.setCell ⟨s + 1 + 1 + 1, 4, none⟩ (.slice bo (0 + 1) bc)).ownsRow W1.heap.size 62 4 (.slice bo (0 + 1) bc) (0 + 1) (rowsK (0 + 1) 4 (compCells (frC false false)))) := own_sameAt (own_as4 (unhide HOWN) rfl (rowsK_comp _ 0 _ _ _ _ (unhide HC)).symm) (fun g e => Below.heap_setCell _ _ _ _ (by have := ((unhide HOWN).lt g e).1; have := unhide HS1; show g ≠ s + 1 + 1 + 1; omega))
              have HG' : Hid (W1.grownBy (w2.setCell ⟨s + 1 + 1 + 1, 4, none⟩ (.slice bo (0 + 1) bc)) (some (s + 1 + 1 + 1))) := grown_trans (grown_newR18 (grown_trans (unhide HG) (grown_any (grown_alloc (World.grownBy_alloc wr _ _) _))) (unhide HGR) (fun g e => ((unhide HO).lt g e).1)) (grown_set w2 _ 4 (.slice bo (0 + 1) bc))
              clear HROW HOWN HGR c5 f5
              go_roundw
              case rel => exact ⟨0 + 1, (.slice bo (0 + 1) bc), by omega, by go_num, HF', HO', HG'⟩
              case measure => simp [intOf]; omega
            | true =>
              have o5 : ∀ c, (wr.alloc (.cells c 62)).cell? ⟨s + 1, 5, none⟩ = some (.bool true) := fun c => unhide HO5 c
              simp only [Bool.true_and] at hhv
              cases hv with
              | false =>
                have HC : Hid (frC false false 0 = fun j => if j = 0 then 1 else if j = 1 then 1 else if j = 2 then 1 else 0) := by
                  unfold Hid
                  funext j
                  simp [frC]
                go_wp2_with (at_builtin; refine wpList_append_own _ rfl _ _ 43 rfl W1.heap.size 62 ic _ 4 32 Try.underlying43 hic hz0 hz1 hz2 rfl (by omega) (.slice so 0 sc) 0 (rowsK 0 4 (compCells (frC false false))) rfl (own_grown (unhide HO) (grown_alloc (World.grownBy_alloc _ _ _) _)) ⟨wr.heap.size + 1, 0, none⟩ 1 1 [.int .i64 1, .int .i64 1, .int .i64 1, .int .i64 0] rfl rfl (World.news_of_block (cs := #[.int .i64 1, .int .i64 1, .int .i64 1, .int .i64 0]) (t := 62) (fr := (0, 0)) (unhide HNB _ _)) (by simp [Value.oneCell']) (by unfold maxLen; omega) (by omega) (by have := (unhide HG).size; simp; omega) ?_; intro v2 w2 hown2 hgrow2 _; have hrow2 := (hgrow2.block (s + 1 + 1 + 1) (by have := unhide HLE; simp; omega) (fun e => by have := ((unhide HO).lt _ e.symm).1; have := unhide HS1; omega)).trans (unhide HFB _ _); have c5 := frameCells5 hrow2; have f5 := frameFree hrow2; have HROW := hide hrow2; have HOWN := hide (own_as4 hown2 (n' := 0 + 1) (xs' := rowsK 0 4 (compCells (frC false false)) ++ [.int .i64 1, .int .i64 1, .int .i64 1, .int .i64 0]) (by omega) rfl); obtain ⟨bo, bc, hv2⟩ := own_form (unhide HOWN); subst hv2; have HGR := hide hgrow2; clear hrow2 hown2 hgrow2)
                have HF' := hide (heap_setCell_same w2 (s + 1 + 1 + 1) 4 _ _ (.slice bo (0 + 1) bc) (unhide HROW))
                have HO' : Hid ((w2.setCell ⟨s + 1 + 1 + 1, 4, none⟩ (.slice bo (0 + 1) bc)).ownsRow W1.heap.size 62 4 (.slice bo (0 + 1) bc) (0 + 1) (rowsK (0 + 1) 4 (compCells (frC false false)))) := own_sameAt (own_as4 (unhide HOWN) rfl (rowsK_comp _ 0 _ _ _ _ (unhide HC)).symm) (fun g e => Below.heap_setCell _ _ _ _ (by have := ((unhide HOWN).lt g e).1; have := unhide HS1; show g ≠ s + 1 + 1 + 1; omega))
                have HG' : Hid (W1.grownBy (w2.setCell ⟨s + 1 + 1 + 1, 4, none⟩ (.slice bo (0 + 1) bc)) (some (s + 1 + 1 + 1))) := grown_trans (grown_newR18 (grown_trans (unhide HG) (grown_any (grown_alloc (World.grownBy_alloc wr _ _) _))) (unhide HGR) (fun g e => ((unhide HO).lt g e).1)) (grown_set w2 _ 4 (.slice bo (0 + 1) bc))
                clear HROW HOWN HGR c5 f5
                go_roundw
                case rel => exact ⟨0 + 1, (.slice bo (0 + 1) bc), by omega, by go_num, HF', HO', HG'⟩
                case measure => simp [intOf]; omega
              | true =>
                have HC : Hid (frC false true 0 = fun j => if j = 0 then 1 else if j = 1 then 2 else if j = 2 then 2 else 0) := by
                  unfold Hid
                  funext j
                  simp [frC]
                go_wp2_with (at_builtin; refine wpList_append_own _ rfl _ _ 43 rfl W1.heap.size 62 ic _ 4 32 Try.underlying43 hic hz0 hz1 hz2 rfl (by omega) (.slice so 0 sc) 0 (rowsK 0 4 (compCells (frC false true))) rfl (own_grown (unhide HO) (grown_alloc (World.grownBy_alloc _ _ _) _)) ⟨wr.heap.size + 1, 0, none⟩ 1 1 [.int .i64 1, .int .i64 2, .int .i64 2, .int .i64 0] rfl rfl (World.news_of_block (cs := #[.int .i64 1, .int .i64 2, .int .i64 2, .int .i64 0]) (t := 62) (fr := (0, 0)) (unhide HNB _ _)) (by simp [Value.oneCell']) (by unfold maxLen; omega) (by omega) (by have := (unhide HG).size; simp; omega) ?_; intro v2 w2 hown2 hgrow2 _; have hrow2 := (hgrow2.block (s + 1 + 1 + 1) (by have := unhide HLE; simp; omega) (fun e => by have := ((unhide HO).lt _ e.symm).1; have := unhide HS1; omega)).trans (unhide HFB _ _); have c5 := frameCells5 hrow2; have f5 := frameFree hrow2; have HROW := hide hrow2; have HOWN := hide (own_as4 hown2 (n' := 0 + 1) (xs' := rowsK 0 4 (compCells (frC false true)) ++ [.int .i64 1, .int .i64 2, .int .i64 2, .int .i64 0]) (by omega) rfl); obtain ⟨bo, bc, hv2⟩ := own_form (unhide HOWN); subst hv2; have HGR := hide hgrow2; clear hrow2 hown2 hgrow2)
                have HF' := hide (heap_setCell_same w2 (s + 1 + 1 + 1) 4 _ _ (.slice bo (0 + 1) bc) (unhide HROW))
                have HO' : Hid ((w2.setCell ⟨s + 1 + 1 + 1, 4, none⟩ (.slice bo (0 + 1) bc)).ownsRow W1.heap.size 62 4 (.slice bo (0 + 1) bc) (0 + 1) (rowsK (0 + 1) 4 (compCells (frC false true)))) := own_sameAt (own_as4 (unhide HOWN) rfl (rowsK_comp _ 0 _ _ _ _ (unhide HC)).symm) (fun g e => Below.heap_setCell _ _ _ _ (by have := ((unhide HOWN).lt g e).1; have := unhide HS1; show g ≠ s + 1 + 1 + 1; omega))
                have HG' : Hid (W1.grownBy (w2.setCell ⟨s + 1 + 1 + 1, 4, none⟩ (.slice bo (0 + 1) bc)) (some (s + 1 + 1 + 1))) := grown_trans (grown_newR18 (grown_trans (unhide HG) (grown_any (grown_alloc (World.grownBy_alloc wr _ _) _))) (unhide HGR) (fun g e => ((unhide HO).lt g e).1)) (grown_set w2 _ 4 (.slice bo (0 + 1) bc))
                clear HROW HOWN HGR c5 f5
                go_roundw
                case rel => exact ⟨0 + 1, (.slice bo (0 + 1) bc), by omega, by go_num, HF', HO', HG'⟩
                case measure => simp [intOf]; omega
          | true =>
            cases ha with
            | false =>
              obtain rfl : hv = false := by simpa using hhv.symm
              have o5 : ∀ c, (wr.alloc (.cells c 62)).cell? ⟨s + 1, 5, none⟩ = some (.bool false) := fun c => unhide HO5 c
              have HC : Hid (frC true false 0 = fun j => if j = 0 then 11 else if j = 1 then 1 else if j = 2 then 1 else 0) := by
                unfold Hid
                funext j
                simp [frC]
              go_wp2_with (at_builtin; refine wpList_append_own _ rfl _ _ 43 rfl W1.heap.size 62 ic _ 4 32 Try.underlying43 hic hz0 hz1 hz2 rfl (by omega) (.slice so 0 sc) 0 (rowsK 0 4 (compCells (frC true false))) rfl (own_grown (unhide HO) (grown_alloc (World.grownBy_alloc _ _ _) _)) ⟨wr.heap.size + 1, 0, none⟩ 1 1 [.int .i64 11, .int .i64 1, .int .i64 1, .int .i64 0] rfl rfl (World.news_of_block (cs := #[.int .i64 11, .int .i64 1, .int .i64 1, .int .i64 0]) (t := 62) (fr := (0, 0)) (unhide HNB _ _)) (by simp [Value.oneCell']) (by unfold maxLen; omega) (by omega) (by have := (unhide HG).size; simp; omega) ?_; intro v2 w2 hown2 hgrow2 _; have hrow2 := (hgrow2.block (s + 1 + 1 + 1) (by have := unhide HLE; simp; omega) (fun e => by have := ((unhide HO).lt _ e.symm).1; have := unhide HS1; omega)).trans (unhide HFB _ _); have c5 := frameCells5 hrow2; have f5 := frameFree hrow2; have HROW := hide hrow2; have HOWN := hide (own_as4 hown2 (n' := 0 + 1) (xs' := rowsK 0 4 (compCells (frC true false)) ++ [.int .i64 11, .int .i64 1, .int .i64 1, .int .i64 0]) (by omega) rfl); obtain ⟨bo, bc, hv2⟩ := own_form (unhide HOWN); subst hv2; have HGR := hide hgrow2; clear hrow2 hown2 hgrow2)
              have HF' := hide (heap_setCell_same w2 (s + 1 + 1 + 1) 4 _ _ (.slice bo (0 + 1) bc) (unhide HROW))
              have HO' : Hid ((w2.setCell ⟨s + 1 + 1 + 1, 4, none⟩ (.slice bo (0 + 1) bc)).ownsRow W1.heap.size 62 4 (.slice bo (0 + 1) bc) (0 + 1) (rowsK (0 + 1) 4 (compCells (frC true false)))) := own_sameAt (own_as4 (unhide HOWN) rfl (rowsK_comp _ 0 _ _ _ _ (unhide HC)).symm) (fun g e => Below.heap_setCell _ _ _ _ (by have := ((unhide HOWN).lt g e).1; have := unhide HS1; show g ≠ s + 1 + 1 + 1; omega))
              have HG' : Hid (W1.grownBy (w2.setCell ⟨s + 1 + 1 + 1, 4, none⟩ (.slice bo (0 + 1) bc)) (some (s + 1 + 1 + 1))) := grown_trans (grown_newR18 (grown_trans (unhide HG) (grown_any (grown_alloc (World.grownBy_alloc wr _ _) _))) (unhide HGR) (fun g e => ((unhide HO).lt g e).1)) (grown_set w2 _ 4 (.slice bo (0 + 1) bc))
              clear HROW HOWN HGR c5 f5
              go_roundw
              case rel => exact ⟨0 + 1, (.slice bo (0 + 1) bc), by omega, by go_num, HF', HO', HG'⟩
              case measure => simp [intOf]; omega
            | true =>
              have o5 : ∀ c, (wr.alloc (.cells c 62)).cell? ⟨s + 1, 5, none⟩ = some (.bool true) := fun c => unhide HO5 c
              simp only [Bool.true_and] at hhv
              cases hv with
              | false =>
                have HC : Hid (frC true false 0 = fun j => if j = 0 then 11 else if j = 1 then 1 else if j = 2 then 1 else 0) := by
                  unfold Hid
                  funext j
                  simp [frC]
                go_wp2_with (at_builtin; refine wpList_append_own _ rfl _ _ 43 rfl W1.heap.size 62 ic _ 4 32 Try.underlying43 hic hz0 hz1 hz2 rfl (by omega) (.slice so 0 sc) 0 (rowsK 0 4 (compCells (frC true false))) rfl (own_grown (unhide HO) (grown_alloc (World.grownBy_alloc _ _ _) _)) ⟨wr.heap.size + 1, 0, none⟩ 1 1 [.int .i64 11, .int .i64 1, .int .i64 1, .int .i64 0] rfl rfl (World.news_of_block (cs := #[.int .i64 11, .int .i64 1, .int .i64 1, .int .i64 0]) (t := 62) (fr := (0, 0)) (unhide HNB _ _)) (by simp [Value.oneCell']) (by unfold maxLen; omega) (by omega) (by have := (unhide HG).size; simp; omega) ?_; intro v2 w2 hown2 hgrow2 _; have hrow2 := (hgrow2.block (s + 1 + 1 + 1) (by have := unhide HLE; simp; omega) (fun e => by have := ((unhide HO).lt _ e.symm).1; have := unhide HS1; omega)).trans (unhide HFB _ _); have c5 := frameCells5 hrow2; have f5 := frameFree hrow2; have HROW := hide hrow2; have HOWN := hide (own_as4 hown2 (n' := 0 + 1) (xs' := rowsK 0 4 (compCells (frC true false)) ++ [.int .i64 11, .int .i64 1, .int .i64 1, .int .i64 0]) (by omega) rfl); obtain ⟨bo, bc, hv2⟩ := own_form (unhide HOWN); subst hv2; have HGR := hide hgrow2; clear hrow2 hown2 hgrow2)
                have HF' := hide (heap_setCell_same w2 (s + 1 + 1 + 1) 4 _ _ (.slice bo (0 + 1) bc) (unhide HROW))
                have HO' : Hid ((w2.setCell ⟨s + 1 + 1 + 1, 4, none⟩ (.slice bo (0 + 1) bc)).ownsRow W1.heap.size 62 4 (.slice bo (0 + 1) bc) (0 + 1) (rowsK (0 + 1) 4 (compCells (frC true false)))) := own_sameAt (own_as4 (unhide HOWN) rfl (rowsK_comp _ 0 _ _ _ _ (unhide HC)).symm) (fun g e => Below.heap_setCell _ _ _ _ (by have := ((unhide HOWN).lt g e).1; have := unhide HS1; show g ≠ s + 1 + 1 + 1; omega))
                have HG' : Hid (W1.grownBy (w2.setCell ⟨s + 1 + 1 + 1, 4, none⟩ (.slice bo (0 + 1) bc)) (some (s + 1 + 1 + 1))) := grown_trans (grown_newR18 (grown_trans (unhide HG) (grown_any (grown_alloc (World.grownBy_alloc wr _ _) _))) (unhide HGR) (fun g e => ((unhide HO).lt g e).1)) (grown_set w2 _ 4 (.slice bo (0 + 1) bc))
                clear HROW HOWN HGR c5 f5
                go_roundw
                case rel => exact ⟨0 + 1, (.slice bo (0 + 1) bc), by omega, by go_num, HF', HO', HG'⟩
                case measure => simp [intOf]; omega
              | true =>
                have HC : Hid (frC true true 0 = fun j => if j = 0 then 11 else if j = 1 then 2 else if j = 2 then 2 else 0) := by
                  unfold Hid
                  funext j
                  simp [frC]
                go_wp2_with (at_builtin; refine wpList_append_own _ rfl _ _ 43 rfl W1.heap.size 62 ic _ 4 32 Try.underlying43 hic hz0 hz1 hz2 rfl (by omega) (.slice so 0 sc) 0 (rowsK 0 4 (compCells (frC true true))) rfl (own_grown (unhide HO) (grown_alloc (World.grownBy_alloc _ _ _) _)) ⟨wr.heap.size + 1, 0, none⟩ 1 1 [.int .i64 11, .int .i64 2, .int .i64 2, .int .i64 0] rfl rfl (World.news_of_block (cs := #[.int .i64 11, .int .i64 2, .int .i64 2, .int .i64 0]) (t := 62) (fr := (0, 0)) (unhide HNB _ _)) (by simp [Value.oneCell']) (by unfold maxLen; omega) (by omega) (by have := (unhide HG).size; simp; omega) ?_; intro v2 w2 hown2 hgrow2 _; have hrow2 := (hgrow2.block (s + 1 + 1 + 1) (by have := unhide HLE; simp; omega) (fun e => by have := ((unhide HO).lt _ e.symm).1; have := unhide HS1; omega)).trans (unhide HFB _ _); have c5 := frameCells5 hrow2; have f5 := frameFree hrow2; have HROW := hide hrow2; have HOWN := hide (own_as4 hown2 (n' := 0 + 1) (xs' := rowsK 0 4 (compCells (frC true true)) ++ [.int .i64 11, .int .i64 2, .int .i64 2, .int .i64 0]) (by omega) rfl); obtain ⟨bo, bc, hv2⟩ := own_form (unhide HOWN); subst hv2; have HGR := hide hgrow2; clear hrow2 hown2 hgrow2)
                have HF' := hide (heap_setCell_same w2 (s + 1 + 1 + 1) 4 _ _ (.slice bo (0 + 1) bc) (unhide HROW))
                have HO' : Hid ((w2.setCell ⟨s + 1 + 1 + 1, 4, none⟩ (.slice bo (0 + 1) bc)).ownsRow W1.heap.size 62 4 (.slice bo (0 + 1) bc) (0 + 1) (rowsK (0 + 1) 4 (compCells (frC true true)))) := own_sameAt (own_as4 (unhide HOWN) rfl (rowsK_comp _ 0 _ _ _ _ (unhide HC)).symm) (fun g e => Below.heap_setCell _ _ _ _ (by have := ((unhide HOWN).lt g e).1; have := unhide HS1; show g ≠ s + 1 + 1 + 1; omega))
                have HG' : Hid (W1.grownBy (w2.setCell ⟨s + 1 + 1 + 1, 4, none⟩ (.slice bo (0 + 1) bc)) (some (s + 1 + 1 + 1))) := grown_trans (grown_newR18 (grown_trans (unhide HG) (grown_any (grown_alloc (World.grownBy_alloc wr _ _) _))) (unhide HGR) (fun g e => ((unhide HO).lt g e).1)) (grown_set w2 _ 4 (.slice bo (0 + 1) bc))
                clear HROW HOWN HGR c5 f5
                go_roundw
                case rel => exact ⟨0 + 1, (.slice bo (0 + 1) bc), by omega, by go_num, HF', HO', HG'⟩
                case measure => simp [intOf]; omega
      · have hk0I : ((k : Int) == 0) = false := by simp; omega
        cases co with
        | false =>
          obtain rfl : tc = false := by simpa using htc.symm
          have o4 : ∀ c, (wr.alloc (.cells c 62)).cell? ⟨s + 1, 4, none⟩ = some (.bool false) := fun c => unhide HO4 c
          have HC : Hid (frC false hv k = fun j => if j = 0 then (1 + (k : Int)) else if j = 1 then 1 else if j = 2 then 1 else 1) := by
            unfold Hid
            funext j
            simp [frC, show ¬ k = 0 by omega]
          go_wp2_with (at_builtin; refine wpList_append_own _ rfl _ _ 43 rfl W1.heap.size 62 ic _ 4 32 Try.underlying43 hic hz0 hz1 hz2 rfl (by omega) (.slice so k sc) k (rowsK k 4 (compCells (frC false hv))) rfl (own_grown (unhide HO) (grown_alloc (World.grownBy_alloc _ _ _) _)) ⟨wr.heap.size + 1, 0, none⟩ 1 1 [.int .i64 (1 + (k : Int)), .int .i64 1, .int .i64 1, .int .i64 1] rfl rfl (World.news_of_block (cs := #[.int .i64 (1 + (k : Int)), .int .i64 1, .int .i64 1, .int .i64 1]) (t := 62) (fr := (0, 0)) (unhide HNB _ _)) (by simp [Value.oneCell']) (by unfold maxLen; omega) (by omega) (by have := (unhide HG).size; simp; omega) ?_; intro v2 w2 hown2 hgrow2 _; have hrow2 := (hgrow2.block (s + 1 + 1 + 1) (by have := unhide HLE; simp; omega) (fun e => by have := ((unhide HO).lt _ e.symm).1; have := unhide HS1; omega)).trans (unhide HFB _ _); have c5 := frameCells5 hrow2; have f5 := frameFree hrow2; have HROW := hide hrow2; have HOWN := hide (own_as4 hown2 (n' := k + 1) (xs' := rowsK k 4 (compCells (frC false hv)) ++ [.int .i64 (1 + (k : Int)), .int .i64 1, .int .i64 1, .int .i64 1]) (by omega) rfl); obtain ⟨bo, bc, hv2⟩ := own_form (unhide HOWN); subst hv2; have HGR := hide hgrow2; clear hrow2 hown2 hgrow2)
          have HF' := hide (heap_setCell_same w2 (s + 1 + 1 + 1) 4 _ _ (.slice bo (k + 1) bc) (unhide HROW))
          have HO' : Hid ((w2.setCell ⟨s + 1 + 1 + 1, 4, none⟩ (.slice bo (k + 1) bc)).ownsRow W1.heap.size 62 4 (.slice bo (k + 1) bc) (k + 1) (rowsK (k + 1) 4 (compCells (frC false hv)))) := own_sameAt (own_as4 (unhide HOWN) rfl (rowsK_comp _ k _ _ _ _ (unhide HC)).symm) (fun g e => Below.heap_setCell _ _ _ _ (by have := ((unhide HOWN).lt g e).1; have := unhide HS1; show g ≠ s + 1 + 1 + 1; omega))
          have HG' : Hid (W1.grownBy (w2.setCell ⟨s + 1 + 1 + 1, 4, none⟩ (.slice bo (k + 1) bc)) (some (s + 1 + 1 + 1))) := grown_trans (grown_newR18 (grown_trans (unhide HG) (grown_any (grown_alloc (World.grownBy_alloc wr _ _) _))) (unhide HGR) (fun g e => ((unhide HO).lt g e).1)) (grown_set w2 _ 4 (.slice bo (k + 1) bc))
          clear HROW HOWN HGR c5 f5
          go_roundw
          case rel => exact ⟨k + 1, (.slice bo (k + 1) bc), by omega, by go_num, HF', HO', HG'⟩
          case measure => simp [intOf]; omega
        | true =>
          have o4 : ∀ c, (wr.alloc (.cells c 62)).cell? ⟨s + 1, 4, none⟩ = some (.bool true) := fun c => unhide HO4 c
          simp only [Bool.true_and] at htc
          have hcc : ((n : Int) == 3) = tc := by rw [← htc]; rfl
          clear htc
          cases tc with
          | false =>
            have HC : Hid (frC false hv k = fun j => if j = 0 then (1 + (k : Int)) else if j = 1 then 1 else if j = 2 then 1 else 1) := by
              unfold Hid
              funext j
              simp [frC, show ¬ k = 0 by omega]
            go_wp2_with (at_builtin; refine wpList_append_own _ rfl _ _ 43 rfl W1.heap.size 62 ic _ 4 32 Try.underlying43 hic hz0 hz1 hz2 rfl (by omega) (.slice so k sc) k (rowsK k 4 (compCells (frC false hv))) rfl (own_grown (unhide HO) (grown_alloc (World.grownBy_alloc _ _ _) _)) ⟨wr.heap.size + 1, 0, none⟩ 1 1 [.int .i64 (1 + (k : Int)), .int .i64 1, .int .i64 1, .int .i64 1] rfl rfl (World.news_of_block (cs := #[.int .i64 (1 + (k : Int)), .int .i64 1, .int .i64 1, .int .i64 1]) (t := 62) (fr := (0, 0)) (unhide HNB _ _)) (by simp [Value.oneCell']) (by unfold maxLen; omega) (by omega) (by have := (unhide HG).size; simp; omega) ?_; intro v2 w2 hown2 hgrow2 _; have hrow2 := (hgrow2.block (s + 1 + 1 + 1) (by have := unhide HLE; simp; omega) (fun e => by have := ((unhide HO).lt _ e.symm).1; have := unhide HS1; omega)).trans (unhide HFB _ _); have c5 := frameCells5 hrow2; have f5 := frameFree hrow2; have HROW := hide hrow2; have HOWN := hide (own_as4 hown2 (n' := k + 1) (xs' := rowsK k 4 (compCells (frC false hv)) ++ [.int .i64 (1 + (k : Int)), .int .i64 1, .int .i64 1, .int .i64 1]) (by omega) rfl); obtain ⟨bo, bc, hv2⟩ := own_form (unhide HOWN); subst hv2; have HGR := hide hgrow2; clear hrow2 hown2 hgrow2)
            have HF' := hide (heap_setCell_same w2 (s + 1 + 1 + 1) 4 _ _ (.slice bo (k + 1) bc) (unhide HROW))
            have HO' : Hid ((w2.setCell ⟨s + 1 + 1 + 1, 4, none⟩ (.slice bo (k + 1) bc)).ownsRow W1.heap.size 62 4 (.slice bo (k + 1) bc) (k + 1) (rowsK (k + 1) 4 (compCells (frC false hv)))) := own_sameAt (own_as4 (unhide HOWN) rfl (rowsK_comp _ k _ _ _ _ (unhide HC)).symm) (fun g e => Below.heap_setCell _ _ _ _ (by have := ((unhide HOWN).lt g e).1; have := unhide HS1; show g ≠ s + 1 + 1 + 1; omega))
            have HG' : Hid (W1.grownBy (w2.setCell ⟨s + 1 + 1 + 1, 4, none⟩ (.slice bo (k + 1) bc)) (some (s + 1 + 1 + 1))) := grown_trans (grown_newR18 (grown_trans (unhide HG) (grown_any (grown_alloc (World.grownBy_alloc wr _ _) _))) (unhide HGR) (fun g e => ((unhide HO).lt g e).1)) (grown_set w2 _ 4 (.slice bo (k + 1) bc))
            clear HROW HOWN HGR c5 f5
            go_roundw
            case rel => exact ⟨k + 1, (.slice bo (k + 1) bc), by omega, by go_num, HF', HO', HG'⟩
            case measure => simp [intOf]; omega
          | true =>
            have HC : Hid (frC true hv k = fun j => if j = 0 then (11 + (k : Int)) else if j = 1 then 1 else if j = 2 then 1 else 1) := by
              unfold Hid
              funext j
              simp [frC, show ¬ k = 0 by omega]
            go_wp2_with (at_builtin; refine wpList_append_own _ rfl _ _ 43 rfl W1.heap.size 62 ic _ 4 32 Try.underlying43 hic hz0 hz1 hz2 rfl (by omega) (.slice so k sc) k (rowsK k 4 (compCells (frC true hv))) rfl (own_grown (unhide HO) (grown_alloc (World.grownBy_alloc _ _ _) _)) ⟨wr.heap.size + 1, 0, none⟩ 1 1 [.int .i64 (11 + (k : Int)), .int .i64 1, .int .i64 1, .int .i64 1] rfl rfl (World.news_of_block (cs := #[.int .i64 (11 + (k : Int)), .int .i64 1, .int .i64 1, .int .i64 1]) (t := 62) (fr := (0, 0)) (unhide HNB _ _)) (by simp [Value.oneCell']) (by unfold maxLen; omega) (by omega) (by have := (unhide HG).size; simp; omega) ?_; intro v2 w2 hown2 hgrow2 _; have hrow2 := (hgrow2.block (s + 1 + 1 + 1) (by have := unhide HLE; simp; omega) (fun e => by have := ((unhide HO).lt _ e.symm).1; have := unhide HS1; omega)).trans (unhide HFB _ _); have c5 := frameCells5 hrow2; have f5 := frameFree hrow2; have HROW := hide hrow2; have HOWN := hide (own_as4 hown2 (n' := k + 1) (xs' := rowsK k 4 (compCells (frC true hv)) ++ [.int .i64 (11 + (k : Int)), .int .i64 1, .int .i64 1, .int .i64 1]) (by omega) rfl); obtain ⟨bo, bc, hv2⟩ := own_form (unhide HOWN); subst hv2; have HGR := hide hgrow2; clear hrow2 hown2 hgrow2)
            have HF' := hide (heap_setCell_same w2 (s + 1 + 1 + 1) 4 _ _ (.slice bo (k + 1) bc) (unhide HROW))
            have HO' : Hid ((w2.setCell ⟨s + 1 + 1 + 1, 4, none⟩ (.slice bo (k + 1) bc)).ownsRow W1.heap.size 62 4 (.slice bo (k + 1) bc) (k + 1) (rowsK (k + 1) 4 (compCells (frC true hv)))) := own_sameAt (own_as4 (unhide HOWN) rfl (rowsK_comp _ k _ _ _ _ (unhide HC)).symm) (fun g e => Below.heap_setCell _ _ _ _ (by have := ((unhide HOWN).lt g e).1; have := unhide HS1; show g ≠ s + 1 + 1 + 1; omega))
            have HG' : Hid (W1.grownBy (w2.setCell ⟨s + 1 + 1 + 1, 4, none⟩ (.slice bo (k + 1) bc)) (some (s + 1 + 1 + 1))) := grown_trans (grown_newR18 (grown_trans (unhide HG) (grown_any (grown_alloc (World.grownBy_alloc wr _ _) _))) (unhide HGR) (fun g e => ((unhide HO).lt g e).1)) (grown_set w2 _ 4 (.slice bo (k + 1) bc))
            clear HROW HOWN HGR c5 f5
            go_roundw
            case rel => exact ⟨k + 1, (.slice bo (k + 1) bc), by omega, by go_num, HF', HO', HG'⟩
            case measure => simp [intOf]; omega
    · obtain rfl : k = n := by omega
      have H0 := hide (grown_new (unhide G1) (grown_any (World.grownBy.refl W1 none)) (row := none) (fun g e => by cases e))
      obtain ⟨so, sc, rfl⟩ := own_form (unhide HO)
      have HGW := hide (grown_new (unhide G1) (unhide HG) (fun g e => by simp at e; have := unhide HSZ; omega))
      clear H0
      go_wp2_with (first | (refine load_row rfl 45 _ rfl (s + 1 + 1 + 1) rfl #[.int .i64 p, .int .i64 wd, .int .i64 ht, .int .i64 rs, .slice so k sc] 45 (unhide HF) _ Try.underlying45 rfl (by kernel_rfl) ?_) | (refine store_row rfl 45 _ _ rfl (s + 1 + 1) rfl #[.int .i64 p, .int .i64 wd, .int .i64 ht, .int .i64 rs, .slice so k sc] rfl #[.int .i64 0, .int .i64 0, .int .i64 0, .int .i64 0, .slice none 0 0] 45 (unhide HRB) rfl (by kernel_rfl) (by simp [Value.oneCell']) ?_; intro w9 hB9 g9))
      refine bodyPost_ret (v := .agg #[.int .i64 p, .int .i64 wd, .int .i64 ht, .int .i64 rs, .slice so k sc]) ?_ rfl ⟨so, sc, rfl, ?_, ?_⟩
      · rw [results_c1 rfl]
        exact run_loadVar_row w9 _ 45 45 _ (0, 0) _ hB9 Try.underlying45 rfl (by kernel_rfl)
      · exact own_base (own_sameAt (unhide HO) (fun g e => g9.block g ((unhide HO).lt g e).2 (by have := ((unhide HO).lt g e).1; have := unhide HS1; simp; omega))) (by have := unhide HS1; have := unhide HSZ; omega)
      · exact grown_new (unhide HGW) g9 (fun g e => by simp at e; have := unhide HSZ; omega)

end Go.Proofs.Ytgknninkfdgebaa
