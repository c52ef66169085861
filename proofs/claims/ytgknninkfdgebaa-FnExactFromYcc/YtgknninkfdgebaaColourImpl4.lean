/-
  Colours in the program: FromYcc (written by gen_colimpl4.py).
-/
import Derived.Test.YtgknninkfdgebaaColourImpl3
import Derived.Test.YtgknninkfdgebaaColourAny
namespace Go.Proofs.Ytgknninkfdgebaa
open Go.RowKit

theorem own_box17 {w : World} {b g : Nat} {t : TypeId} (x y z : Int) (hb : w.heap[g]? = some (.cells #[.int .i64 x, .int .i64 y, .int .i64 z] t (0, 0))) (hg : b ≤ g) : w.ownsRow b t 1 (.slice (some ⟨g, 0, none⟩) 3 3) 3 ([x, y, z].map (Value.int .i64)) :=
  ⟨rfl, .inr ⟨g, 3, _, rfl, hg, hb, Nat.le_refl _, by unfold maxLen; omega, rfl, rfl⟩⟩
theorem px_same {P : Int} {zs : List Int} (hP : P = 8 ∨ P = 12) (h : zs.length = 3) : pxB P zs = ((zs.getD 0 0 == clipI (zs.getD 0 0) (mostI P)) && ((zs.getD 1 0 == clipI (zs.getD 1 0) (mostI P)) && (zs.getD 2 0 == clipI (zs.getD 2 0) (mostI P)))) := by
  have hm : 0 ≤ mostI P := by unfold mostI; split <;> omega
  have key : ∀ x : Int, (x == clipI x (mostI P)) = decide (0 ≤ x ∧ x ≤ mostI P) := fun x => by
    rw [Bool.eq_iff_iff]
    simp only [beq_iff_eq, decide_eq_true_eq]
    constructor
    · intro e; have := clip_in x (mostI P) hm; rw [← e] at this; exact this
    · intro e; exact (clip_id e).symm
  rw [key, key, key]
  match zs, h with
  | [a, b, c], _ =>
    unfold pxB
    rcases hP with rfl | rfl <;> simp
theorem px_same12 {zs : List Int} (h : zs.length = 3) : pxB 12 zs = ((zs.getD 0 0 == clipI (zs.getD 0 0) 4095) && ((zs.getD 1 0 == clipI (zs.getD 1 0) 4095) && (zs.getD 2 0 == clipI (zs.getD 2 0) 4095))) := px_same (P := 12) (by simp) h
theorem px_same8 {zs : List Int} (h : zs.length = 3) : pxB 8 zs = ((zs.getD 0 0 == clipI (zs.getD 0 0) 255) && ((zs.getD 1 0 == clipI (zs.getD 1 0) 255) && (zs.getD 2 0 == clipI (zs.getD 2 0) 255))) := px_same (P := 8) (by simp) h
theorem own_none17 {w : World} {b : Nat} {t : TypeId} : w.ownsRow b t 1 (.slice none 0 0) 0 (([] : List Int).map (Value.int .i64)) := ⟨rfl, .inl ⟨rfl, rfl⟩⟩

theorem implDepthNo (P : Int) (h8 : ¬ P = 8) (h12 : ¬ P = 12) (w : World) :
    Calls Try.prog 52 #[.int .i64 P] w fun e w' => e = .returned (.tuple #[.agg #[.int .i64 0, .int .i64 0], .bool false]) ∧ w.grownBy w' none := by
  have e1 : (P != 8) = true := by simpa using h8
  have e2 : (P != 12) = true := by simpa using h12
  go_enter Try.func52, Try.ntmps52
  go_wp2_with (refine store_row rfl 57 _ _ rfl w.heap.size rfl #[.int .i64 0, .int .i64 0] rfl #[.int .i64 0, .int .i64 0] 57 (heap_alloc_new _ _) rfl (by kernel_rfl) (by simp [Value.oneCell']) ?_; intro w3 hB3 g3)
  refine bodyPost_ret (v := .tuple #[.agg #[.int .i64 0, .int .i64 0], .bool false]) ?_ rfl ⟨rfl, ?_⟩
  · exact results_c2 (p := 2) (q := 3) (ty := 57) rfl _ _ _ w.heap.size rfl _ (run_loadVar_row w3 _ 57 57 _ (0, 0) _ hB3 Try.underlying57 rfl (by kernel_rfl))
  · exact grown_new (World.grownBy_alloc _ _ _) g3 (fun g e => by simp at e; omega)

theorem implDepthC8 (w : World) :
    Calls Try.prog 52 #[.int .i64 8] w fun e w' => e = .returned (.tuple #[.agg #[.int .i64 128, .int .i64 255], .bool true]) ∧ w.grownBy w' none := by
  go_enter Try.func52, Try.ntmps52
  go_wp2_with fail
  refine (implDepth8 _).mono ?_
  rintro e w2 ⟨rfl, g2⟩
  have hB2 := hide (grown_at17 g2 (heap_alloc_new w _) (by simp))
  have G2 := hide (grown_trans (World.grownBy_alloc w _ _) g2)
  clear g2
  go_wp2_with (refine store_row rfl 57 _ _ rfl w.heap.size rfl #[.int .i64 128, .int .i64 255] rfl #[.int .i64 0, .int .i64 0] 57 (unhide hB2) rfl (by kernel_rfl) (by simp [Value.oneCell']) ?_; intro w3 hB3 g3)
  refine bodyPost_ret (v := .tuple #[.agg #[.int .i64 128, .int .i64 255], .bool true]) ?_ rfl ⟨rfl, ?_⟩
  · exact results_c2 (p := 2) (q := 3) (ty := 57) rfl _ _ _ w.heap.size rfl _ (run_loadVar_row w3 _ 57 57 _ (0, 0) _ hB3 Try.underlying57 rfl (by kernel_rfl))
  · exact grown_new (unhide G2) g3 (fun g e => by simp at e; omega)

set_option maxRecDepth 20000 in
set_option maxHeartbeats 1600000 in
theorem turnedFrom8 (ao : Option Addr) (n cap : Nat) (zs : List Int) (w : World) (hr : Rd .i64 w ao n zs) (L : List Int) (HL : Hid (fromYG 8 zs = L)) :
    Calls Try.prog 30 #[.int .i64 8, .slice ao n cap, .func (.func 31) #[] #[]] w fun e w' => ∃ so sc, e = .returned (.slice so L.length sc) ∧ w'.ownsRow w.heap.size 83 1 (.slice so L.length sc) L.length (L.map (Value.int .i64)) ∧ w.grownBy w' none := by
  have HZ := hide hr.1
  have HR := hide hr
  clear hr
  go_enter Try.func30, Try.ntmps30
  go_wp2_with fail
  refine (implDepthC8 w).mono ?_
  rintro e w1 ⟨rfl, g1⟩
  have D1 := heap_alloc_new w1 (.cells #[.int .i64 0, .int .i64 0] 57)
  have G1 := hide (grown_trans g1 (World.grownBy_alloc w1 (.cells #[.int .i64 0, .int .i64 0] 57) _))
  have HS1 := hide g1.size
  clear g1
  have D1H := hide D1
  clear D1
  go_wp2_with (first | (refine store_row rfl 57 _ _ rfl w1.heap.size rfl #[.int .i64 128, .int .i64 255] rfl #[.int .i64 0, .int .i64 0] 57 (unhide D1H) rfl (by kernel_rfl) (by simp [Value.oneCell']) ?_; intro w2 hB2 g2; have HB2 := hide hB2; have HG2 := hide g2; clear hB2 g2) | (refine load_row rfl 57 _ rfl w1.heap.size rfl #[.int .i64 128, .int .i64 255] 57 (unhide HB2) _ Try.underlying57 rfl (by kernel_rfl) ?_))
  clear D1H
  obtain ⟨w3, hW3⟩ : ∃ w3, w2 = w3 := ⟨_, rfl⟩
  have G2 : Hid (w.grownBy w2 none) := grown_new (unhide G1) (unhide HG2) (fun g e => by simp at e; have := unhide HS1; omega)
  have HL1 : Hid (w1.heap.size < w2.heap.size) := (Array.getElem?_eq_some_iff.1 (unhide HB2)).1
  clear hW3 HG2 G1
  generalize hs : w1.heap.size = s at *
  clear hs
  have HZL := unhide HZ
  by_cases h3 : ¬ n = 3
  · have hp : pxB 8 zs = false := by unfold pxB; rw [HZL, decide_eq_false h3]; simp
    obtain rfl : L = [] := by rw [← unhide HL, fromYG, hp]; rfl
    refine (implFixNo 128 255 ao n cap w2 h3).mono ?_
    rintro e w4 ⟨rfl, g4⟩
    clear hp h3 HZL
    have B4 := hide (heap_alloc_new w4 (.cells #[.int .i64 0, .int .i64 0, .int .i64 0] 83))
    have G4 := hide (grown_trans (unhide G2) (grown_trans g4 (World.grownBy_alloc w4 (.cells #[.int .i64 0, .int .i64 0, .int .i64 0] 83) _)))
    have HS4 : Hid (w.heap.size ≤ w4.heap.size) := (grown_trans (unhide G2) g4).size
    clear g4 G2
    go_wp2_with (refine store_row rfl 83 _ _ rfl w4.heap.size rfl #[.int .i64 0, .int .i64 0, .int .i64 0] rfl #[.int .i64 0, .int .i64 0, .int .i64 0] 83 (unhide B4) rfl (by kernel_rfl) (by simp [Value.oneCell']) ?_; intro w5 hB5 g5)
    go_ret
    exact ⟨_, _, rfl, own_none17, grown_new (unhide G4) g5 (fun g e => by simp at e; have := unhide HS4; omega)⟩
  have h3 : n = 3 := by omega
  subst h3
  obtain ⟨bb, off, rfl, c0⟩ := (unhide HR).2 0 (by omega)
  obtain ⟨b1, o1, e1, c1⟩ := (unhide HR).2 1 (by omega)
  obtain ⟨b2, o2, e2, c2⟩ := (unhide HR).2 2 (by omega)
  simp only [Option.some.injEq, Addr.mk.injEq, and_true] at e1 e2
  obtain ⟨rfl, rfl⟩ := e1
  obtain ⟨rfl, rfl⟩ := e2
  simp only [Nat.add_zero] at c0
  have hpx : (pxB 8 zs) = ((zs.getD 0 0 == clipI (zs.getD 0 0) 255) && ((zs.getD 1 0 == clipI (zs.getD 1 0) 255) && (zs.getD 2 0 == clipI (zs.getD 2 0) 255))) := px_same8 HZL
  have HLL : Hid ((if pxB 8 zs then fromL 255 128 (zs.getD 0 0) (zs.getD 1 0) (zs.getD 2 0) else []) = L) := by rw [← unhide HL, fromYG]; rfl
  have C0 := hide ((unhide G2).cell c0 (by simp))
  have C1 := hide ((unhide G2).cell c1 (by simp))
  have C2 := hide ((unhide G2).cell c2 (by simp))
  clear HR HL c0 c1 c2 HZL HZ
  rw [hpx] at HLL
  clear hpx
  generalize zs.getD 0 0 = a at *
  generalize zs.getD 1 0 = b at *
  generalize zs.getD 2 0 = c at *
  obtain ⟨a', HA⟩ : ∃ k, Hid (clipI a 255 = k) := ⟨_, rfl⟩
  obtain ⟨b', HB⟩ : ∃ k, Hid (clipI b 255 = k) := ⟨_, rfl⟩
  obtain ⟨c', HC⟩ : ∃ k, Hid (clipI c 255 = k) := ⟨_, rfl⟩
  rw [unhide HA, unhide HB, unhide HC] at HLL
  obtain ⟨ok, HOK⟩ : ∃ k, Hid ((a == a' && (b == b' && c == c')) = k) := ⟨_, rfl⟩
  rw [unhide HOK] at HLL
  have HFX := hide (implFixYes 128 255 bb off cap a b c a' b' c' w2 C0 C1 C2 HA HB HC)
  rw [unhide HOK] at HFX
  refine (unhide HFX).mono ?_
  rintro e w4 ⟨rfl, g4⟩
  clear HFX C0 C1 C2
  have B4 := hide (heap_alloc_new w4 (.cells #[.int .i64 0, .int .i64 0, .int .i64 0] 83))
  have HD4 := hide (grown_at17 (grown_trans g4 (World.grownBy_alloc w4 (.cells #[.int .i64 0, .int .i64 0, .int .i64 0] 83) _)) (unhide HB2) (by simp))
  have G4 := hide (grown_trans (unhide G2) (grown_trans g4 (World.grownBy_alloc w4 (.cells #[.int .i64 0, .int .i64 0, .int .i64 0] 83) _)))
  have HS4 : Hid (w.heap.size ≤ w4.heap.size ∧ s < w4.heap.size) := ⟨(grown_trans (unhide G2) g4).size, by have := g4.size; have := unhide HL1; omega⟩
  clear g4 G2 HB2 HL1
  cases ok with
  | false =>
    obtain rfl : L = [] := (unhide HLL).symm
    go_wp2_with (refine store_row rfl 83 _ _ rfl w4.heap.size rfl #[.int .i64 a, .int .i64 b, .int .i64 c] rfl #[.int .i64 0, .int .i64 0, .int .i64 0] 83 (unhide B4) rfl (by kernel_rfl) (by simp [Value.oneCell']) ?_; intro w5 hB5 g5)
    go_ret
    exact ⟨_, _, rfl, own_none17, grown_new (unhide G4) g5 (fun g e => by simp at e; have := unhide HS4; omega)⟩
  | true =>
    obtain ⟨r', g', b9, HLV⟩ : ∃ r' g' b9, Hid (fromL 255 128 a b c = [r', g', b9]) := ⟨_, _, _, rfl⟩
    obtain rfl : L = [r', g', b9] := by rw [← unhide HLV]; exact (unhide HLL).symm
    have hk := unhide HOK
    simp only [Bool.and_eq_true, beq_iff_eq] at hk
    have ha : 0 ≤ a ∧ a ≤ 4095 := by have := clip_in a 255 (by omega); rw [unhide HA] at this; omega
    have hb : 0 ≤ b ∧ b ≤ 4095 := by have := clip_in b 255 (by omega); rw [unhide HB] at this; omega
    have hc : 0 ≤ c ∧ c ≤ 4095 := by have := clip_in c 255 (by omega); rw [unhide HC] at this; omega
    clear hk HOK HA HB HC HLL
    go_wp2_with (first | (refine store_row rfl 83 _ _ rfl w4.heap.size rfl #[.int .i64 a, .int .i64 b, .int .i64 c] rfl #[.int .i64 0, .int .i64 0, .int .i64 0] 83 (unhide B4) rfl (by kernel_rfl) (by simp [Value.oneCell']) ?_; intro w5 hB5 g5; have HB5 := hide hB5; have HD5 := hide (grown_at17 g5 (unhide HD4) (by have := unhide HS4; simp; omega)); have G5 := hide (grown_new (unhide G4) g5 (fun g e => by simp at e; have := unhide HS4; omega)); clear hB5 g5 B4 HD4) | (refine load_row rfl 57 _ rfl s rfl #[.int .i64 128, .int .i64 255] 57 (unhide HD5) _ Try.underlying57 rfl (by kernel_rfl) ?_) | (refine load_row rfl 83 _ rfl w4.heap.size rfl #[.int .i64 a, .int .i64 b, .int .i64 c] 83 (unhide HB5) _ Try.underlying83 rfl (by kernel_rfl) ?_))
    refine (implFrom17 128 255 a b c (by omega) (by omega) ha hb hc w5 r' g' b9 HLV).mono ?_
    rintro e w6 ⟨rfl, g6⟩
    have B6 := hide (heap_alloc_new w6 (.cells #[.int .i64 0, .int .i64 0, .int .i64 0] 83))
    have HS6 : Hid (w.heap.size ≤ w6.heap.size) := (grown_trans (unhide G5) g6).size
    have G6 := hide (grown_trans (unhide G5) (grown_trans g6 (World.grownBy_alloc w6 (.cells #[.int .i64 0, .int .i64 0, .int .i64 0] 83) _)))
    clear g6 G5 HB5 HD5
    go_wp2_with (refine store_row rfl 83 _ _ rfl w6.heap.size rfl #[.int .i64 r', .int .i64 g', .int .i64 b9] rfl #[.int .i64 0, .int .i64 0, .int .i64 0] 83 (unhide B6) rfl (by kernel_rfl) (by simp [Value.oneCell']) ?_; intro w7 hB7 g7)
    go_ret
    exact ⟨_, _, rfl, own_box17 r' g' b9 hB7 (unhide HS6), grown_new (unhide G6) g7 (fun g e => by simp at e; have := unhide HS6; omega)⟩

theorem implDepthC12 (w : World) :
    Calls Try.prog 52 #[.int .i64 12] w fun e w' => e = .returned (.tuple #[.agg #[.int .i64 2048, .int .i64 4095], .bool true]) ∧ w.grownBy w' none := by
  go_enter Try.func52, Try.ntmps52
  go_wp2_with fail
  refine (implDepth12 _).mono ?_
  rintro e w2 ⟨rfl, g2⟩
  have hB2 := hide (grown_at17 g2 (heap_alloc_new w _) (by simp))
  have G2 := hide (grown_trans (World.grownBy_alloc w _ _) g2)
  clear g2
  go_wp2_with (refine store_row rfl 57 _ _ rfl w.heap.size rfl #[.int .i64 2048, .int .i64 4095] rfl #[.int .i64 0, .int .i64 0] 57 (unhide hB2) rfl (by kernel_rfl) (by simp [Value.oneCell']) ?_; intro w3 hB3 g3)
  refine bodyPost_ret (v := .tuple #[.agg #[.int .i64 2048, .int .i64 4095], .bool true]) ?_ rfl ⟨rfl, ?_⟩
  · exact results_c2 (p := 2) (q := 3) (ty := 57) rfl _ _ _ w.heap.size rfl _ (run_loadVar_row w3 _ 57 57 _ (0, 0) _ hB3 Try.underlying57 rfl (by kernel_rfl))
  · exact grown_new (unhide G2) g3 (fun g e => by simp at e; omega)

set_option maxRecDepth 20000 in
set_option maxHeartbeats 1600000 in
theorem turnedFrom12 (ao : Option Addr) (n cap : Nat) (zs : List Int) (w : World) (hr : Rd .i64 w ao n zs) (L : List Int) (HL : Hid (fromYG 12 zs = L)) :
    Calls Try.prog 30 #[.int .i64 12, .slice ao n cap, .func (.func 31) #[] #[]] w fun e w' => ∃ so sc, e = .returned (.slice so L.length sc) ∧ w'.ownsRow w.heap.size 83 1 (.slice so L.length sc) L.length (L.map (Value.int .i64)) ∧ w.grownBy w' none := by
  have HZ := hide hr.1
  have HR := hide hr
  clear hr
  go_enter Try.func30, Try.ntmps30
  go_wp2_with fail
  refine (implDepthC12 w).mono ?_
  rintro e w1 ⟨rfl, g1⟩
  have D1 := heap_alloc_new w1 (.cells #[.int .i64 0, .int .i64 0] 57)
  have G1 := hide (grown_trans g1 (World.grownBy_alloc w1 (.cells #[.int .i64 0, .int .i64 0] 57) _))
  have HS1 := hide g1.size
  clear g1
  have D1H := hide D1
  clear D1
  go_wp2_with (first | (refine store_row rfl 57 _ _ rfl w1.heap.size rfl #[.int .i64 2048, .int .i64 4095] rfl #[.int .i64 0, .int .i64 0] 57 (unhide D1H) rfl (by kernel_rfl) (by simp [Value.oneCell']) ?_; intro w2 hB2 g2; have HB2 := hide hB2; have HG2 := hide g2; clear hB2 g2) | (refine load_row rfl 57 _ rfl w1.heap.size rfl #[.int .i64 2048, .int .i64 4095] 57 (unhide HB2) _ Try.underlying57 rfl (by kernel_rfl) ?_))
  clear D1H
  obtain ⟨w3, hW3⟩ : ∃ w3, w2 = w3 := ⟨_, rfl⟩
  have G2 : Hid (w.grownBy w2 none) := grown_new (unhide G1) (unhide HG2) (fun g e => by simp at e; have := unhide HS1; omega)
  have HL1 : Hid (w1.heap.size < w2.heap.size) := (Array.getElem?_eq_some_iff.1 (unhide HB2)).1
  clear hW3 HG2 G1
  generalize hs : w1.heap.size = s at *
  clear hs
  have HZL := unhide HZ
  by_cases h3 : ¬ n = 3
  · have hp : pxB 12 zs = false := by unfold pxB; rw [HZL, decide_eq_false h3]; simp
    obtain rfl : L = [] := by rw [← unhide HL, fromYG, hp]; rfl
    refine (implFixNo 2048 4095 ao n cap w2 h3).mono ?_
    rintro e w4 ⟨rfl, g4⟩
    clear hp h3 HZL
    have B4 := hide (heap_alloc_new w4 (.cells #[.int .i64 0, .int .i64 0, .int .i64 0] 83))
    have G4 := hide (grown_trans (unhide G2) (grown_trans g4 (World.grownBy_alloc w4 (.cells #[.int .i64 0, .int .i64 0, .int .i64 0] 83) _)))
    have HS4 : Hid (w.heap.size ≤ w4.heap.size) := (grown_trans (unhide G2) g4).size
    clear g4 G2
    go_wp2_with (refine store_row rfl 83 _ _ rfl w4.heap.size rfl #[.int .i64 0, .int .i64 0, .int .i64 0] rfl #[.int .i64 0, .int .i64 0, .int .i64 0] 83 (unhide B4) rfl (by kernel_rfl) (by simp [Value.oneCell']) ?_; intro w5 hB5 g5)
    go_ret
    exact ⟨_, _, rfl, own_none17, grown_new (unhide G4) g5 (fun g e => by simp at e; have := unhide HS4; omega)⟩
  have h3 : n = 3 := by omega
  subst h3
  obtain ⟨bb, off, rfl, c0⟩ := (unhide HR).2 0 (by omega)
  obtain ⟨b1, o1, e1, c1⟩ := (unhide HR).2 1 (by omega)
  obtain ⟨b2, o2, e2, c2⟩ := (unhide HR).2 2 (by omega)
  simp only [Option.some.injEq, Addr.mk.injEq, and_true] at e1 e2
  obtain ⟨rfl, rfl⟩ := e1
  obtain ⟨rfl, rfl⟩ := e2
  simp only [Nat.add_zero] at c0
  have hpx : (pxB 12 zs) = ((zs.getD 0 0 == clipI (zs.getD 0 0) 4095) && ((zs.getD 1 0 == clipI (zs.getD 1 0) 4095) && (zs.getD 2 0 == clipI (zs.getD 2 0) 4095))) := px_same12 HZL
  have HLL : Hid ((if pxB 12 zs then fromL 4095 2048 (zs.getD 0 0) (zs.getD 1 0) (zs.getD 2 0) else []) = L) := by rw [← unhide HL, fromYG]; rfl
  have C0 := hide ((unhide G2).cell c0 (by simp))
  have C1 := hide ((unhide G2).cell c1 (by simp))
  have C2 := hide ((unhide G2).cell c2 (by simp))
  clear HR HL c0 c1 c2 HZL HZ
  rw [hpx] at HLL
  clear hpx
  generalize zs.getD 0 0 = a at *
  generalize zs.getD 1 0 = b at *
  generalize zs.getD 2 0 = c at *
  obtain ⟨a', HA⟩ : ∃ k, Hid (clipI a 4095 = k) := ⟨_, rfl⟩
  obtain ⟨b', HB⟩ : ∃ k, Hid (clipI b 4095 = k) := ⟨_, rfl⟩
  obtain ⟨c', HC⟩ : ∃ k, Hid (clipI c 4095 = k) := ⟨_, rfl⟩
  rw [unhide HA, unhide HB, unhide HC] at HLL
  obtain ⟨ok, HOK⟩ : ∃ k, Hid ((a == a' && (b == b' && c == c')) = k) := ⟨_, rfl⟩
  rw [unhide HOK] at HLL
  have HFX := hide (implFixYes 2048 4095 bb off cap a b c a' b' c' w2 C0 C1 C2 HA HB HC)
  rw [unhide HOK] at HFX
  refine (unhide HFX).mono ?_
  rintro e w4 ⟨rfl, g4⟩
  clear HFX C0 C1 C2
  have B4 := hide (heap_alloc_new w4 (.cells #[.int .i64 0, .int .i64 0, .int .i64 0] 83))
  have HD4 := hide (grown_at17 (grown_trans g4 (World.grownBy_alloc w4 (.cells #[.int .i64 0, .int .i64 0, .int .i64 0] 83) _)) (unhide HB2) (by simp))
  have G4 := hide (grown_trans (unhide G2) (grown_trans g4 (World.grownBy_alloc w4 (.cells #[.int .i64 0, .int .i64 0, .int .i64 0] 83) _)))
  have HS4 : Hid (w.heap.size ≤ w4.heap.size ∧ s < w4.heap.size) := ⟨(grown_trans (unhide G2) g4).size, by have := g4.size; have := unhide HL1; omega⟩
  clear g4 G2 HB2 HL1
  cases ok with
  | false =>
    obtain rfl : L = [] := (unhide HLL).symm
    go_wp2_with (refine store_row rfl 83 _ _ rfl w4.heap.size rfl #[.int .i64 a, .int .i64 b, .int .i64 c] rfl #[.int .i64 0, .int .i64 0, .int .i64 0] 83 (unhide B4) rfl (by kernel_rfl) (by simp [Value.oneCell']) ?_; intro w5 hB5 g5)
    go_ret
    exact ⟨_, _, rfl, own_none17, grown_new (unhide G4) g5 (fun g e => by simp at e; have := unhide HS4; omega)⟩
  | true =>
    obtain ⟨r', g', b9, HLV⟩ : ∃ r' g' b9, Hid (fromL 4095 2048 a b c = [r', g', b9]) := ⟨_, _, _, rfl⟩
    obtain rfl : L = [r', g', b9] := by rw [← unhide HLV]; exact (unhide HLL).symm
    have hk := unhide HOK
    simp only [Bool.and_eq_true, beq_iff_eq] at hk
    have ha : 0 ≤ a ∧ a ≤ 4095 := by have := clip_in a 4095 (by omega); rw [unhide HA] at this; omega
    have hb : 0 ≤ b ∧ b ≤ 4095 := by have := clip_in b 4095 (by omega); rw [unhide HB] at this; omega
    have hc : 0 ≤ c ∧ c ≤ 4095 := by have := clip_in c 4095 (by omega); rw [unhide HC] at this; omega
    clear hk HOK HA HB HC HLL
    go_wp2_with (first | (refine store_row rfl 83 _ _ rfl w4.heap.size rfl #[.int .i64 a, .int .i64 b, .int .i64 c] rfl #[.int .i64 0, .int .i64 0, .int .i64 0] 83 (unhide B4) rfl (by kernel_rfl) (by simp [Value.oneCell']) ?_; intro w5 hB5 g5; have HB5 := hide hB5; have HD5 := hide (grown_at17 g5 (unhide HD4) (by have := unhide HS4; simp; omega)); have G5 := hide (grown_new (unhide G4) g5 (fun g e => by simp at e; have := unhide HS4; omega)); clear hB5 g5 B4 HD4) | (refine load_row rfl 57 _ rfl s rfl #[.int .i64 2048, .int .i64 4095] 57 (unhide HD5) _ Try.underlying57 rfl (by kernel_rfl) ?_) | (refine load_row rfl 83 _ rfl w4.heap.size rfl #[.int .i64 a, .int .i64 b, .int .i64 c] 83 (unhide HB5) _ Try.underlying83 rfl (by kernel_rfl) ?_))
    refine (implFrom17 2048 4095 a b c (by omega) (by omega) ha hb hc w5 r' g' b9 HLV).mono ?_
    rintro e w6 ⟨rfl, g6⟩
    have B6 := hide (heap_alloc_new w6 (.cells #[.int .i64 0, .int .i64 0, .int .i64 0] 83))
    have HS6 : Hid (w.heap.size ≤ w6.heap.size) := (grown_trans (unhide G5) g6).size
    have G6 := hide (grown_trans (unhide G5) (grown_trans g6 (World.grownBy_alloc w6 (.cells #[.int .i64 0, .int .i64 0, .int .i64 0] 83) _)))
    clear g6 G5 HB5 HD5
    go_wp2_with (refine store_row rfl 83 _ _ rfl w6.heap.size rfl #[.int .i64 r', .int .i64 g', .int .i64 b9] rfl #[.int .i64 0, .int .i64 0, .int .i64 0] 83 (unhide B6) rfl (by kernel_rfl) (by simp [Value.oneCell']) ?_; intro w7 hB7 g7)
    go_ret
    exact ⟨_, _, rfl, own_box17 r' g' b9 hB7 (unhide HS6), grown_new (unhide G6) g7 (fun g e => by simp at e; have := unhide HS6; omega)⟩

set_option maxHeartbeats 800000 in
theorem implFromYcc (P : Int) (ao : Option Addr) (n cap : Nat) (zs : List Int) (w : World) (hr : Rd .i64 w ao n zs) (L : List Int) (HL : Hid (fromYG P zs = L)) :
    Calls Try.prog 9 #[.int .i64 P, .slice ao n cap] w fun e w' => ∃ so sc, e = .returned (.slice so L.length sc) ∧ w'.ownsRow w.heap.size 83 1 (.slice so L.length sc) L.length (L.map (Value.int .i64)) ∧ w.grownBy w' none := by
  by_cases h8 : P = 8
  · subst h8
    have HT := hide (turnedFrom8 ao n cap zs w hr L HL)
    clear hr HL
    go_enter Try.func9, Try.ntmps9
    go_wp2_with fail
    refine (unhide HT).mono ?_
    rintro e w1 ⟨so, sc, rfl, h1, h2⟩
    have H1 := hide h1
    have H2 := hide h2
    clear h1 h2 HT
    go_wp2
    go_ret
    exact ⟨_, _, rfl, unhide H1, unhide H2⟩
  by_cases h12 : P = 12
  · subst h12
    have HT := hide (turnedFrom12 ao n cap zs w hr L HL)
    clear hr HL h8
    go_enter Try.func9, Try.ntmps9
    go_wp2_with fail
    refine (unhide HT).mono ?_
    rintro e w1 ⟨so, sc, rfl, h1, h2⟩
    have H1 := hide h1
    have H2 := hide h2
    clear h1 h2 HT
    go_wp2
    go_ret
    exact ⟨_, _, rfl, unhide H1, unhide H2⟩
  obtain rfl : L = [] := by rw [← unhide HL, fromYG, px_else h8 h12]; rfl
  have HT : Hid (Calls Try.prog 30 #[.int .i64 P, .slice ao n cap, .func (.func 31) #[] #[]] w fun e w' => e = .returned (.slice none 0 0) ∧ w.grownBy w' none) := by
    unfold Hid
    have HD := hide (implDepthNo P h8 h12 w)
    clear h8 h12 hr HL
    go_enter Try.func30, Try.ntmps30
    go_wp2_with fail
    refine (unhide HD).mono ?_
    rintro e w1 ⟨rfl, g1⟩
    have B1 := hide (heap_alloc_new w1 (.cells #[.int .i64 0, .int .i64 0] 57))
    have G1 := hide (grown_trans g1 (World.grownBy_alloc w1 (.cells #[.int .i64 0, .int .i64 0] 57) _))
    have HS1 := hide g1.size
    clear g1 HD
    go_wp2_with (refine store_row rfl 57 _ _ rfl w1.heap.size rfl #[.int .i64 0, .int .i64 0] rfl #[.int .i64 0, .int .i64 0] 57 (unhide B1) rfl (by kernel_rfl) (by simp [Value.oneCell']) ?_; intro w2 hB2 g2)
    go_ret
    exact ⟨rfl, grown_new (unhide G1) g2 (fun g e => by simp at e; have := unhide HS1; omega)⟩
  clear h8 h12 hr HL
  go_enter Try.func9, Try.ntmps9
  go_wp2_with fail
  refine (unhide HT).mono ?_
  rintro e w1 ⟨rfl, h2⟩
  have H2 := hide h2
  clear h2 HT
  go_wp2
  go_ret
  exact ⟨_, _, rfl, own_none17, unhide H2⟩

end Go.Proofs.Ytgknninkfdgebaa
