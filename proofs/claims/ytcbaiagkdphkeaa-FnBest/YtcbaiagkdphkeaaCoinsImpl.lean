/-
  The coins, in the program.
-/
import Derived.Test.YtcbaiagkdphkeaaBestHeap
namespace Go.Proofs.Ytcbaiagkdphkeaa
open Go.RowKit

theorem heap_new (w : World) : Hx ⟨w, fun _ => none⟩ w.heap.size (w.alloc (.cells #[.slice none 0 0, .int .i64 0] 78)) (.slice none 0 0) [] 0 :=
  ⟨⟨rfl, .inl ⟨rfl, rfl⟩⟩, heap_alloc_new w _, fun h => by simp [Value.ownBlock] at h, ⟨fun _ h => by simp at h, fun _ h => by simp at h, fun _ h => by simp at h⟩, World.grownBy_alloc _ _ _, Nat.le_refl _, fun k o e => by simp at e⟩

/-- No symbols lie below. -/
def Low (s : Nat) (L : List Hp) : Prop := ∀ x ∈ L, ∀ b off, x.co = some ⟨b, off, none⟩ → s ≤ b
theorem Low.num {s : Nat} {K R : List Hp} {c : Int} (h : Low s K) (hp : ∀ x ∈ R, x ∈ numH c K) : Low s R := fun x hx b off e => by
  obtain ⟨_, _, y, hy, _, h4, _⟩ := numH_mem _ _ _ (hp x hx)
  exact h y hy b off (by rw [← h4]; exact e)

set_option maxRecDepth 20000 in
set_option maxHeartbeats 3200000 in
theorem implCoins (ao : Option Addr) (n cap : Nat) (fs : List Int) (w : World) (hr : Rd .i64 w ao n fs) (hn : n ≤ 256) (h0 : ∀ s, 0 ≤ fs.getD s 0) :
    Calls Try.prog 42 #[.slice ao n cap] w fun e w' => ∃ u C, e = .returned u ∧ Lst w' u C ∧ w.grownBy w' none ∧ C.map cont = (orderG fs).map (coinP fs) ∧ Low w.heap.size C := by
  have hl := hr.1
  have HR := hide hr
  have HL := hide hl
  have H0 := hide h0
  obtain ⟨hb, hhb⟩ : ∃ hb, hb = w.heap.size := ⟨_, rfl⟩
  obtain ⟨w1, hw1⟩ : ∃ w1, w.alloc (.cells #[.slice none 0 0, .int .i64 0] 78) = w1 := ⟨_, rfl⟩
  have hx0 := heap_new w
  rw [hw1, ← hhb] at hx0
  have HX0 := hide hx0
  have HW1 := hide hw1
  have HHB := hide hhb
  clear hr hl h0 hx0 hw1 hhb
  go_enter Try.func42, Try.ntmps42
  go_wp2_with fail
  rw [unhide HW1, ← unhide HHB]
  go_loopw [10] (fun iv wr => ∃ (k : Nat) (u : Value) (M K : List Hp), k ≤ n ∧ iv = .int .i64 k ∧ Hid (Hx ⟨w, fun _ => none⟩ hb wr u M (K.length : Int)) ∧ Hid (HeapN M M.length) ∧ Hid (M.Perm (numH 0 K)) ∧ Hid (K.map cont = (coinsTo fs k).map (coinP fs)) ∧ Hid (Low w.heap.size K)) (fun iv _ => n - (intOf iv).toNat)
  case atStart => exact ⟨0, _, [], [], Nat.zero_le _, rfl, HX0, fun k h1 h2 => absurd h2 (by simp), List.Perm.refl _, rfl, fun x hx => by simp at hx⟩
  case round =>
    clear HX0 HW1
    obtain ⟨k, u, M, K, hk, rfl, hx, hhn, hpe, hK, hlow⟩ := hrel
    have HKL : Hid (K.length ≤ k) := by
      have h1 := congrArg List.length (unhide hK)
      rw [List.length_map, List.length_map] at h1
      have := coinsTo_len fs k
      unfold Hid; omega
    have HML : Hid (M.length = K.length) := by unfold Hid; rw [(unhide hpe).length_eq, numH_len]
    by_cases hlt : k < n
    · obtain ⟨fb, fo, rfl, hcf⟩ := ((unhide HR).grown (unhide hx).grown).2 k hlt
      have f0 := unhide H0 k
      have hct : ∀ c2 : 0 < fs.getD k 0, (coinsTo fs (k + 1)).map (coinP fs) = (coinsTo fs k).map (coinP fs) ++ [(fs.getD k 0, [(k : Int)])] := fun c2 => by
        rw [coinsTo, if_pos c2, List.map_append]; rfl
      have hcn : ¬ 0 < fs.getD k 0 → coinsTo fs (k + 1) = coinsTo fs k := fun c2 => by rw [coinsTo, if_neg c2]
      have hkI : (k : Int) < (n : Int) := by omega
      generalize fs.getD k 0 = f at *
      by_cases hf : 0 < f
      · have hd : decide ((0 : Int) < f) = true := decide_eq_true hf
        have hc1 := hct hf
        obtain ⟨w2, hw2⟩ : ∃ w2, (wr.alloc (.cells #[.int .i64 (k : Int)] 3)).alloc (.cells #[.int .i64 f, .slice (some ⟨wr.heap.size, 0, none⟩) 1 1, .int .i64 0] 54) = w2 := ⟨_, rfl⟩
        have g2 : wr.grownBy w2 none := by rw [← hw2]; exact grown_alloc (World.grownBy_alloc _ _ _) _
        have b1 : w2.heap[wr.heap.size]? = some (.cells #[.int .i64 (k : Int)] 3 (0, 0)) := by
          rw [← hw2]; exact (Below.heap_alloc _ _ _ (by simp)).trans (heap_alloc_new wr _)
        have b2 : w2.heap[wr.heap.size + 1]? = some (.cells #[.int .i64 f, .slice (some ⟨wr.heap.size, 0, none⟩) 1 1, .int .i64 0] 54 (0, 0)) := by
          rw [← hw2]
          have h : wr.heap.size + 1 = (wr.alloc (.cells #[.int .i64 (k : Int)] 3)).heap.size := by simp
          rw [h]
          exact heap_alloc_new (wr.alloc (.cells #[.int .i64 (k : Int)] 3)) _
        have hx2 := (unhide hx).more g2
        have hlt1 := (unhide hx).lt
        have hvlt : ∀ q, u.ownBlock = some q → q < wr.heap.size := fun q e => ((unhide hx).own.lt q e).2
        have hsrc : Src w2 u hb (some ⟨wr.heap.size + 1, 0, none⟩) 1 [⟨f, some ⟨wr.heap.size, 0, none⟩, 1, [(k : Int)], 0⟩] := by
          refine ⟨⟨rfl, fun i hi => ?_⟩, ⟨fun x hx => ?_, fun x hx b off e => ?_, fun x hx => ?_⟩, fun _ b off e => ?_⟩
          · obtain rfl : i = 0 := by omega
            refine ⟨_, _, rfl, ?_, ?_, ?_⟩
            · rw [show 0 + 0 * 3 = 0 by rfl, cell_of_row w2 _ 0 _ _ (0, 0) b2]; rfl
            · rw [show 0 + 0 * 3 + 1 = 1 by rfl, cell_of_row w2 _ 1 _ _ (0, 0) b2]; rfl
            · rw [show 0 + 0 * 3 + 2 = 2 by rfl, cell_of_row w2 _ 2 _ _ (0, 0) b2]; rfl
          · rw [List.mem_singleton] at hx
            subst hx
            refine ⟨rfl, fun i hi => ?_⟩
            obtain rfl : i = 0 := by simpa using hi
            exact ⟨_, _, rfl, by rw [show 0 + 0 = 0 by rfl, cell_of_row w2 _ 0 _ _ (0, 0) b1]; rfl⟩
          · rw [List.mem_singleton] at hx
            subst hx
            simp only [Option.some.injEq, Addr.mk.injEq, and_true] at e
            exact ⟨fun e2 => by have := hvlt b e2; omega, by omega⟩
          · rw [List.mem_singleton] at hx
            subst hx
            simp
          · simp only [Option.some.injEq, Addr.mk.injEq, and_true] at e
            exact ⟨fun e2 => by have := hvlt b e2; omega, by omega⟩
        have HADD := hide (implAdd (cap := 1) hx2 (unhide hhn) hsrc (by have := unhide HKL; have := unhide HML; omega) ⟨by omega, by have := unhide HKL; omega⟩)
        have HNX : Hid (∀ L' : List Hp, L'.Perm (M ++ numH (K.length : Int) [⟨f, some ⟨wr.heap.size, 0, none⟩, 1, [(k : Int)], 0⟩]) → L'.Perm (numH 0 (K ++ [⟨f, some ⟨wr.heap.size, 0, none⟩, 1, [(k : Int)], 0⟩]))) := fun L' h => by
          rw [numH_app, Int.zero_add]
          exact h.trans ((unhide hpe).append_right _)
        have HKN : Hid ((K ++ [(⟨f, some ⟨wr.heap.size, 0, none⟩, 1, [(k : Int)], 0⟩ : Hp)]).map cont = (coinsTo fs (k + 1)).map (coinP fs)) := by
          unfold Hid
          rw [hc1, List.map_append, unhide hK]
          rfl
        have HKL2 : Hid (((K ++ [(⟨f, some ⟨wr.heap.size, 0, none⟩, 1, [(k : Int)], 0⟩ : Hp)]).length : Int) = (K.length : Int) + ((1 : Nat) : Int)) := by unfold Hid; simp
        have hs1 := (unhide hx).grown.size
        have HLW : Hid (Low w.heap.size (K ++ [(⟨f, some ⟨wr.heap.size, 0, none⟩, 1, [(k : Int)], 0⟩ : Hp)])) := fun x hx b off e => by
          rcases List.mem_append.1 hx with hx | hx
          · exact unhide hlow x hx b off e
          · rw [List.mem_singleton] at hx
            subst hx
            simp only [Option.some.injEq, Addr.mk.injEq, and_true] at e
            have e2 := hs1
            dsimp only at e2
            omega
        have HW2 := hide hw2
        clear hs1 hw2 g2 b1 b2 hx2 hvlt hsrc hct hcn hc1 hx hhn hpe hK
        go_wp2_with fail
        rw [unhide HW2]
        refine (unhide HADD).mono ?_
        rintro e w3 ⟨rfl, u3, M3, hx3, hn3, hp3⟩
        rw [← unhide HKL2] at hx3
        have HX3 := hide hx3
        have HN3 := hide hn3
        have HP3 := hide (unhide HNX _ hp3)
        clear hx3 hn3 hp3 HADD HNX HW2 HKL2
        go_wp2
        go_roundw
        case rel => exact ⟨k + 1, u3, M3, _, by omega, by go_num, HX3, HN3, HP3, HKN, HLW⟩
        case measure => simp [intOf]; omega
      · have hd : decide ((0 : Int) < f) = false := decide_eq_false hf
        have HK2 := hK
        rw [← hcn hf] at HK2
        clear hct hcn hK
        go_wp2
        go_roundw
        case rel => exact ⟨k + 1, u, M, K, by omega, by go_num, hx, hhn, hpe, HK2, hlow⟩
        case measure => simp [intOf]; omega
    · obtain rfl : k = n := by omega
      have HT := hide (implTakeAll (unhide hx) (unhide hhn) (by have := unhide HKL; have := unhide HML; omega))
      have HFIN : Hid (∀ R : List Hp, R.Perm M → R.Pairwise (fun a b => ltH b a = false) → R.map cont = (orderG fs).map (coinP fs)) := fun R h1 h2 => by
        have := coins_are (unhide H0) (unhide hK) (h1.trans (unhide hpe)) h2
        rw [this, orderG, unhide HL]
      have HLOW : Hid (∀ R : List Hp, R.Perm M → Low w.heap.size R) := fun R h1 => (unhide hlow).num (c := 0) (fun x hx => (h1.trans (unhide hpe)).subset hx)
      clear hx hhn hpe hK
      go_wp2_with fail
      refine (unhide HT).mono ?_
      rintro e w3 ⟨u3, R, rfl, hlst, hg3, hp3, hs3, _⟩
      obtain ⟨ro, rc, rfl, _⟩ := hlst.form
      have HLST := hide hlst
      have HG3 := hide hg3
      have HC3 := hide (unhide HFIN R hp3 hs3)
      have HL3 := hide (unhide HLOW R hp3)
      clear hlst hg3 hp3 hs3 HFIN HT
      go_wp2
      go_ret
      exact ⟨_, R, rfl, unhide HLST, unhide HG3, unhide HC3, unhide HL3⟩

end Go.Proofs.Ytcbaiagkdphkeaa
