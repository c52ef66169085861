/-
  The program's ScanOk, as the laws need it.
-/
import Derived.Test.YtnjcmlmgjoaeeaaScanImpl
import Derived.Test.YtnjcmlmgjoaeeaaTabKit
import Derived.Test.YtnjcmlmgjoaeeaaHeldLast
namespace Go.Proofs.Ytnjcmlmgjoaeeaa
open Go.RowKit

/-- What a frame that was fixed tells of scans. -/
def TellsOk (X : Array Value) (fb : Bool) (n : Nat) : Prop := ∀ (w : World) (vo : Option Addr) (vn vc : Nat) (a : Scn), Rd .i64 w vo vn a.cs → vn ≤ 4194304 → ∀ t, Hid (scanB fb n a = t) →
    Calls Try.prog 58 #[.agg X, scV (.slice vo vn vc) a] w fun e w' => e = .returned (.bool t) ∧ w.grownBy w' none
theorem okComps_none (cs : List Int) : okComps 0 cs = false := by
  cases hk : okComps 0 cs with
  | false => rfl
  | true =>
    simp only [okComps, Bool.and_eq_true, decide_eq_true_eq] at hk
    have := compsTo_len hk.1
    omega
theorem tells_of {X : Array Value} {p wd ht rs : Int} {n : Nat} {C : Nat → Nat → Int} {b : Bool} (HFB : Hid (frameB p wd ht rs n C = b)) (h1 : b = false → X = #[.int .i64 0, .int .i64 0, .int .i64 0, .int .i64 0, .int .i64 0, .int .i64 0, .int .i64 0, .int .i64 0, .int .i64 0, .int .i64 0, .int .i64 0, .int .i64 0, .int .i64 0, .int .i64 0, .int .i64 0, .int .i64 0, .int .i64 0, .int .i64 0, .int .i64 0, .int .i64 0, .int .i64 0]) (h2 : b = true → ∃ D, Fx X p wd ht rs n D ∧ ∀ i, i < n → D i = C i) : TellsOk X b n := by
  intro w vo vn vc a hv hvn t HT
  cases b with
  | false =>
    obtain rfl := h1 rfl
    have e : t = false := by rw [← unhide HT]; rfl
    subst e
    exact scanOk #[.int .i64 0, .int .i64 0, .int .i64 0, .int .i64 0, .int .i64 0, .int .i64 0, .int .i64 0, .int .i64 0, .int .i64 0, .int .i64 0, .int .i64 0, .int .i64 0, .int .i64 0, .int .i64 0, .int .i64 0, .int .i64 0, .int .i64 0, .int .i64 0, .int .i64 0, .int .i64 0, .int .i64 0] rfl 0 (fun c w => (hasComp_none c w).mono (fun e w' h => by rw [show decide (0 ≤ c ∧ c ≤ ((0 : Nat) : Int) - 1) = false from decide_eq_false (by omega)]; exact h)) w vo vn vc a hv hvn false (by unfold Hid; rw [okComps_none]; rfl)
  | true =>
    obtain ⟨D, hF, hD⟩ := h2 rfl
    have hn4 := (geo_of (unhide HFB)).n4
    exact scanOk X hF.size n (fun c w => hasComp X p wd ht rs n D hF hn4 c _ rfl w) w vo vn vc a hv hvn t (by unfold Hid; rw [← unhide HT]; unfold scanB; rw [Bool.true_and])

set_option maxRecDepth 20000 in
set_option maxHeartbeats 1600000 in
theorem giveScanOk : ImplScanOk := by
  intro p wd ht rs fo n fc C vo vn vc a w hr hn hv hvn fb t HFB HT
  have HCALL := hide (fun (X : Array Value) (W : World) (h : TellsOk X fb n) (hg : w.grownBy W none) => h W vo vn vc a (hv.grown hg) (by omega) t HT)
  obtain ⟨cs, fr, to, hi, lo⟩ := a
  unfold scV at HCALL
  dsimp only at hv HCALL ⊢
  obtain ⟨W0, HW⟩ : ∃ W0, Hid ((w.alloc (.cells #[.int .i64 p, .int .i64 wd, .int .i64 ht, .int .i64 rs, .slice fo n fc] 26)).alloc (.cells #[.slice vo vn vc, .int .i64 fr, .int .i64 to, .int .i64 hi, .int .i64 lo] 38) = W0) := ⟨_, rfl⟩
  have HG0 : Hid (w.grownBy W0.drew none) := by rw [← unhide HW]; exact grown_drew (grown_alloc (grown_alloc (World.grownBy.refl _ _) _) _)
  have HB0 : Hid (W0.drew.heap[w.heap.size]? = some (.cells #[.int .i64 p, .int .i64 wd, .int .i64 ht, .int .i64 rs, .slice fo n fc] 26 (0, 0))) := by
    show W0.heap[w.heap.size]? = _
    rw [← unhide HW]
    exact at_rowS (World.grownBy_alloc _ _ none) (heap_alloc_new w _) (by simp)
  have HB1 : Hid (W0.drew.heap[w.heap.size + 1]? = some (.cells #[.slice vo vn vc, .int .i64 fr, .int .i64 to, .int .i64 hi, .int .i64 lo] 38 (0, 0))) := by
    show W0.heap[w.heap.size + 1]? = _
    rw [← unhide HW]
    have := heap_alloc_new (w.alloc (.cells #[.int .i64 p, .int .i64 wd, .int .i64 ht, .int .i64 rs, .slice fo n fc] 26)) (.cells #[.slice vo vn vc, .int .i64 fr, .int .i64 to, .int .i64 hi, .int .i64 lo] 38)
    simpa using this
  have HFIX := hide (fixFrame p wd ht rs fo n fc C W0.drew (hr.grown (unhide HG0)) hn fb HFB)
  clear hr hv HT
  go_enter Try.func23, Try.ntmps23
  go_wp2
  rw [unhide HW]
  clear HW
  refine wp_region_noPanic ?_
  refine wp_region_tail (fun W => W0.drew.grownBy W none) [true, false, true, false, false] (by kernel_rfl) (fun _ _ _ _ _ h => h) rfl (by kernel_rfl) (World.grownBy.refl _ _) ?_
  generalize W0.drew = W1 at *
  refine heldF_take (v := .agg #[.int .i64 p, .int .i64 wd, .int .i64 ht, .int .i64 rs, .slice fo n fc]) (Or.inl ⟨by rfl, ?_⟩) ?_
  · intro w' hSw
    exact exec_row 26 _ rfl w.heap.size rfl _ _ (grown_atT hSw (unhide HB0) (by simp)) _ Try.underlying26 rfl (by kernel_rfl)
  try simp only [Act.put, List.setIfInBounds_toArray, List.set_cons_zero, List.set_cons_succ]
  refine heldF_skip ?_
  refine heldF_take (v := .agg #[.slice vo vn vc, .int .i64 fr, .int .i64 to, .int .i64 hi, .int .i64 lo]) (Or.inl ⟨by rfl, ?_⟩) ?_
  · intro w' hSw
    exact exec_row 38 _ rfl (w.heap.size + 1) rfl _ _ (grown_atT hSw (unhide HB1) (by simp)) _ Try.underlying38 rfl (by kernel_rfl)
  try simp only [Act.put, List.setIfInBounds_toArray, List.set_cons_zero, List.set_cons_succ]
  refine heldF_skip (heldF_skip (heldF_nil ?_))
  refine tailF_skip ?_
  refine tailF_step (fun K hK => ?_)
  go_simp
  refine (unhide HFIX).mono ?_
  rintro e w2 ⟨X, rfl, h1, h2, g2⟩
  have HT2 := hide (tells_of HFB h1 h2)
  have HG2 := hide (grown_trans (unhide HG0) g2)
  refine hK.out _ _ g2 ?_
  clear hK K h1 h2 HFIX
  try simp only [Act.put, List.setIfInBounds_toArray, List.set_cons_zero, List.set_cons_succ]
  refine tailF_skip ?_
  refine tailF_step (fun K hK => ?_)
  go_simp
  refine (unhide HCALL X w2 (unhide HT2) (unhide HG2)).mono ?_
  rintro e w3 ⟨rfl, g3⟩
  have HG3 := hide (grown_trans (unhide HG2) g3)
  refine hK.out _ _ (grown_trans g2 g3) ?_
  have g23 := hide (grown_trans g2 g3)
  clear hK K HCALL g2 g3
  try simp only [Act.put, List.setIfInBounds_toArray, List.set_cons_zero, List.set_cons_succ]
  refine tailF_step (fun K hK => ?_)
  go_simp
  refine hK.out _ _ (unhide g23) ?_
  clear hK K
  refine tailF_nil (NoPanic.normal ?_)
  go_wp2
  go_ret
  exact ⟨rfl, unhide HG3⟩

end Go.Proofs.Ytnjcmlmgjoaeeaa
