/- For every slice of segments the law on WriteSegs returns true: WriteSegs answers as the specification does, writes into no argument and keeps nothing of one, and its answer owns its memory; no condition. -/
import Derived.Test.YtcmgmffjnhdbfahRows
import Derived.Test.YtcmgmffjnhdbfahLawWriteSegs
import Derived.WalkKit
import Derived.ProofKit
import Derived.OpenShut
import Derived.ShutString
import Derived.ChangeOld
import Derived.Below
import Derived.Deep.SlicePairs
namespace Go.Proofs.Ytcmgmffjnhdbfah.fnExactWriteSegs
open Go.ChangeShapes Go.WideShapes Go.ChangeAt Go.RowKit Go.Deep
open Go.ChangeMaps (open_string shut_string)
set_option linter.unusedVariables false

theorem own : ownKnob Try.prog.godebug = none := by kernel_rfl
theorem laidOut : laidOutB Try.prog = true := by kernel_rfl

set_option maxRecDepth 100000 in
theorem lifted (os : Os) (started : os.Started) (H : Type) (enc : TypeId × Value → H) :
    ReturnsInHanded {} Try.checked os 6 .any (Rows.fnExactWriteSegsSpec.pre6 enc Try.prog Try.f6 Rows.fnExactWriteSegsRow.domain false) (Rows.fnExactWriteSegsSpec.post enc Try.prog Try.f6 false true false false) := by
  refine returnsInHanded_of_change (C := Try.checked) own started (by kernel_rfl) Try.func6
    (ChangeSpec.witness6 (enc := enc) (C := Try.checked) false ⟨#[], #[.slice none 0 0], []⟩ 8 (by kernel_rfl) (by kernel_rfl) (by kernel_rfl) (by kernel_rfl)) ?_
  intro W base args ds gs before hval0 hW hcnd _
  have hval : ∀ (j : Nat) t v, Try.f6.params[j]? = some t → args[j]? = some v → Value.okWide Try.prog W .any base t v := hval0
  have hW' := hW
  obtain ⟨p, q, hA0, hV, rfl, hfz, hnd⟩ := hW
  have hA : DataW.TrodAll enc Try.prog W 0 (fun _ => true) true Try.f6.params.toList args.toList ds p := hA0
  rw [Try.params6] at hA hval
  obtain ⟨v0, vs0, d0, ds0, p0, q0, hargs, rfl, rfl, h0, r0⟩ := trodAll_cons hA
  obtain ⟨rfl, rfl, rfl⟩ := trodAll_nil r0
  obtain rfl : args = #[v0] := by cases args; simp_all
  obtain ⟨rfl, rfl⟩ := trodVars_none hV
  obtain ⟨a0, len0, cap0, rfl⟩ := okWide_slice Try.underlying29 (hval 0 29 v0 rfl rfl)
  have k0 := h0
  have lt0 : ∀ x ∈ p0, x.block < W.heap.size := by obtain ⟨m, hm⟩ := k0; exact DataW.trod_lt m _ _ _ hm
  obtain ⟨z0, rd0, m0, ld0, by0⟩ : ∃ ss, RdS W a0 len0 ss ∧ len0 ≤ maxLen ∧ (∀ i, i < len0 → (ss.getD i (0, [])).2.length ≤ maxLen) ∧ ∀ i, i < len0 → ∀ j, 0 ≤ (ss.getD i (0, [])).2.getD j 0 ∧ (ss.getD i (0, [])).2.getD j 0 ≤ 255 := by
    obtain ⟨fuel, hf⟩ := h0
    rcases open_slice_pairs Try.underlying29 Try.underlying52 (by kernel_rfl) rfl rfl (by kernel_rfl) (by kernel_rfl) hf with ⟨hcs, _⟩ | ⟨x, l, c, m, nn, V0, V1, D0, D1, P0, P1, hcs, _, hl, hm, hmm, _, hall⟩
    · simp [Value.cells] at hcs
      obtain ⟨rfl, rfl, rfl⟩ := hcs
      exact ⟨[], ⟨rfl, fun i hi => absurd hi (by omega)⟩, by unfold maxLen; omega, fun i hi => absurd hi (by omega), fun i hi => absurd hi (by omega)⟩
    · simp [Value.cells] at hcs
      obtain ⟨rfl, rfl, rfl⟩ := hcs
      obtain ⟨ss, s1, s2, s3⟩ := rdS_of_row (w := W) (x := x) (n := len0) (V0 := V0) (V1 := V1) (fun i hi => by
        have hi' : i < m := by rw [hmm]; simp; omega
        obtain ⟨c1, c2, t1, t2⟩ := hall i hi'
        obtain ⟨n1, e1, _, _⟩ := DataW.trod_int Try.underlying3 t1
        simp at e1
        refine ⟨c1, c2, ⟨n1, e1⟩, ?_⟩
        rcases open_ints Try.underlying22 Try.underlying5 (by kernel_rfl) t2 with ⟨hcs2, _⟩ | ⟨x2, l2, c2', zs2, hcs2, _, hl2, hm2, hz2, _, hcell2, hwz2⟩
        · simp at hcs2
          exact ⟨none, 0, [], hcs2, ⟨rfl, fun i hi => absurd hi (by simp)⟩, fun _ => rfl, by simp, fun i => by simp⟩
        · simp at hcs2
          have hzl : (zs2.take l2).length = l2 := by simp at hz2 ⊢; omega
          refine ⟨some x2, c2', zs2.take l2, by rw [hzl]; exact hcs2, by rw [hzl]; exact rd_of_row hl2 (by simpa using hz2) hcell2, by simp, by rw [hzl]; omega, fun i => take_within (fun q hq => bounds_u8 (hwz2 q hq)) l2 i (by decide)⟩)
      exact ⟨ss, s1, by omega, s2, s3⟩
  clear hA0 hval0
  refine (lawWriteSegs a0 len0 cap0 z0 W rd0 m0 ld0).mono fun e W' ⟨he, bel⟩ => ?_
  subst he
  exact ⟨_, rfl, _, _, _, [], _, [], hW', trodAll_mk1 (shut_bool Try.underlying4 _), (trodAll_cons_mk (Below.trod laidOut (by kernel_rfl) (of_decide_eq_true (by kernel_rfl)) k0 bel lt0) trodAll_mk0), rfl, bel.frame _, fun h => by cases h⟩

theorem over : Rows.fnExactWriteSegsRow.holds Try.pinned (OpenSpec.ofChange Rows.fnExactWriteSegsSpec) :=
  OpenClaim.holds_of_wide 6 Try.f6 rfl rfl rfl rfl rfl rfl rfl ⟨rfl, rfl, rfl, rfl, rfl⟩ rfl rfl rfl rfl rfl (by kernel_rfl) Try.func6 (by kernel_rfl)
    (of_decide_eq_true (by kernel_rfl)) (by unfold Func.isWrapper; first | (rw [if_pos (by decide +kernel)]; kernel_rfl) | (rw [if_neg (by decide +kernel)]; exact ⟨rfl, rfl⟩))
    (fun os started H enc _ => lifted os started H enc)
end Go.Proofs.Ytcmgmffjnhdbfah.fnExactWriteSegs

namespace Go.Proofs.Ytcmgmffjnhdbfah
theorem fnExactWriteSegs_proved : Rows.FnExactWriteSegsSaid := fnExactWriteSegs.over
#print axioms fnExactWriteSegs_proved
end Go.Proofs.Ytcmgmffjnhdbfah
