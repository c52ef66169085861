/-
  The bit coder in the specification: likelihoods, and a byte that is laid.
-/
import Derived.Test.YtekidfkahpaokaaCoderRows
import Derived.Deep.QuietTactic
import Derived.BigQuiet
namespace Go.Proofs.Ytekidfkahpaokaa
open Go.RowKit

theorem info_u9 : (Try.prog.info? 5).map (fun i => (i.zero, i.size, i.bytes)) = some (some (.int .u8 0), 1, 1) := by kernel_rfl
theorem info_n9 : (Try.prog.info? 3).map (fun i => (i.zero, i.size, i.bytes)) = some (some (.int .i64 0), 1, 8) := by kernel_rfl

theorem tdivN (a b : Nat) : ((a : Int)).tdiv (b : Int) = ((a / b : Nat) : Int) := by
  rw [Int.tdiv_eq_ediv_of_nonneg (by omega)]; simp
theorem tmodN (a b : Nat) : ((a : Int)).tmod (b : Int) = ((a % b : Nat) : Int) := by
  rw [Int.tmod_eq_emod_of_nonneg (by omega)]; simp

theorem learn_own {B w w' : World} {xb : Nat} {g pc : Nat} {P : List Nat} (h : Lk B xb w (.slice (some ⟨g, 0, none⟩) P.length pc) P) (g0 : w.grownBy w' none) (c x : Nat) :
    Lk B xb (w'.setCell ⟨g, c, none⟩ (.int .i64 (x : Int))) (.slice (some ⟨g, 0, none⟩) P.length pc) (P.set c x) ∧ w.grownBy (w'.setCell ⟨g, c, none⟩ (.int .i64 (x : Int))) (some g) := by
  have h1 := h.beside g0 (by simp) (fun _ _ => by simp) (fun k e => by simp at e)
  have s1 := h1.own.stored c (.int .i64 (x : Int))
  rw [pCells_set] at s1
  have hg := h1.own.lt g rfl
  refine ⟨⟨?_, grown_atC s1.2 h1.box h1.ne, h1.ne, grown_new h1.grown s1.2 (fun k e => by have := Option.some.inj e; omega), h1.base⟩, grown_trans (grown_any g0) s1.2⟩
  have e : (P.set c x).length = P.length := by simp
  rw [e]
  exact s1.1

set_option maxRecDepth 20000 in
set_option maxHeartbeats 1600000 in
theorem specLearn {B w : World} {xb : Nat} {v : Value} {P : List Nat} (h : Lk B xb w v P) (c b : Nat) (hc : c < P.length) (hb : b ≤ 1) (hp : okP (P.getD c 2048)) :
    Calls Try.prog 75 #[.pointer (some ⟨xb, 0, none⟩), .int .i64 c, .int .i64 b] w fun e w' => e = .returned (.tuple #[]) ∧ Lk B xb w' v (P.set c (learnN (P.getD c 2048) b)) ∧ w.grownBy w' v.ownBlock := by
  obtain ⟨po, pc, rfl⟩ := own_form h.own
  obtain ⟨g, rfl, _, _⟩ := own_at h.own (by omega)
  have c0 : w.cell? ⟨xb, 0, none⟩ = some (.slice (some ⟨g, 0, none⟩) P.length pc) := by rw [cell_of_row w xb 0 _ _ (0, 0) h.box]; rfl
  have c1 : w.cell? ⟨g, c, none⟩ = some (.int .i64 ((P.getD c 2048 : Nat) : Int)) := by rw [h.own.cellAt c (by omega)]; exact pCells_at P c hc
  have f1 := h.own.frozenAt c
  have HS : Hid (∀ nq x, Lk B xb ((w.drewN nq).setCell ⟨g, c, none⟩ (.int .i64 ((x : Nat) : Int))) (.slice (some ⟨g, 0, none⟩) P.length pc) (P.set c x) ∧ w.grownBy ((w.drewN nq).setCell ⟨g, c, none⟩ (.int .i64 ((x : Nat) : Int))) (some g)) := fun nq x => learn_own h (grown_drewN (World.grownBy.refl _ _) nq) c x
  obtain ⟨n, HN⟩ : ∃ n, Hid (P.length = n) := ⟨_, rfl⟩
  rw [unhide HN] at c0 HS
  have hcI : (c : Int) < (n : Int) := by have := unhide HN; omega
  rw [unhide HN]
  generalize P.getD c 2048 = p at *
  obtain ⟨hp1, hp2⟩ := hp
  clear h hc
  rcases (show b = 0 ∨ b = 1 by omega) with rfl | rfl
  · have e1 := i64_in (4096 - (p : Int)) (by omega)
    have e2 : (4096 - (p : Int)).tdiv 32 = (((4096 - p) / 32 : Nat) : Int) := by rw [Int.tdiv_eq_ediv_of_nonneg (by omega)]; omega
    obtain ⟨q, hq⟩ : ∃ q, (4096 - p) / 32 = q := ⟨_, rfl⟩
    rw [hq] at e2
    have e3 := i64_in ((q : Nat) : Int) (by omega)
    have e4 := i64_in ((p : Int) + (q : Int)) (by omega)
    have HL : Hid (learnN p 0 = p + q) := by unfold Hid learnN; rw [if_pos rfl, hq]
    rw [unhide HL]
    go_enter Try.func75, Try.ntmps75
    go_wp2
    refine wp_region_last 20 _ (by kernel_rfl) rfl rfl (by kernel_rfl) ?_
    dsimp only [List.dropLast]
    repeat (go_big_quiet_step (fail))
    refine wpQuiet_nil ?_
    intro nq
    have HSN := hide (unhide HS nq (p + q))
    have hpq : ((p + q : Nat) : Int) = (p : Int) + (q : Int) := by omega
    rw [hpq] at HSN
    clear HS hpq
    go_wp2
    exact bodyPost_end (v := .tuple #[]) (by simp [results, Try.results75, go_sem]) rfl ⟨rfl, (unhide HSN).1, (unhide HSN).2⟩
  · have e2 : (p : Int).tdiv 32 = ((p / 32 : Nat) : Int) := tdivN p 32
    obtain ⟨q, hq⟩ : ∃ q, p / 32 = q := ⟨_, rfl⟩
    rw [hq] at e2
    have e3 := i64_in ((q : Nat) : Int) (by omega)
    have e4 := i64_in ((p : Int) - (q : Int)) (by omega)
    have HL : Hid (learnN p 1 = p - q) := by unfold Hid learnN; rw [if_neg (by omega), hq]
    rw [unhide HL]
    go_enter Try.func75, Try.ntmps75
    go_wp2
    refine wp_region_last 20 _ (by kernel_rfl) rfl rfl (by kernel_rfl) ?_
    dsimp only [List.dropLast]
    repeat (go_big_quiet_step (fail))
    refine wpQuiet_nil ?_
    intro nq
    have HSN := hide (unhide HS nq (p - q))
    have hpq : ((p - q : Nat) : Int) = (p : Int) - (q : Int) := by omega
    rw [hpq] at HSN
    clear HS hpq
    go_wp2
    exact bodyPost_end (v := .tuple #[]) (by simp [results, Try.results75, go_sem]) rfl ⟨rfl, (unhide HSN).1, (unhide HSN).2⟩

end Go.Proofs.Ytekidfkahpaokaa
