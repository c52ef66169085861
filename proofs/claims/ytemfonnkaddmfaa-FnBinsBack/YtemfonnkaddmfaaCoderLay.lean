/-
  A byte is laid, in the specification.
-/
import Derived.Test.YtemfonnkaddmfaaCoderSpec
namespace Go.Proofs.Ytemfonnkaddmfaa
open Go.RowKit

theorem append_by {w : World} {ops : Array Oper} {rest : List Oper} {o : Oper} {a : Act} {Q : Exit → Act → World → Prop} (hgd : o.guard = none) (s x : Operand)
    (ho : o.op = .call { callee := .builtin .append, args := #[s, x], argTypes := #[22, 22] })
    (base : Nat) (v : Value) (O : List Nat) (hs : a.eval s = v) (hown : w.ownsRow base 5 1 v O.length (bCells O)) (t : Nat) (hx : a.eval x = .slice (some ⟨w.heap.size, 0, none⟩) 1 1) (hb : O.length ≤ 2000000) (hbase : base ≤ w.heap.size)
    (hK : ∀ g cap w', w'.ownsRow base 5 1 (.slice (some ⟨g, 0, none⟩) (O.length + 1) cap) (O.length + 1) (bCells (t :: O)) → w.grownBy w' v.ownBlock → (v.ownBlock = some g ∨ w.heap.size ≤ g) → wpList Try.prog ops Q rest (a.put o.dst (.slice (some ⟨g, 0, none⟩) (O.length + 1) cap)) w') :
    wpList Try.prog ops Q (o :: rest) a (w.alloc (.cells #[.int .u8 (t : Int)] 5)) := by
  obtain ⟨i0, hi, hz0, hz1, hz2⟩ := info_parts info_u9
  refine wpList_append_own_at _ hgd s x 22 ho base 5 i0 _ 1 1 Try.underlying22 hi hz0 hz1 hz2 rfl (by decide) v O.length _ hs (hown.alloc _) ⟨w.heap.size, 0, none⟩ 1 1 [.int .u8 (t : Int)] hx rfl (World.news_of_block (cs := #[.int .u8 (t : Int)]) (t := 5) (fr := (0, 0)) (heap_alloc_new w _)) (by intro u hu; simp at hu; subst hu; rfl) (by unfold maxLen; omega) (by omega) (by simp; omega) ?_
  intro v' w' h1 h2 _ h4
  rcases h1.2 with ⟨_, e0⟩ | ⟨g, cap, cur, e1, _⟩
  · omega
  subst e1
  refine hK g cap w' ?_ ?_ ?_
  · rw [bCells_cons]; exact h1
  · exact ⟨h2.os, h2.tape, h2.output, by have h := h2.size; simp at h; omega, fun k hk hr => (h2.block k (by simp; omega) hr).trans (Below.heap_alloc _ _ _ hk)⟩
  · rcases h4 with h4 | h4
    · exact .inl h4.symm
    · have e : g = (w.alloc (.cells #[.int .u8 (t : Int)] 5)).heap.size := Option.some.inj h4
      exact .inr (by simp at e; omega)

theorem carry_run (i : Nat) (r : List Nat) : carryR (List.replicate i 255 ++ r) = List.replicate i 0 ++ carryR r := by
  induction i with
  | zero => simp
  | succ i ih => rw [List.replicate_succ, List.cons_append, carryR, if_pos rfl, ih, List.replicate_succ, List.cons_append]

set_option maxRecDepth 20000 in
set_option maxHeartbeats 3200000 in
theorem specLay {B w : World} {xb ob : Nat} {v u : Value} {P : List Nat} {s : En} (h : Ow B xb ob w v u P s) (hl : s.low < 8589934592) (hby : bytesN s.out) (hlen : s.out.length ≤ 1000000) :
    Calls Try.prog 58 #[.pointer (some ⟨ob, 0, none⟩)] w fun e w' => e = .returned (.tuple #[]) ∧ ∃ u', Ow B xb ob w' v u' P (layN s) := by
  obtain ⟨low, rang, out⟩ := s
  obtain ⟨uo, uc, rfl⟩ := own_form h.own
  dsimp only at hl hby hlen h
  obtain ⟨c0, c1, c2, c3, _⟩ := h.cells
  dsimp only at c1 c2 c3
  obtain ⟨T, hT⟩ : ∃ T, low / 16777216 = T := ⟨_, rfl⟩
  have e0 : (low : Int).tdiv 16777216 = (T : Int) := by rw [← hT]; exact tdivN low 16777216
  have e1 : (low : Int).tmod 16777216 = ((low % 16777216 : Nat) : Int) := tmodN low 16777216
  obtain ⟨md, hmd⟩ : ∃ md, low % 16777216 = md := ⟨_, rfl⟩
  rw [hmd] at e1
  obtain ⟨lw, hlw⟩ : ∃ lw, md * 256 = lw := ⟨_, rfl⟩
  have e2 := i64_in (T : Int) (by omega)
  have e3 := i64_in (md : Int) (by omega)
  have e4 := i64_in ((md : Int) * 256) (by omega)
  have e5 : (md : Int) * 256 = (lw : Int) := by omega
  rw [e5] at e4
  have HL : Hid (layN ⟨low, rang, out⟩ = ⟨lw, rang, (if 255 < T then T - 256 else T) :: (if 255 < T then carryR out else out)⟩) := by
    unfold Hid layN
    dsimp only
    rw [hT, hmd, hlw]
  obtain ⟨n, HN⟩ : ∃ n, Hid (out.length = n) := ⟨_, rfl⟩
  have HBY := hide hby
  have HOW := hide h
  rw [unhide HN] at HOW c3 hlen
  clear h hby
  by_cases hc : 255 < T
  · have hd : decide ((255 : Int) < (T : Int)) = true := decide_eq_true (by omega)
    have e6 := i64_in ((T : Int) - 256) (by omega)
    obtain ⟨t, ht⟩ : ∃ t, T - 256 = t := ⟨_, rfl⟩
    have e7 : (T : Int) - 256 = (t : Int) := by omega
    rw [e7] at e6
    have eu : IntKind.u8.wrap (t : Int) = (t : Int) := IntWalk.u8_in _ (by omega)
    have e8 := i64_in ((n : Int) - 1) (by omega)
    have HEND : Hid (layN ⟨low, rang, out⟩ = ⟨lw, rang, t :: carryR out⟩) := by unfold Hid; rw [unhide HL, if_pos hc, if_pos hc, ht]
    go_enter Try.func58, Try.ntmps58
    go_wp2
    go_loopw [3] (fun kv wr => ∃ (i : Nat) (r : List Nat), kv = .int .i64 ((r.length : Int) - 1) ∧ r.length ≤ n ∧ Hid (out = List.replicate i 255 ++ r) ∧ Hid (Ow B xb ob wr v (.slice uo n uc) P ⟨low, rang, List.replicate i 0 ++ r⟩)) (fun kv _ => (intOf kv + 1).toNat)
    case atStart => exact ⟨0, out, by rw [unhide HN], by rw [unhide HN]; exact Nat.le_refl _, rfl, HOW⟩
    case round =>
      clear HOW c0 c1 c2 c3
      obtain ⟨i, r, rfl, hrn, hout, how⟩ := hrel
      have HOL0 : Hid ((List.replicate i 0 ++ r).length = n) := by
        unfold Hid
        rw [← unhide HN, unhide hout]
        simp
      cases r with
      | nil =>
        have HC : Hid (carryR out = List.replicate i 0 ++ []) := by unfold Hid; rw [unhide hout, carry_run]; rfl
        have HEND2 := HEND
        rw [unhide HC] at HEND2
        obtain ⟨O1, HO1⟩ : ∃ O1 : List Nat, Hid (List.replicate i 0 ++ [] = O1) := ⟨List.replicate i 0 ++ [], Eq.refl _⟩
        rw [unhide HO1] at how HEND2 HOL0
        have HOL : Hid (O1.length ≤ 2000000) := by have := unhide HOL0; unfold Hid; omega
        clear HEND HC hout
        have HEND := HEND2
        clear HEND2
        obtain ⟨k0, k1, k2, k3, _⟩ := (unhide how).cells
        have HSZ : Hid (B.heap.size ≤ wr.heap.size) := (unhide how).lk.grown.size
        have HFIN : Hid (∀ g9 c9 w', w'.ownsRow B.heap.size 5 1 (.slice (some ⟨g9, 0, none⟩) ((O1).length + 1) c9) ((O1).length + 1) (bCells (t :: O1)) → wr.grownBy w' (Value.slice uo n uc).ownBlock → ((Value.slice uo n uc).ownBlock = some g9 ∨ wr.heap.size ≤ g9) → Ow B xb ob (w'.setCell ⟨ob, 3, none⟩ (.slice (some ⟨g9, 0, none⟩) ((O1).length + 1) c9)) v (.slice (some ⟨g9, 0, none⟩) ((O1).length + 1) c9) P ⟨low, rang, t :: O1⟩) := fun g9 c9 w' o1 g1 hat => (unhide how).add rfl o1 g1 hat
        have HOWN : Hid (wr.ownsRow B.heap.size 5 1 (.slice uo n uc) (O1).length (bCells (O1))) := (unhide how).own
        go_wp2_with (at_builtin; refine append_by rfl _ _ rfl B.heap.size (.slice uo n uc) (O1) rfl (unhide HOWN) t rfl (unhide HOL) (unhide HSZ) ?_)
        intro g7 c7 w7 o7 g7w hat7
        have HO7 := hide (unhide HFIN g7 c7 w7 o7 g7w hat7)
        have hob : (Value.slice uo n uc).ownBlock ≠ some ob := (unhide how).n3
        have b7 := grown_atC g7w (unhide how).box hob
        have m1 : w7.cell? ⟨ob, 3, none⟩ = some (.slice uo n uc) := by rw [cell_of_row w7 ob 3 _ _ (0, 0) b7]; rfl
        have m2 : w7.frozen? ⟨ob, 3, none⟩ = false := frozen_of_row w7 ob 3 _ _ b7
        have m3 : w7.cell? ⟨ob, 1, none⟩ = some (.int .i64 (low : Int)) := by rw [cell_of_row w7 ob 1 _ _ (0, 0) b7]; rfl
        have m4 : w7.frozen? ⟨ob, 1, none⟩ = false := frozen_of_row w7 ob 1 _ _ b7
        have HO8 := hide ((unhide HO7).set1 lw)
        obtain ⟨ol, HOLN⟩ : ∃ ol, Hid ((O1).length + 1 = ol) := ⟨_, rfl⟩
        rw [unhide HOLN] at HO8 ⊢
        clear o7 g7w hat7 b7 hob HFIN HOWN HO7 k0 k1 k2 k3
        go_wp2
        exact bodyPost_end (v := .tuple #[]) (by simp [results, Try.results58, go_sem]) rfl ⟨rfl, _, by rw [unhide HEND]; exact unhide HO8⟩
      | cons x r =>
        obtain ⟨k0, k1, k2, k3, _⟩ := (unhide how).cells
        dsimp only at k1 k2 k3
        have hown := (unhide how).own
        dsimp only at hown
        rw [unhide HOL0] at hown
        have hrn2 : r.length < n := by have h := hrn; simp at h; omega
        obtain ⟨g, rfl, _, _⟩ := own_at hown (by omega)
        have hcx : wr.cell? ⟨g, r.length, none⟩ = some (.int .u8 (x : Int)) := by rw [hown.cellAt r.length (by omega)]; exact bCells_at _ _ _
        have hfx := hown.frozenAt r.length
        have hrl : ((x :: r).length : Int) - 1 = (r.length : Int) := by simp
        rw [hrl]
        have hxb : x ≤ 255 := unhide HBY x (by rw [unhide hout]; simp)
        have hst : ∀ (W : World) (y : Nat), wr.grownBy W none → Ow B xb ob (W.setCell ⟨g, r.length, none⟩ (.int .u8 (y : Int))) v (.slice (some ⟨g, 0, none⟩) n uc) P ⟨low, rang, List.replicate i 0 ++ y :: r⟩ := fun W y gW => by
          have hW := (unhide how).drewN gW
          have ow := hW.own
          dsimp only at ow
          rw [unhide HOL0] at ow
          have s1 := ow.stored r.length (.int .u8 (y : Int))
          rw [bCells_set] at s1
          have hl2 : (List.replicate i 0 ++ y :: r).length = n := by rw [← unhide HOL0]; simp
          exact hW.turn (List.replicate i 0 ++ y :: r) (by rw [hl2]; exact s1.1) s1.2
        have HST := hide hst
        have e9 := i64_in ((r.length : Int) - 1) (by omega)
        obtain ⟨m, HM⟩ : ∃ m, Hid (r.length = m) := ⟨_, rfl⟩
        rw [unhide HM] at hcx hfx HST e9 hrn2 ⊢
        have hmI : (m : Int) < (n : Int) := by omega
        have hm0 : decide ((0 : Int) ≤ (m : Int)) = true := decide_eq_true (by omega)
        clear hown hst hrl hrn
        by_cases hx : x = 255
        · subst hx
          have H0 := hide (unhide HST wr 0 (World.grownBy.refl _ _))
          have HO0 : Hid (out = List.replicate (i + 1) 255 ++ r) := by unfold Hid; rw [unhide hout, List.replicate_succ', List.append_assoc]; rfl
          have HR0 : Hid (Ow B xb ob (wr.setCell ⟨g, m, none⟩ (.int .u8 ((0 : Nat) : Int))) v (.slice (some ⟨g, 0, none⟩) n uc) P ⟨low, rang, List.replicate (i + 1) 0 ++ r⟩) := by
            have e : List.replicate (i + 1) 0 ++ r = List.replicate i 0 ++ 0 :: r := by rw [List.replicate_succ', List.append_assoc]; rfl
            unfold Hid; rw [e]; exact unhide H0
          clear HST H0 how hout
          go_wp2
          go_roundw
          case rel => exact ⟨i + 1, r, by rw [unhide HM], by rw [unhide HM]; omega, HO0, HR0⟩
          case measure => first | (simp [intOf]; done) | (simp [intOf]; omega)
        · have hx2 : ((x : Int) == 255) = false := by simp; omega
          have ex : IntKind.u8.wrap ((x : Int) + 1) = (x : Int) + 1 := IntWalk.u8_in _ (by omega)
          have HC : Hid (carryR out = List.replicate i 0 ++ (x + 1) :: r) := by unfold Hid; rw [unhide hout, carry_run, carryR, if_neg hx]
          have HEND2 := HEND
          rw [unhide HC] at HEND2
          have HOL0' : Hid ((List.replicate i 0 ++ (x + 1) :: r).length = n) := by unfold Hid; rw [← unhide HOL0]; simp
          go_wp2
          refine wp_region_last 20 _ (by kernel_rfl) rfl rfl (by kernel_rfl) ?_
          dsimp only [List.dropLast]
          repeat (go_big_quiet_step (fail))
          refine wpQuiet_nil ?_
          intro nq
          have H1 := hide (unhide HST (wr.drewN nq) (x + 1) (grown_drewN (World.grownBy.refl _ _) nq))
          have hxx : ((x + 1 : Nat) : Int) = (x : Int) + 1 := by omega
          rw [hxx] at H1
          obtain ⟨O1, HO1⟩ : ∃ O1 : List Nat, Hid (List.replicate i 0 ++ (x + 1) :: r = O1) := ⟨List.replicate i 0 ++ (x + 1) :: r, Eq.refl _⟩
          rw [unhide HO1] at H1 HEND2 HOL0'
          have HOL : Hid (O1.length ≤ 2000000) := by have := unhide HOL0'; unfold Hid; omega
          obtain ⟨W1, HW1⟩ : ∃ W1, Hid ((wr.drewN nq).setCell ⟨g, m, none⟩ (.int .u8 ((x : Int) + 1)) = W1) := ⟨_, rfl⟩
          rw [unhide HW1] at H1
          clear HST how hout HC HEND k0 k1 k2 k3
          have HEND := HEND2
          clear HEND2
          go_simp
          rw [unhide HW1]
          obtain ⟨k0, k1, k2, k3, _⟩ := (unhide H1).cells
          have HSZ : Hid (B.heap.size ≤ W1.heap.size) := (unhide H1).lk.grown.size
          have HFIN : Hid (∀ g9 c9 w', w'.ownsRow B.heap.size 5 1 (.slice (some ⟨g9, 0, none⟩) ((O1).length + 1) c9) ((O1).length + 1) (bCells (t :: O1)) → W1.grownBy w' (Value.slice (some ⟨g, 0, none⟩) n uc).ownBlock → ((Value.slice (some ⟨g, 0, none⟩) n uc).ownBlock = some g9 ∨ W1.heap.size ≤ g9) → Ow B xb ob (w'.setCell ⟨ob, 3, none⟩ (.slice (some ⟨g9, 0, none⟩) ((O1).length + 1) c9)) v (.slice (some ⟨g9, 0, none⟩) ((O1).length + 1) c9) P ⟨low, rang, t :: O1⟩) := fun g9 c9 w' o1 g1 hat => (unhide H1).add rfl o1 g1 hat
          have HOWN : Hid (W1.ownsRow B.heap.size 5 1 (.slice (some ⟨g, 0, none⟩) n uc) (O1).length (bCells (O1))) := (unhide H1).own
          go_wp2_with (at_builtin; refine append_by rfl _ _ rfl B.heap.size (.slice (some ⟨g, 0, none⟩) n uc) (O1) rfl (unhide HOWN) t rfl (unhide HOL) (unhide HSZ) ?_)
          intro g7 c7 w7 o7 g7w hat7
          have HO7 := hide (unhide HFIN g7 c7 w7 o7 g7w hat7)
          have hob : (Value.slice (some ⟨g, 0, none⟩) n uc).ownBlock ≠ some ob := (unhide H1).n3
          have b7 := grown_atC g7w (unhide H1).box hob
          have m1 : w7.cell? ⟨ob, 3, none⟩ = some (.slice (some ⟨g, 0, none⟩) n uc) := by rw [cell_of_row w7 ob 3 _ _ (0, 0) b7]; rfl
          have m2 : w7.frozen? ⟨ob, 3, none⟩ = false := frozen_of_row w7 ob 3 _ _ b7
          have m3 : w7.cell? ⟨ob, 1, none⟩ = some (.int .i64 (low : Int)) := by rw [cell_of_row w7 ob 1 _ _ (0, 0) b7]; rfl
          have m4 : w7.frozen? ⟨ob, 1, none⟩ = false := frozen_of_row w7 ob 1 _ _ b7
          have HO8 := hide ((unhide HO7).set1 lw)
          obtain ⟨ol, HOLN⟩ : ∃ ol, Hid ((O1).length + 1 = ol) := ⟨_, rfl⟩
          rw [unhide HOLN] at HO8 ⊢
          clear o7 g7w hat7 b7 hob HFIN HOWN HO7 k0 k1 k2 k3
          go_wp2
          exact bodyPost_end (v := .tuple #[]) (by simp [results, Try.results58, go_sem]) rfl ⟨rfl, _, by rw [unhide HEND]; exact unhide HO8⟩
  · have hd : decide ((255 : Int) < (T : Int)) = false := decide_eq_false (by omega)
    have eu : IntKind.u8.wrap (T : Int) = (T : Int) := IntWalk.u8_in _ (by omega)
    have HEND : Hid (layN ⟨low, rang, out⟩ = ⟨lw, rang, T :: out⟩) := by unfold Hid; rw [unhide HL, if_neg hc, if_neg hc]
    have HOL : Hid (out.length ≤ 2000000) := by have := unhide HN; unfold Hid; omega
    go_enter Try.func58, Try.ntmps58
    obtain ⟨k0, k1, k2, k3, _⟩ := (unhide HOW).cells
    have HSZ : Hid (B.heap.size ≤ w.heap.size) := (unhide HOW).lk.grown.size
    have HFIN : Hid (∀ g9 c9 w', w'.ownsRow B.heap.size 5 1 (.slice (some ⟨g9, 0, none⟩) ((out).length + 1) c9) ((out).length + 1) (bCells (T :: out)) → w.grownBy w' (Value.slice uo n uc).ownBlock → ((Value.slice uo n uc).ownBlock = some g9 ∨ w.heap.size ≤ g9) → Ow B xb ob (w'.setCell ⟨ob, 3, none⟩ (.slice (some ⟨g9, 0, none⟩) ((out).length + 1) c9)) v (.slice (some ⟨g9, 0, none⟩) ((out).length + 1) c9) P ⟨low, rang, T :: out⟩) := fun g9 c9 w' o1 g1 hat => (unhide HOW).add rfl o1 g1 hat
    have HOWN : Hid (w.ownsRow B.heap.size 5 1 (.slice uo n uc) (out).length (bCells (out))) := (unhide HOW).own
    go_wp2_with (at_builtin; refine append_by rfl _ _ rfl B.heap.size (.slice uo n uc) (out) rfl (unhide HOWN) T rfl (unhide HOL) (unhide HSZ) ?_)
    intro g7 c7 w7 o7 g7w hat7
    have HO7 := hide (unhide HFIN g7 c7 w7 o7 g7w hat7)
    have hob : (Value.slice uo n uc).ownBlock ≠ some ob := (unhide HOW).n3
    have b7 := grown_atC g7w (unhide HOW).box hob
    have m1 : w7.cell? ⟨ob, 3, none⟩ = some (.slice uo n uc) := by rw [cell_of_row w7 ob 3 _ _ (0, 0) b7]; rfl
    have m2 : w7.frozen? ⟨ob, 3, none⟩ = false := frozen_of_row w7 ob 3 _ _ b7
    have m3 : w7.cell? ⟨ob, 1, none⟩ = some (.int .i64 (low : Int)) := by rw [cell_of_row w7 ob 1 _ _ (0, 0) b7]; rfl
    have m4 : w7.frozen? ⟨ob, 1, none⟩ = false := frozen_of_row w7 ob 1 _ _ b7
    have HO8 := hide ((unhide HO7).set1 lw)
    obtain ⟨ol, HOLN⟩ : ∃ ol, Hid ((out).length + 1 = ol) := ⟨_, rfl⟩
    rw [unhide HOLN] at HO8 ⊢
    clear o7 g7w hat7 b7 hob HFIN HOWN HO7 k0 k1 k2 k3
    go_wp2
    exact bodyPost_end (v := .tuple #[]) (by simp [results, Try.results58, go_sem]) rfl ⟨rfl, _, by rw [unhide HEND]; exact unhide HO8⟩

end Go.Proofs.Ytemfonnkaddmfaa
