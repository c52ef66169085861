/-
  The bit coder of the program: a byte is laid, a bit is put.
-/
import Derived.Test.YtekidfkahpaokaaEncImpl
namespace Go.Proofs.Ytekidfkahpaokaa
open Go.RowKit

theorem lay_split {s : En} (h : OkL s) (hc : 255 < s.low / 16777216) : ∃ i x r, s.out = List.replicate i 255 ++ x :: r ∧ x < 255 := by
  obtain ⟨h1, h2, h3⟩ := h
  refine room_split s.out h2 ?_
  unfold En.V at h3
  have : (valR s.out + 1) * 4294967296 < 256 ^ s.out.length * 4294967296 := by omega
  exact Nat.lt_of_mul_lt_mul_right this

set_option maxRecDepth 20000 in
set_option maxHeartbeats 3200000 in
theorem implLay {B w : World} {ob : Nat} {u : Value} {P : List Nat} {s : En} (h : Ce B ob w u P s) (hok : OkL s) (hlen : s.out.length ≤ 1000000) :
    Calls Try.prog 69 #[.pointer (some ⟨ob, 0, none⟩)] w fun e w' => e = .returned (.tuple #[]) ∧ ∃ u', Ce B ob w' u' P (layN s) := by
  have HSP := hide (fun hc => lay_split hok hc)
  have hl := hok.low
  obtain ⟨low, rang, out⟩ := s
  dsimp only at hl hlen h HSP
  have k1 := h.cells.2.1
  dsimp only at k1
  obtain ⟨T, hT⟩ : ∃ T, low / 16777216 = T := ⟨_, rfl⟩
  have e0 : (low : Int).tdiv 16777216 = (T : Int) := by rw [← hT]; exact tdivN low 16777216
  have e1 : (low : Int).tmod 16777216 = ((low % 16777216 : Nat) : Int) := tmodN low 16777216
  obtain ⟨md, hmd⟩ : ∃ md, low % 16777216 = md := ⟨_, rfl⟩
  rw [hmd] at e1
  obtain ⟨lw, hlw⟩ : ∃ lw, md * 256 = lw := ⟨_, rfl⟩
  have e2 := i64_in (T : Int) (by omega)
  have e3 := i64_in (md : Int) (by omega)
  have e4 := i64_in ((md : Int) * 256) (by omega)
  have e5 : (md : Int) * 256 = (lw : Int) := by omega
  rw [e5] at e4
  have HL : Hid (layN ⟨low, rang, out⟩ = ⟨lw, rang, (if 255 < T then T - 256 else T) :: (if 255 < T then carryR out else out)⟩) := by
    unfold Hid layN
    dsimp only
    rw [hT, hmd, hlw]
  have HLEN : Hid (out.length ≤ 1000000) := hlen
  have HOW := hide h
  rw [hT] at HSP
  clear h hok hlen
  by_cases hc : 255 < T
  · have hd : decide ((256 : Int) ≤ (T : Int)) = true := decide_eq_true (by omega)
    have e6 := i64_in ((T : Int) - 256) (by omega)
    obtain ⟨t, ht⟩ : ∃ t, T - 256 = t := ⟨_, rfl⟩
    have e7 : (T : Int) - 256 = (t : Int) := by omega
    rw [e7] at e6
    have eu : IntKind.u8.wrap (t : Int) = (t : Int) := IntWalk.u8_in _ (by omega)
    have HEND : Hid (layN ⟨low, rang, out⟩ = ⟨lw, rang, t :: carryR out⟩) := by unfold Hid; rw [unhide HL, if_pos hc, if_pos hc, ht]
    obtain ⟨i0, x, r, ho, hx⟩ := unhide HSP hc
    have HCA := hide (implCarry (unhide HOW) i0 x r ho hx (by have := unhide HLEN; dsimp only; omega))
    dsimp only at HCA
    have HO1L : Hid ((carryR out).length ≤ 1000000) := by unfold Hid; rw [carryR_len]; exact unhide HLEN
    obtain ⟨O1, HO1⟩ : ∃ O1, Hid (carryR out = O1) := ⟨_, rfl⟩
    rw [unhide HO1] at HCA HEND HO1L
    clear ho HSP
    go_enter Try.func69, Try.ntmps69
    go_wp2_with fail
    refine (unhide HCA).mono ?_
    rintro e w1 ⟨rfl, hw1⟩
    obtain ⟨uo, uc, rfl⟩ := own_form hw1.own
    dsimp only at hw1
    have HW1 := hide hw1
    have k2 := hw1.cells.2.2
    have HSZ : Hid (B.heap.size ≤ w1.heap.size) := hw1.grown.size
    have HOWN : Hid (w1.ownsRow B.heap.size 5 1 (.slice uo O1.length uc) O1.length (bCells O1)) := hw1.own
    have HOL : Hid (O1.length ≤ 2000000) := by have := unhide HO1L; unfold Hid; omega
    clear hw1 HCA HOW k1
    go_wp2_with (at_builtin; refine append_by rfl _ _ rfl B.heap.size (.slice uo O1.length uc) O1 rfl (unhide HOWN) t rfl (unhide HOL) (unhide HSZ) ?_)
    intro g7 c7 w7 o7 g7w hat7
    have HO7 := hide ((unhide HW1).add rfl o7 g7w hat7)
    have hk7 := (unhide HW1).co.kept g7w (unhide HW1).ne
    have m1 : w7.cell? ⟨ob, 402, none⟩ = some (.slice uo O1.length uc) := hk7.cT 1
    have m2 := hk7.fz 402
    have m3 : w7.cell? ⟨ob, 401, none⟩ = some (.int .i64 (low : Int)) := hk7.cT 0
    have m4 := hk7.fz 401
    have HO8 := hide ((unhide HO7).setL lw)
    obtain ⟨ol, HOLN⟩ : ∃ ol, Hid (O1.length + 1 = ol) := ⟨_, rfl⟩
    dsimp only at HO8
    rw [unhide HOLN] at HO8 ⊢
    clear o7 g7w hat7 hk7 HOWN HO7 k2 HW1
    go_wp2
    exact bodyPost_end (v := .tuple #[]) (by simp [results, Try.results69, go_sem]) rfl ⟨rfl, _, by rw [unhide HEND]; exact unhide HO8⟩
  · have hd : decide ((256 : Int) ≤ (T : Int)) = false := decide_eq_false (by omega)
    have eu : IntKind.u8.wrap (T : Int) = (T : Int) := IntWalk.u8_in _ (by omega)
    have HEND : Hid (layN ⟨low, rang, out⟩ = ⟨lw, rang, T :: out⟩) := by unfold Hid; rw [unhide HL, if_neg hc, if_neg hc]
    obtain ⟨uo, uc, rfl⟩ := own_form (unhide HOW).own
    dsimp only at HOW
    have k2 := (unhide HOW).cells.2.2
    have HSZ : Hid (B.heap.size ≤ w.heap.size) := (unhide HOW).grown.size
    have HOWN : Hid (w.ownsRow B.heap.size 5 1 (.slice uo out.length uc) out.length (bCells out)) := (unhide HOW).own
    have HOL : Hid (out.length ≤ 2000000) := by have := unhide HLEN; unfold Hid; omega
    clear HSP
    go_enter Try.func69, Try.ntmps69
    go_wp2_with (at_builtin; refine append_by rfl _ _ rfl B.heap.size (.slice uo out.length uc) out rfl (unhide HOWN) T rfl (unhide HOL) (unhide HSZ) ?_)
    intro g7 c7 w7 o7 g7w hat7
    have HO7 := hide ((unhide HOW).add rfl o7 g7w hat7)
    have hk7 := (unhide HOW).co.kept g7w (unhide HOW).ne
    have m1 : w7.cell? ⟨ob, 402, none⟩ = some (.slice uo out.length uc) := hk7.cT 1
    have m2 := hk7.fz 402
    have m3 : w7.cell? ⟨ob, 401, none⟩ = some (.int .i64 (low : Int)) := hk7.cT 0
    have m4 := hk7.fz 401
    have HO8 := hide ((unhide HO7).setL lw)
    obtain ⟨ol, HOLN⟩ : ∃ ol, Hid (out.length + 1 = ol) := ⟨_, rfl⟩
    dsimp only at HO8
    rw [unhide HOLN] at HO8 ⊢
    clear o7 g7w hat7 hk7 HOWN HO7 k1 k2 HOW
    go_wp2
    exact bodyPost_end (v := .tuple #[]) (by simp [results, Try.results69, go_sem]) rfl ⟨rfl, _, by rw [unhide HEND]; exact unhide HO8⟩

end Go.Proofs.Ytekidfkahpaokaa
