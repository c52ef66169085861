/-
  CutBlocks, in the specification.
-/
import Derived.Test.YtkefpjbdkhifhaaSampSpec
import Derived.Test.YtkefpjbdkhifhaaSampLaid
import Derived.Test.YtkefpjbdkhifhaaTonePure
import Derived.Test.YtkefpjbdkhifhaaDeepR2
import Derived.Test.YtkefpjbdkhifhaaDeepA
namespace Go.Proofs.Ytkefpjbdkhifhaa
open Go.RowKit

def cutG (L : List Int) (w h : Int) : List (List Int) := if planeB L w h && decide (w % 8 = 0) && decide (h % 8 = 0) then cutL L w.toNat h.toNat else []
def cutF (L : List Int) (w j : Nat) : List Int := (List.range 64).map fun i => L.getD ((8 * (j / (w / 8)) + i / 8) * w + 8 * (j % (w / 8)) + i % 8) 0
theorem cutF_len (L : List Int) (w j : Nat) : (cutF L w j).length = 64 := by simp [cutF]
theorem cutL_take (L : List Int) (w h c : Nat) (hc : c < h / 8 * (w / 8)) : (cutL L w h).take c ++ [cutF L w c] = (cutL L w h).take (c + 1) := by
  have hl : c < (cutL L w h).length := by simp [cutL]; exact hc
  rw [List.take_succ_eq_append_getElem hl]
  simp [cutL, cutF]
theorem cutF_take (L : List Int) (w j i : Nat) (hi : i < 64) (z : Int) (hz : L.getD ((8 * (j / (w / 8)) + i / 8) * w + 8 * (j % (w / 8)) + i % 8) 0 = z) : (cutF L w j).take i ++ [z] = (cutF L w j).take (i + 1) := by
  have hl : i < (cutF L w j).length := by rw [cutF_len]; exact hi
  rw [List.take_succ_eq_append_getElem hl, ← hz]
  simp [cutF]
theorem own_lit0 (W : World) (base : Nat) (hb : base ≤ W.heap.size) (e : TypeId) : (W.alloc (.cells #[] e)).ownsRow base e 1 (.slice (some ⟨W.heap.size, 0, none⟩) 0 0) 0 [] :=
  own_base (World.ownsRow_lit W #[] 0 (Nat.le_refl _) (by unfold maxLen; omega) rfl) hb
theorem OwR.none16 {α : Type} {e : TypeId} (P : World → Value → α → List Nat → Prop) {w : World} {v : Value} {base : Nat} (h : w.ownsRow base e 1 v 0 []) : OwR e P w v [] (blk v) :=
  ⟨[], [], rfl, rfl, own_base h (Nat.zero_le _), fun i hi => absurd hi (by simp), by simp⟩
theorem blk_once (v : Value) : (blk v).Nodup := by unfold blk; cases v.ownBlock <;> simp
theorem OwR.head16 {α : Type} {e : TypeId} {P : World → Value → α → List Nat → Prop} {w : World} {v : Value} {L : List α} {F : List Nat} (h : OwR e P w v L F) : ∀ x ∈ blk v, x ∈ F := by
  obtain ⟨us, Fs, _, _, _, _, rfl⟩ := h
  intro x hx
  simp [hx]

set_option maxRecDepth 20000 in
set_option maxHeartbeats 6400000 in
theorem specCutBlocks (ao : Option Addr) (n cap : Nat) (zs : List Int) (w h : Int) (W : World) (hr : Rd .i64 W ao n zs) (hn : n ≤ 9223372036854775807) (L : List (List Int)) (HL : Hid (cutG zs w h = L)) :
    Calls Try.prog 24 #[.slice ao n cap, .int .i64 w, .int .i64 h] W fun e W' => (∃ v F, e = .returned v ∧ Ow2 W' v L F ∧ F.Nodup ∧ ∀ x ∈ F, W.heap.size ≤ x) ∧ W.grownBy W' none := by
  have HO0 : Hid ((W.alloc (.cells #[] 24)).ownsRow W.heap.size 24 1 (.slice (some ⟨W.heap.size, 0, none⟩) 0 0) 0 []) := own_lit0 W _ (Nat.le_refl _) _
  have HR0 := hide hr
  have HR := hide (hr.grown (World.grownBy_alloc W (.cells #[] 24) none))
  have HN := hide hr.1
  clear hr
  obtain ⟨pb, HP⟩ : ∃ y, Hid (planeB zs w h = y) := ⟨_, rfl⟩
  go_enter Try.func24, Try.ntmps24
  go_wp2_with fail
  refine (specPlaneOk ao n cap zs w h _ (unhide HR) hn pb HP).mono ?_
  rintro e w1 ⟨rfl, g1⟩
  have HGW : Hid (W.grownBy w1 none) := grown_trans (World.grownBy_alloc _ _ _) g1
  have ho := own_grown (unhide HO0) g1
  have HOW : Hid (Ow2 w1 (.slice (some ⟨W.heap.size, 0, none⟩) 0 0) [] (blk (.slice (some ⟨W.heap.size, 0, none⟩) 0 0))) := OwR.none16 _ ho
  have HLO : Hid (∀ x ∈ blk (.slice (some ⟨W.heap.size, 0, none⟩) 0 0), W.heap.size ≤ x) := fun x hx => (ho.lt x (mem_blk.1 hx)).1
  clear g1 HO0 HR ho
  cases pb with
  | false =>
    obtain rfl : L = [] := by rw [← unhide HL, cutG, unhide HP]; rfl
    go_wp2
    go_ret
    exact ⟨⟨_, _, rfl, unhide HOW, blk_once _, unhide HLO⟩, unhide HGW⟩
  | true =>
    have hpl := plane_of (unhide HP)
    have e1 : w.tmod 8 = w % 8 := Int.tmod_eq_emod_of_nonneg (by omega)
    have e2 : h.tmod 8 = h % 8 := Int.tmod_eq_emod_of_nonneg (by omega)
    have v1 := i64_in (w % 8) (by omega)
    have v2 := i64_in (h % 8) (by omega)
    by_cases h1 : ¬ w % 8 = 0
    · obtain rfl : L = [] := by rw [← unhide HL, cutG, decide_eq_false h1]; simp
      have d1 : (w % 8 != 0) = true := by simpa using h1
      go_wp2
      go_ret
      exact ⟨⟨_, _, rfl, unhide HOW, blk_once _, unhide HLO⟩, unhide HGW⟩
    have h1' : w % 8 = 0 := by omega
    have d1 : (w % 8 != 0) = false := by simp [h1']
    by_cases h2 : ¬ h % 8 = 0
    · obtain rfl : L = [] := by rw [← unhide HL, cutG, decide_eq_false h2]; simp
      have d2 : (h % 8 != 0) = true := by simpa using h2
      clear h1 h1'
      go_wp2
      go_ret
      exact ⟨⟨_, _, rfl, unhide HOW, blk_once _, unhide HLO⟩, unhide HGW⟩
    have h2' : h % 8 = 0 := by omega
    have d2 : (h % 8 != 0) = false := by simp [h2']
    obtain ⟨wN, rfl⟩ : ∃ k : Nat, w = (k : Int) := ⟨w.toNat, by omega⟩
    obtain ⟨hN, rfl⟩ : ∃ k : Nat, h = (k : Int) := ⟨h.toNat, by omega⟩
    obtain ⟨bw, HBW⟩ : ∃ k : Nat, Hid (wN / 8 = k) := ⟨_, rfl⟩
    obtain ⟨bh, HBH⟩ : ∃ k : Nat, Hid (hN / 8 = k) := ⟨_, rfl⟩
    have HLG : Hid (cutL zs wN hN = L) := by
      unfold Hid
      rw [← unhide HL, cutG, unhide HP, decide_eq_true h1', decide_eq_true h2']
      rfl
    have hlen : zs.length = wN * hN := by have := hpl.2.2.1; exact_mod_cast this
    have HLL : Hid (L.length = bh * bw) := by unfold Hid; rw [← unhide HLG, ← unhide HBW, ← unhide HBH]; simp [cutL]
    have hb1 : wN ≤ 1024 ∧ hN ≤ 1024 ∧ 1 ≤ wN ∧ 1 ≤ hN ∧ wN = 8 * bw ∧ hN = 8 * bh := by have := unhide HBW; have := unhide HBH; omega
    have HEQ := hide hb1
    have hbb : bw ≤ 128 ∧ bh ≤ 128 ∧ 1 ≤ bw ∧ 1 ≤ bh := by omega
    have HBD : Hid (bh * bw ≤ 131072) := by
      have : bh * bw ≤ 128 * 128 := Nat.mul_le_mul hbb.2.1 hbb.1
      unfold Hid; omega
    have f1 : (wN : Int).tdiv 8 = (bw : Int) := by rw [Int.tdiv_eq_ediv_of_nonneg (by omega)]; have := unhide HBW; omega
    have f2 : (hN : Int).tdiv 8 = (bh : Int) := by rw [Int.tdiv_eq_ediv_of_nonneg (by omega)]; have := unhide HBH; omega
    have f3 := i64_in (bw : Int) (by omega)
    have f4 := i64_in (bh : Int) (by omega)
    have HRA : Hid (Rd .i64 W ao n zs) := HR0
    have hpos : 0 < n := by
      have h3 := unhide HN
      have h4 : 0 < wN * hN := Nat.mul_pos (by omega) (by omega)
      omega
    obtain ⟨bb, off, rfl, _⟩ := (unhide HRA).2 0 hpos
    have HLEN := hide hlen
    clear hpl hlen HP HL hpos h1 h2 h1' h2' hb1
    go_wp2
    go_loopw [7, 8] (fun ov yv wr => ∃ (y c : Nat) (vo : Option Addr) (vn vc : Nat) (F : List Nat), y ≤ bh ∧ ov = .slice vo vn vc ∧ yv = .int .i64 y ∧ Hid (y * bw = c) ∧ Hid (Ow2 wr (.slice vo vn vc) (L.take c) F) ∧ Hid F.Nodup ∧ Hid (∀ x ∈ F, W.heap.size ≤ x) ∧ Hid (W.grownBy wr none)) (fun _ yv _ => bh - (intOf yv).toNat)
    case atStart => exact ⟨0, 0, _, _, _, _, by omega, rfl, by go_num, by simp [Hid], HOW, blk_once _, HLO, HGW⟩
    case round =>
      clear HOW HLO HGW
      obtain ⟨y, c0, vo, vn, vc, F0, hy, rfl, rfl, HC0, HOV, HFN, HFL, HGV⟩ := hrel
      by_cases hyl : y < bh
      · have hyI : (y : Int) < (bh : Int) := by omega
        have y1 := i64_in ((y : Int) + 1) (by omega)
        go_wp2
        go_loopw [7, 9] (fun ov xv wr => ∃ (x c : Nat) (vo : Option Addr) (vn vc : Nat) (F : List Nat), x ≤ bw ∧ ov = .slice vo vn vc ∧ xv = .int .i64 x ∧ Hid (y * bw + x = c) ∧ Hid (Ow2 wr (.slice vo vn vc) (L.take c) F) ∧ Hid F.Nodup ∧ Hid (∀ x ∈ F, W.heap.size ≤ x) ∧ Hid (W.grownBy wr none)) (fun _ xv _ => bw - (intOf xv).toNat)
        case atStart => exact ⟨0, c0, _, _, _, _, by omega, rfl, by go_num, HC0, HOV, HFN, HFL, HGV⟩
        case round =>
          clear HOV HFN HFL HGV HC0
          obtain ⟨x, c, vo, vn, vc, F, hx, rfl, rfl, HC, HOV, HFN, HFL, HGV⟩ := hrel
          by_cases hxl : x < bw
          · have hxI : (x : Int) < (bw : Int) := by omega
            have x1 := i64_in ((x : Int) + 1) (by omega)
            have hcl : c < bh * bw := by
              rw [← unhide HC]
              have := row_end (w := bw) hyl
              omega
            have HCD : Hid (c / bw = y ∧ c % bw = x) := by
              refine ⟨?_, ?_⟩
              · rw [← unhide HC, Nat.add_comm, Nat.add_mul_div_right _ _ (by omega), Nat.div_eq_of_lt hxl, Nat.zero_add]
              · rw [← unhide HC, Nat.add_comm, Nat.add_mul_mod_self_right, Nat.mod_eq_of_lt hxl]
            obtain ⟨B, HB⟩ : ∃ B, Hid (cutF zs wN c = B) := ⟨_, rfl⟩
            have HNX : Hid (L.take c ++ [B] = L.take (c + 1)) := by
              unfold Hid
              rw [← unhide HLG, ← unhide HB]
              exact cutL_take zs wN hN c (by rw [unhide HBW, unhide HBH]; exact hcl)
            have HCB : Hid ((L.take c).length ≤ 1000000) := by unfold Hid; rw [List.length_take, unhide HLL]; have := unhide HBD; omega
            obtain ⟨wb, HWB⟩ : ∃ wb, Hid (wb = wr) := ⟨_, rfl⟩
            have HOB : Hid ((wr.alloc (.cells #[] 3)).ownsRow wb.heap.size 3 1 (.slice (some ⟨wr.heap.size, 0, none⟩) 0 0) 0 ((B.take 0).map (Value.int .i64))) := by
              rw [unhide HWB]
              exact own_lit0 wr _ (Nat.le_refl _) _
            have HGB : Hid (wb.grownBy (wr.alloc (.cells #[] 3)) none) := by rw [unhide HWB]; exact World.grownBy_alloc _ _ _
            rw [← unhide HWB] at HOV HGV
            clear HWB
            go_wp2
            go_loopw [10, 11] (fun bv iv wr => ∃ (i : Nat), i ≤ 64 ∧ iv = .int .i64 i ∧ Hid (wr.ownsRow wb.heap.size 3 1 bv i ((B.take i).map (Value.int .i64))) ∧ Hid (wb.grownBy wr none)) (fun _ iv _ => 64 - (intOf iv).toNat)
            case atStart => exact ⟨0, by omega, by go_num, HOB, HGB⟩
            case round =>
              clear HOB HGB
              obtain ⟨i, hi, rfl, HOI, HGI⟩ := hrel
              by_cases hil : i < 64
              · have hiI : (i : Int) < 64 := by omega
                have hid : decide ((i : Int) < 64) = true := decide_eq_true hiI
                have i1 := i64_in ((i : Int) + 1) (by omega)
                obtain ⟨id8, HID⟩ : ∃ k : Nat, Hid (i / 8 = k) := ⟨_, rfl⟩
                obtain ⟨im8, HIM⟩ : ∃ k : Nat, Hid (i % 8 = k) := ⟨_, rfl⟩
                have hid8 : id8 < 8 := by have := unhide HID; omega
                have him8 : im8 < 8 := by have := unhide HIM; omega
                have q1 : (i : Int).tdiv 8 = (id8 : Int) := by rw [Int.tdiv_eq_ediv_of_nonneg (by omega)]; have := unhide HID; omega
                have q2 : (i : Int).tmod 8 = (im8 : Int) := by rw [Int.tmod_eq_emod_of_nonneg (by omega)]; have := unhide HIM; omega
                have q3 := i64_in (id8 : Int) (by omega)
                have q4 := i64_in (im8 : Int) (by omega)
                have q5 := i64_in (8 * (y : Int)) (by omega)
                have q6 := i64_in (8 * (y : Int) + (id8 : Int)) (by omega)
                obtain ⟨m1, HM1⟩ : ∃ k : Nat, Hid ((8 * y + id8) * wN = k) := ⟨_, rfl⟩
                have hro : 8 * y + id8 < hN := by have := unhide HEQ; omega
                have hre := row_end (w := wN) hro
                rw [unhide HM1, Nat.mul_comm hN wN] at hre
                have hwh : wN * hN ≤ 1048576 := Nat.mul_le_mul (show wN ≤ 1024 by have := unhide HEQ; omega) (show hN ≤ 1024 by have := unhide HEQ; omega)
                have q7 : IntKind.i64.wrap ((8 * (y : Int) + (id8 : Int)) * (wN : Int)) = (m1 : Int) := by
                  have e : (8 * (y : Int) + (id8 : Int)) * (wN : Int) = (m1 : Int) := by have := unhide HM1; exact_mod_cast this
                  rw [e, i64_in _ (by omega)]
                have q8 := i64_in (8 * (x : Int)) (by omega)
                have q9 := i64_in ((m1 : Int) + 8 * (x : Int)) (by omega)
                obtain ⟨ix, HIX⟩ : ∃ k : Nat, Hid (m1 + 8 * x + im8 = k) := ⟨_, rfl⟩
                have q10 : IntKind.i64.wrap ((m1 : Int) + 8 * (x : Int) + (im8 : Int)) = (ix : Int) := by
                  have := unhide HIX
                  rw [i64_in _ (by omega)]
                  omega
                have hixl : ix < n := by
                  have h1 := unhide HN
                  have h2 := unhide HLEN
                  have h3 := unhide HIX
                  have h4 := unhide HEQ
                  omega
                have hc : W.cell? ⟨bb, off + ix, none⟩ = some (.int .i64 (zs.getD ix 0)) := by
                  obtain ⟨b', o', e, hc⟩ := (unhide HRA).2 ix hixl
                  simp only [Option.some.injEq, Addr.mk.injEq, and_true] at e
                  rw [e.1, e.2]
                  exact hc
                have hcell := (unhide HGI).cell ((unhide HGV).cell hc (by simp)) (by simp)
                obtain ⟨z, HZ⟩ : ∃ z, Hid (zs.getD ix 0 = z) := ⟨_, rfl⟩
                rw [unhide HZ] at hcell
                have hixI : (ix : Int) < (n : Int) := by omega
                have HIN : Hid (B.take i ++ [z] = B.take (i + 1)) := by
                  unfold Hid
                  rw [← unhide HB]
                  refine cutF_take zs wN c i hil z ?_
                  rw [unhide HBW, (unhide HCD).1, (unhide HCD).2, unhide HID, unhide HIM, unhide HM1, unhide HIX, unhide HZ]
                have hib : i + 1 ≤ 1000000 := by omega
                clear hc hre hwh hro
                go_wp2_with ((at_builtin; refine append_i16 rfl _ _ rfl wb _ i (B.take i) rfl (unhide HOI) z rfl hib (unhide HGI) ?_; intro v' w' ho hg))
                have HO' := hide ho
                rw [unhide HIN] at HO'
                have HG' := hide hg
                clear ho hg
                go_roundw
                case rel => exact ⟨i + 1, by omega, by go_num, HO', HG'⟩
                case measure => simp [intOf]; omega
              · obtain rfl : i = 64 := by omega
                have hid : decide ((64 : Int) < 64) = false := by decide
                have eB : B.take 64 = B := List.take_of_length_le (by rw [← unhide HB, cutF_len]; exact Nat.le_refl _)
                rw [eB] at HOI
                have HBL : Hid (B.length = 64) := by rw [← unhide HB]; exact cutF_len _ _ _
                obtain ⟨uo, uc, rfl⟩ := own_form (unhide HOI)
                have HU : Hid (OwI .i64 3 wr (.slice uo 64 uc) B (blk (.slice uo 64 uc))) := ⟨by rw [unhide HBL]; exact own_base (unhide HOI) (Nat.zero_le _), rfl⟩
                have HO4 := hide (ok2.keep (unhide HOV) (unhide HGI))
                have HDU : Hid (∀ x ∈ blk (.slice uo 64 uc), x ∉ F ∧ W.heap.size ≤ x) := fun x hx => by
                  have e9 := ((unhide HOI).lt x (mem_blk.1 hx)).1
                  exact ⟨fun h => by have := ok2.lt _ _ _ _ (unhide HOV) x h; omega, by have := (unhide HGV).size; omega⟩
                have HG4 := hide (grown_trans (unhide HGV) (unhide HGI))
                clear HOI HOV eB HGI HGV
                go_wp2_with (at_builtin; refine append_rowR ok1 Try.underlying33 infoIntSS rfl _ _ rfl (.slice vo vn vc) (L.take c) F rfl (unhide HO4) (unhide HFN) _ B _ (unhide HU) (blk_once _) (fun x hx => (unhide HDU x hx).1) rfl (unhide HCB) _ (unhide HNX) ?_)
                intro v5 w5 F5 o5 n5 m5 g5
                obtain ⟨vo5, vc5, rfl⟩ := o5.form
                have HO5 := hide o5
                have HN5 := hide n5
                have HL5 : Hid (∀ x ∈ F5, W.heap.size ≤ x) := fun x hx => by
                  rcases m5 x hx with h | h | h
                  · exact unhide HFL x h
                  · exact (unhide HDU x h).2
                  · have := (unhide HG4).size; omega
                have G5 := hide (Wr.new (unhide HG4) g5 (fun x hx => unhide HFL x ((unhide HO4).head16 x hx)))
                clear o5 n5 m5 g5 HO4 HU HDU HFN HFL HCB HG4
                go_wp2
                go_roundw
                case rel => exact ⟨x + 1, c + 1, vo5, _, vc5, F5, by omega, rfl, by go_num, by unfold Hid; rw [← unhide HC]; omega, HO5, HN5, HL5, G5⟩
                case measure => simp [intOf]; omega
          · obtain rfl : bw = x := by omega
            have hxd : decide ((bw : Int) < (bw : Int)) = false := decide_eq_false (by omega)
            have HC' : Hid ((y + 1) * bw = c) := by unfold Hid; rw [← unhide HC, Nat.add_mul, Nat.one_mul]
            go_wp2
            go_roundw
            case rel => exact ⟨y + 1, c, _, _, _, _, by omega, rfl, by go_num, HC', HOV, HFN, HFL, HGV⟩
            case measure => simp [intOf]; omega
      · obtain rfl : bh = y := by omega
        have hyd : decide ((bh : Int) < (bh : Int)) = false := decide_eq_false (by omega)
        have HCL : Hid (c0 = L.length) := by unfold Hid; rw [unhide HLL, ← unhide HC0]
        rw [unhide HCL, List.take_length] at HOV
        go_wp2
        go_ret
        exact ⟨⟨_, _, rfl, unhide HOV, unhide HFN, unhide HFL⟩, unhide HGV⟩

end Go.Proofs.Ytkefpjbdkhifhaa
