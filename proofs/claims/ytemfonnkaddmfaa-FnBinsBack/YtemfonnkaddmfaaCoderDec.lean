/-
  DecodeBins in the specification.
-/
import Derived.Test.YtemfonnkaddmfaaCoderBit
import Derived.Test.YtemfonnkaddmfaaCoderEnc2
import Derived.Test.YtemfonnkaddmfaaRowsK
namespace Go.Proofs.Ytemfonnkaddmfaa
open Go.RowKit

def ctxB (x : Int) : Bool := decide (0 ≤ x ∧ x ≤ 399)
def ctxsB (cs : List Int) : Bool := decide (cs.length ≤ 200000) && cs.all ctxB
def ctxsN (cs : List Int) : List Nat := cs.map Int.toNat
def decN (bz cs : List Int) : List Nat := bitsD (byteS bz) like0 ⟨prefV (byteS bz) 4, 4294967295, 4⟩ (ctxsN cs)
def decG (bz cs : List Int) : List Int := if ctxsB cs then (decN bz cs).map (fun x : Nat => (x : Int)) else []
theorem pCells_ints (O : List Nat) : pCells O = (O.map (fun x : Nat => (x : Int))).map (Value.int .i64) := by simp [pCells]
theorem all_takeC {f : Int → Bool} {xs : List Int} {k : Nat} (hk : k < xs.length) : (xs.take (k + 1)).all f = ((xs.take k).all f && f (xs.getD k 0)) := by
  rw [List.take_succ_eq_append_getElem hk, List.all_append]
  simp [hk]
theorem all_noC {f : Int → Bool} {xs : List Int} {k : Nat} (hk : k < xs.length) (h : f (xs.getD k 0) = false) : xs.all f = false := by
  cases hx : xs.all f with
  | false => rfl
  | true =>
    have e : xs.getD k 0 = xs[k] := by simp [hk]
    rw [e, List.all_eq_true.1 hx _ (List.getElem_mem hk)] at h
    exact h
theorem all_ctxs {cs : List Int} (h : cs.all ctxB = true) (i : Nat) (hi : i < cs.length) : 0 ≤ cs.getD i 0 ∧ cs.getD i 0 ≤ 399 := by
  have e : cs.getD i 0 = cs[i] := by simp [hi]
  have h1 := List.all_eq_true.1 h _ (List.getElem_mem hi)
  rw [← e] at h1
  exact of_decide_eq_true h1
theorem ctxs_drop {cs : List Int} {i : Nat} (hi : i < cs.length) : ctxsN (cs.drop i) = (cs.getD i 0).toNat :: ctxsN (cs.drop (i + 1)) := by
  have e : cs.getD i 0 = cs[i] := by simp [hi]
  rw [List.drop_eq_getElem_cons hi, e]
  rfl
theorem startD_ok {bz : List Int} (hb : ∀ i, 0 ≤ bz.getD i 0 ∧ bz.getD i 0 ≤ 255) : OkD ⟨prefV (byteS bz) 4, 4294967295, 4⟩ := ⟨by dsimp only; decide, by dsimp only; decide, by have := pref_bound (byteS_le hb) 4; exact this⟩

/-- The row that is told, beside the reader. -/
structure To (B : World) (xb rb : Nat) (w : World) (v o : Value) (L : List Nat) : Prop where
  own : w.ownsRow B.heap.size 3 1 o L.length (pCells L)
  n1 : o.ownBlock ≠ some xb
  n2 : o.ownBlock ≠ some rb
  n3 : ∀ k, v.ownBlock = some k → o.ownBlock ≠ some k
theorem To.kept {B W w : World} {xb rb : Nat} {v o bs : Value} {L P : List Nat} {s : De} (h : To B xb rb W v o L) (hi : Iw B W xb rb w v bs P s) : To B xb rb w v o L :=
  ⟨own_sameAt h.own (fun g e => hi.fr g (h.own.lt g e).2 (fun e2 => h.n1 (by rw [e, e2])) (fun e2 => h.n2 (by rw [e, e2])) (fun e2 => h.n3 g e2 e)), h.n1, h.n2, h.n3⟩
theorem To.push {B W w w' : World} {xb rb : Nat} {v o bs : Value} {L P : List Nat} {s : De} {g cap n1 x : Nat} (h : To B xb rb w v o L) (hi : Iw B W xb rb w v bs P s) (hn1 : n1 = L.length + 1) (o1 : w'.ownsRow B.heap.size 3 1 (.slice (some ⟨g, 0, none⟩) n1 cap) n1 (pCells (L ++ [x]))) (g1 : w.grownBy w' o.ownBlock) (hat : o.ownBlock = some g ∨ w.heap.size ≤ g) :
    To B xb rb w' v (.slice (some ⟨g, 0, none⟩) n1 cap) (L ++ [x]) ∧ Iw B w' xb rb w' v bs P s := by
  subst hn1
  have hlt : rb < w.heap.size := (Array.getElem?_eq_some_iff.1 hi.box).1
  have hxl := hi.lk.lt
  have e : (L ++ [x]).length = L.length + 1 := by simp
  refine ⟨⟨by rw [e]; exact o1, fun e2 => ?_, fun e2 => ?_, fun k e1 e2 => ?_⟩, hi.aside g1 h.n1 h.n2 (fun k e => h.n3 k e) (fun k e => (h.own.lt k e).1)⟩
  · have e3 : g = xb := Option.some.inj e2
    rcases hat with e4 | e4
    · rw [e3] at e4; exact h.n1 e4
    · omega
  · have e3 : g = rb := Option.some.inj e2
    rcases hat with e4 | e4
    · rw [e3] at e4; exact h.n2 e4
    · omega
  · have e3 : g = k := Option.some.inj e2
    rcases hat with e4 | e4
    · rw [e3] at e4; exact h.n3 k e1 e4
    · have := (hi.lk.own.lt k e1).2; omega
theorem Iw.below {B B0 W w : World} {xb rb : Nat} {v bs : Value} {P : List Nat} {s : De} (h : Iw B W xb rb w v bs P s) (g : B0.grownBy B none) : Iw B0 W xb rb w v bs P s :=
  ⟨⟨own_base h.lk.own g.size, h.lk.box, h.lk.ne, grown_trans g h.lk.grown, Nat.le_trans g.size h.lk.base⟩, h.box, h.n1, h.n4, Nat.le_trans g.size h.base, h.sz, h.fr⟩

set_option maxRecDepth 20000 in
set_option maxHeartbeats 3200000 in
theorem specDecode (bo : Option Addr) (m bc : Nat) (bz : List Int) (ao : Option Addr) (n cap : Nat) (cs : List Int) (w : World) (hz : Rd .u8 w bo m bz) (hb : ∀ i, 0 ≤ bz.getD i 0 ∧ bz.getD i 0 ≤ 255) (hr : Rd .i64 w ao n cs) :
    Calls Try.prog 22 #[.slice bo m bc, .slice ao n cap] w fun e w' => ∃ co cc, e = .returned (.slice co (decG bz cs).length cc) ∧ w'.ownsRow w.heap.size 3 1 (.slice co (decG bz cs).length cc) (decG bz cs).length ((decG bz cs).map (Value.int .i64)) ∧ w.grownBy w' none := by
  have hl := hr.1
  have HR := hide hr
  have HZ := hide hz
  have HB := hide hb
  clear hr hz hb
  obtain ⟨R, HRR⟩ : ∃ R, Hid (decG bz cs = R) := ⟨_, rfl⟩
  rw [unhide HRR]
  have HNIL : Hid (R = [] → (w.alloc (.cells #[] 3)).ownsRow w.heap.size 3 1 (.slice (some ⟨w.heap.size, 0, none⟩) R.length 0) R.length (R.map (Value.int .i64)) ∧ w.grownBy (w.alloc (.cells #[] 3)) none) := fun e => by
    subst e
    exact ⟨World.ownsRow_lit w #[] 0 (Nat.le_refl _) (by unfold maxLen; omega) rfl, World.grownBy_alloc _ _ _⟩
  by_cases hn : n ≤ 200000
  · have hd : decide ((200000 : Int) < (n : Int)) = false := decide_eq_false (by omega)
    have HL := hide hl
    clear hl
    go_enter Try.func22, Try.ntmps22
    go_wp2
    go_loopw [6] (fun iv wr => ∃ i : Nat, i ≤ n ∧ iv = .int .i64 i ∧ Hid ((cs.take i).all ctxB = true) ∧ wr = w.alloc (.cells #[] 3)) (fun iv _ => n - (intOf iv).toNat)
    case atStart => exact ⟨0, Nat.zero_le _, rfl, rfl, rfl⟩
    case round =>
      obtain ⟨i, hi, rfl, ha, rfl⟩ := hrel
      by_cases hlt : i < n
      · obtain ⟨fb, fo, rfl, c0⟩ := ((unhide HR).grown (World.grownBy_alloc w (.cells #[] 3) none)).2 i hlt
        have his : i < cs.length := by rw [unhide HL]; exact hlt
        have hal := all_takeC (f := ctxB) (xs := cs) (k := i) his
        have hno := all_noC (f := ctxB) (xs := cs) (k := i) his
        have hiI : (i : Int) < (n : Int) := by omega
        generalize cs.getD i 0 = p at *
        obtain ⟨b1, HB1⟩ : ∃ b, Hid (decide (0 ≤ p ∧ p ≤ 399) = b) := ⟨_, rfl⟩
        have hbx : ctxB p = b1 := by rw [← unhide HB1]; rfl
        cases b1 with
        | false =>
          have hR0 : R = [] := by
            rw [← unhide HRR, decG, ctxsB, hno hbx, Bool.and_false]; rfl
          have HF := hide (unhide HNIL hR0)
          subst hR0
          clear hal hno hbx ha HNIL
          go_wp2_with fail
          refine (between p 0 399 false HB1 _).mono ?_
          rintro e w1 ⟨rfl, rfl⟩
          go_wp2
          go_ret
          exact ⟨_, _, rfl, (unhide HF).1, (unhide HF).2⟩
        | true =>
          have HA : Hid ((cs.take (i + 1)).all ctxB = true) := by unfold Hid; rw [hal, unhide ha, hbx]; rfl
          clear hal hno hbx ha
          go_wp2_with fail
          refine (between p 0 399 true HB1 _).mono ?_
          rintro e w1 ⟨rfl, rfl⟩
          go_wp2
          go_roundw
          case rel => exact ⟨i + 1, by omega, by go_num, HA, trivial⟩
          case measure => simp [intOf]; omega
      · obtain rfl : i = n := by omega
        have hall : cs.all ctxB = true := by
          have h := unhide ha
          rw [← unhide HL, List.take_length] at h
          exact h
        have HALL := hide hall
        have HRE : Hid (R = (decN bz cs).map (fun x : Nat => (x : Int))) := by
          unfold Hid
          rw [← unhide HRR, decG, ctxsB, hall, unhide HL, decide_eq_true hn]; rfl
        have G0 : w.grownBy (w.alloc (.cells #[] 3)) none := World.grownBy_alloc _ _ _
        have O0 : (w.alloc (.cells #[] 3)).ownsRow w.heap.size 3 1 (.slice (some ⟨w.heap.size, 0, none⟩) 0 0) 0 (pCells []) := World.ownsRow_lit w #[] 0 (Nat.le_refl _) (by unfold maxLen; omega) rfl
        have HO0 := hide O0
        have HZ0 := hide ((unhide HZ).grown G0)
        have HG0 := hide G0
        have hsz : (w.alloc (.cells #[] 3)).heap.size = w.heap.size + 1 := by simp
        have HSZ := hide hsz
        clear ha hall HNIL G0 O0 hsz
        obtain ⟨w0, HW0⟩ : ∃ w0, Hid (w.alloc (.cells #[] 3) = w0) := ⟨_, rfl⟩
        rw [unhide HW0] at HO0 HZ0 HG0 HSZ ⊢
        go_wp2_with fail
        refine (specReader bo m bc bz w0 (unhide HZ0) (unhide HB)).mono ?_
        rintro e w1 ⟨xb, rb, v, rfl, hw1⟩
        have hT1 : To w xb rb w1 v (.slice (some ⟨w.heap.size, 0, none⟩) 0 0) [] := by
          have hs := unhide HSZ
          refine ⟨own_grown (unhide HO0) hw1.lk.grown, fun e => ?_, fun e => ?_, fun k e1 e2 => ?_⟩
          · have e3 : w.heap.size = xb := Option.some.inj e
            have := hw1.lk.base; omega
          · have e3 : w.heap.size = rb := Option.some.inj e
            have := hw1.base; omega
          · have e3 : w.heap.size = k := Option.some.inj e2
            have := (hw1.lk.own.lt k e1).1; omega
        have HI1 := hide (hw1.below (unhide HG0)).here
        have HT1 := hide hT1
        have HBS0 : Hid (decN bz cs = [] ++ bitsD (byteS bz) (fun y => (List.replicate 400 2048).getD y 2048) ⟨prefV (byteS bz) 4, 4294967295, 4⟩ (ctxsN (cs.drop 0))) := by
          unfold Hid decN
          rw [List.drop_zero, List.nil_append]
          congr 1
          funext y
          rw [like_zero]; rfl
        have HOKS := hide (startD_ok (unhide HB))
        obtain ⟨s0, HS0⟩ : ∃ s0 : De, Hid (⟨prefV (byteS bz) 4, 4294967295, 4⟩ = s0) := ⟨_, rfl⟩
        rw [unhide HS0] at HI1 HBS0 HOKS
        have HS4 : Hid (s0.at_ ≤ 4 + 0) := by unfold Hid; rw [← unhide HS0]; exact Nat.le_refl _
        clear hw1 hT1 HO0 HZ0
        go_wp2
        go_loopw [5, 8] (fun ov iv wr => ∃ (k : Nat) (oo : Option Addr) (oc : Nat) (L P : List Nat) (s : De), k ≤ i ∧ ov = .slice oo L.length oc ∧ iv = .int .i64 k ∧ Hid (To w xb rb wr v (.slice oo L.length oc) L) ∧ Hid (Iw w wr xb rb wr v (.slice bo m bc) P s) ∧ Hid (OkD s) ∧ Hid (P.length = 400) ∧ Hid (okPs (fun y => P.getD y 2048)) ∧ Hid (s.at_ ≤ 4 + k) ∧ Hid (L.length = k) ∧ Hid (decN bz cs = L ++ bitsD (byteS bz) (fun y => P.getD y 2048) s (ctxsN (cs.drop k)))) (fun _ iv _ => i - (intOf iv).toNat)
        case atStart => exact ⟨0, some ⟨w.heap.size, 0, none⟩, 0, [], List.replicate 400 2048, s0, Nat.zero_le _, rfl, rfl, HT1, HI1, HOKS, by unfold Hid; simp, fun y => by dsimp only; rw [like_zero]; exact ⟨by decide, by decide⟩, HS4, rfl, HBS0⟩
        case round =>
          clear HI1 HT1 HBS0 HOKS HS4
          obtain ⟨k, oo, oc, L, P, s, hk, rfl, rfl, hto, hiw, hoks, hPl, hoP, hsl, hLk, hbs⟩ := hrel
          by_cases hkn : k < i
          · obtain ⟨fb, fo, rfl, c0⟩ := ((unhide HR).grown (unhide hiw).lk.grown).2 k hkn
            have hks : k < cs.length := by rw [unhide HL]; exact hkn
            have hbb := all_ctxs (unhide HALL) k hks
            have hdr := ctxs_drop hks
            have hkI : (k : Int) < (i : Int) := by omega
            generalize cs.getD k 0 = p at *
            obtain ⟨c, rfl⟩ := Int.eq_ofNat_of_zero_le hbb.1
            rw [Int.toNat_natCast] at hdr
            have hc4 : c < P.length := by rw [unhide hPl]; omega
            have HBC := hide (specBitC bo m bc bz (unhide hiw) (unhide HZ) (unhide HB) (unhide hoks) c hc4 (unhide hoP c) (by have := unhide hsl; omega))
            obtain ⟨q1, q2⟩ := bitD_ok (byteS_le (unhide HB)) (unhide hoks) (unhide hoP c)
            have HOK2 := hide q1
            have HSL2 : Hid ((wideD (byteS bz) (midD s (P.getD c 2048))).at_ ≤ 4 + (k + 1)) := by have := unhide hsl; unfold Hid; dsimp only at q2; omega
            obtain ⟨b, HBT⟩ : ∃ b, Hid (bitD s (P.getD c 2048) = b) := ⟨_, rfl⟩
            have HPL2 : Hid ((P.set c (learnN (P.getD c 2048) b)).length = 400) := by unfold Hid; rw [List.length_set]; exact unhide hPl
            have HOP2 : Hid (okPs (fun y => (P.set c (learnN (P.getD c 2048) b)).getD y 2048)) := by
              unfold Hid
              rw [like_set hc4]
              exact okPs_learn (unhide hoP) c b
            have HBS2 : Hid (decN bz cs = (L ++ [b]) ++ bitsD (byteS bz) (fun y => (P.set c (learnN (P.getD c 2048) b)).getD y 2048) (wideD (byteS bz) (midD s (P.getD c 2048))) (ctxsN (cs.drop (k + 1)))) := by
              unfold Hid
              rw [unhide hbs, hdr, like_set hc4, bitsD, unhide HBT, List.append_assoc]; rfl
            rw [unhide HBT] at HBC
            generalize P.set c (learnN (P.getD c 2048) b) = P2 at *
            generalize wideD (byteS bz) (midD s (P.getD c 2048)) = s2 at *
            have HLB : Hid (L.length ≤ 2000000) := by have := unhide hLk; unfold Hid; omega
            clear hbb hdr hc4 hoks hPl hoP hsl hbs q1 q2
            go_wp2_with fail
            refine (unhide HBC).mono ?_
            rintro e w5 ⟨rfl, hw5⟩
            have HT5 := hide ((unhide hto).kept hw5)
            have HW5 := hide hw5
            have hgs := hw5.lk.grown.size
            clear hw5 HBC hto hiw c0
            go_wp2_with (at_builtin; refine append_pn rfl _ _ rfl w.heap.size (.slice oo L.length oc) L rfl (unhide HT5).own b b rfl rfl (unhide HLB) hgs ?_)
            intro g7 c7 w7 o7 g7w hat7
            have hpu := (unhide HT5).push (unhide HW5) rfl o7 g7w hat7
            have hl7 : (L ++ [b]).length = L.length + 1 := by simp
            rw [← hl7] at hpu
            have HT7 := hide hpu.1
            have HI7 := hide hpu.2
            have HLK2 : Hid ((L ++ [b]).length = k + 1) := by have := unhide hLk; unfold Hid; omega
            rw [← hl7]
            clear hpu o7 g7w hat7 HT5 HW5 hgs hl7 hLk
            generalize L ++ [b] = L2 at *
            go_wp2
            go_roundw
            case rel => exact ⟨k + 1, some ⟨g7, 0, none⟩, c7, L2, P2, s2, by omega, rfl, by go_num, HT7, HI7, HOK2, HPL2, HOP2, HSL2, HLK2, HBS2⟩
            case measure => simp [intOf]; omega
          · obtain rfl : k = i := by omega
            have hbs2 := unhide hbs
            have hdn : cs.drop k = [] := List.drop_eq_nil_of_le (by rw [unhide HL]; exact Nat.le_refl _)
            rw [hdn] at hbs2
            have hRL : R = L.map (fun x : Nat => (x : Int)) := by
              rw [unhide HRE, hbs2]
              show ((L ++ []).map _) = _
              rw [List.append_nil]
            have hRl : L.length = R.length := by rw [hRL]; simp
            have HF : Hid (wr.ownsRow w.heap.size 3 1 (.slice oo R.length oc) R.length (R.map (Value.int .i64)) ∧ w.grownBy wr none) := by
              have h1 := (unhide hto).own
              rw [pCells_ints, ← hRL, hRl] at h1
              exact ⟨h1, (unhide hiw).lk.grown⟩
            rw [hRl]
            clear hbs2 hdn hbs hoks hPl hoP hto hiw hsl hLk hRL hRl
            go_wp2
            go_ret
            exact ⟨oo, oc, rfl, (unhide HF).1, (unhide HF).2⟩
  · have hd : decide ((200000 : Int) < (n : Int)) = true := decide_eq_true (by omega)
    have hR0 : R = [] := by rw [← unhide HRR, decG, ctxsB, hl, decide_eq_false hn]; rfl
    have HF := hide (unhide HNIL hR0)
    subst hR0
    go_enter Try.func22, Try.ntmps22
    go_wp2
    go_ret
    exact ⟨_, _, rfl, (unhide HF).1, (unhide HF).2⟩

end Go.Proofs.Ytemfonnkaddmfaa
