/-
  CodeRead in the specification.
-/
import Derived.Test.YtcbaiagkdphkeabSymSpec
import Derived.Test.YtcbaiagkdphkeabReadPure
import Derived.Test.YtcbaiagkdphkeabCodesSpec
import Derived.Test.YtcbaiagkdphkeabAppRdI
import Derived.Test.YtcbaiagkdphkeabBetween
namespace Go.Proofs.Ytcbaiagkdphkeab
open Go.RowKit

theorem syms_step {cs : List (Int × Int)} {zs acc : List Int} {p N k : Nat} {R : Option (List Int)} {s q : Nat} (h : R = (symsG cs zs p (N - k)).map (acc ++ ·)) (hk : k < N) (hs : symG cs zs p = some (s, q)) : R = (symsG cs zs q (N - (k + 1))).map ((acc ++ [(s : Int)]) ++ ·) := by
  have e : N - k = (N - (k + 1)) + 1 := by omega
  rw [e] at h
  unfold symsG at h
  rw [hs] at h
  rw [h]
  dsimp only
  cases symsG cs zs q (N - (k + 1)) with
  | none => rfl
  | some t => simp
theorem syms_none {cs : List (Int × Int)} {zs acc : List Int} {p N k : Nat} {R : Option (List Int)} (h : R = (symsG cs zs p (N - k)).map (acc ++ ·)) (hk : k < N) (hs : symG cs zs p = none) : R = none := by
  have e : N - k = (N - (k + 1)) + 1 := by omega
  rw [e] at h
  unfold symsG at h
  rw [hs] at h
  exact h
theorem syms_end {cs : List (Int × Int)} {zs acc : List Int} {p N : Nat} {R : Option (List Int)} (h : R = (symsG cs zs p (N - N)).map (acc ++ ·)) : R = some acc := by
  rw [Nat.sub_self] at h
  rw [h]
  unfold symsG
  simp

theorem lensB_pos' {xs : List Int} (h : lensB xs = true) : 0 < xs.length := by
  have h1 := (lens_parts h).2.2.1
  cases xs with
  | nil => simp [krS, sumF] at h1
  | cons x xs => simp

theorem own_not_tk {w : World} {base : Nat} {v : Value} {k : Nat} {L : List Value} {tb : Nat} {ao : Option Addr} {n cap p : Nat} {bad : Bool} (h : w.ownsRow base 3 1 v k L) (ht : Tk w tb ao n cap p bad) : v.ownBlock ≠ some tb := by
  rcases h.2 with ⟨rfl, _⟩ | ⟨g, c, cur, rfl, _, hg, _⟩
  · simp [Value.ownBlock]
  · intro e
    have e2 : g = tb := by simpa [Value.ownBlock] using e
    subst e2
    unfold Tk at ht
    rw [hg] at ht
    simp at ht

def lenR : Value → Nat
  | .slice _ n _ => n
  | _ => 0

theorem append_i1 {w : World} {ops : Array Oper} {rest : List Oper} {o : Oper} {a : Act} {Q : Exit → Act → World → Prop} (hgd : o.guard = none) (s x : Operand)
    (ho : o.op = .call { callee := .builtin .append, args := #[s, x], argTypes := #[22, 22] })
    (B : World) (v : Value) (X : List Int) (hs : a.eval s = v) (hown : w.ownsRow B.heap.size 3 1 v X.length (X.map (Value.int .i64))) (p : Int) (hx : a.eval x = .slice (some ⟨w.heap.size, 0, none⟩) 1 1)
    (hb : X.length ≤ 1000000) (hB : B.grownBy w none) (R : List Int) (hR : X ++ [p] = R)
    (h : ∀ v' w', w'.ownsRow B.heap.size 3 1 v' R.length (R.map (Value.int .i64)) → B.grownBy w' none → w.grownBy w' v.ownBlock → wpList Try.prog ops Q rest (a.put o.dst v') w') :
    wpList Try.prog ops Q (o :: rest) a (w.alloc (.cells #[.int .i64 p] 3)) := by
  subst hR
  obtain ⟨i0, hi, hz0, hz1, hz2⟩ := info_parts info_i9
  refine wpList_append_own _ hgd s x 22 ho B.heap.size 3 i0 _ 1 8 Try.underlying22 hi hz0 hz1 hz2 rfl (by decide) v X.length _ hs (hown.alloc _) ⟨w.heap.size, 0, none⟩ 1 1 [.int .i64 p] hx rfl (World.news_of_block (cs := #[.int .i64 p]) (t := 3) (fr := (0, 0)) (heap_alloc_new w _)) (by intro u hu; simp at hu; subst hu; rfl) (by unfold maxLen; omega) (by omega) (by have := hB.size; simp; omega) ?_
  intro v' w' h1 h2 _
  have hga : w.grownBy w' v.ownBlock := ⟨h2.os, h2.tape, h2.output, by have h := h2.size; simp at h; omega, fun k hk hr => (h2.block k (by simp; omega) hr).trans (Below.heap_alloc _ _ _ hk)⟩
  refine h v' w' ?_ (grown_new hB hga (fun g e => (hown.lt g e).1)) hga
  rw [List.map_append, List.length_append]
  exact h1

set_option maxRecDepth 20000 in
set_option maxHeartbeats 3200000 in
theorem specCodeRead (ao : Option Addr) (n cap : Nat) (xs : List Int) (bo : Option Addr) (m bc : Nat) (zs : List Int) (N : Int) (w : World) (hr : Rd .i64 w ao n xs) (hz : Rd .u8 w bo m zs) (hb : ∀ i, 0 ≤ zs.getD i 0 ∧ zs.getD i 0 ≤ 255) (hm : m ≤ 4194304) :
    Calls Try.prog 16 #[.slice ao n cap, .slice bo m bc, .int .i64 N] w fun e w' => ∃ co cc, e = .returned (.tuple #[.slice co (readG xs zs N).length cc, .bool (readB xs zs N)]) ∧ w'.ownsRow w.heap.size 3 1 (.slice co (readG xs zs N).length cc) (readG xs zs N).length ((readG xs zs N).map (Value.int .i64)) ∧ w.grownBy w' none := by
  have hl := hr.1
  have HR := hide hr
  have HZ := hide hz
  have HB := hide hb
  have HLT := hide hz.lt
  have hnil : ∀ wz : World, w.grownBy wz none → Hid ((wz.alloc (.cells #[] 3)).ownsRow w.heap.size 3 1 (.slice (some ⟨wz.heap.size, 0, none⟩) 0 0) 0 [] ∧ w.grownBy (wz.alloc (.cells #[] 3)) none) := fun wz g => ⟨own_base (World.ownsRow_lit wz #[] 0 (Nat.le_refl _) (by unfold maxLen; omega) rfl) g.size, grown_alloc g _⟩
  have HNIL := hide hnil
  clear hr hz hb hnil
  obtain ⟨b, HLB⟩ : ∃ b, Hid (lensB xs = b) := ⟨_, rfl⟩
  obtain ⟨C, HC⟩ : ∃ C, Hid (codesG xs = C) := ⟨_, rfl⟩
  obtain ⟨R, HRO⟩ : ∃ R, Hid (readO xs zs N = R) := ⟨_, rfl⟩
  have hG : readG xs zs N = R.getD [] := by rw [← unhide HRO]; rfl
  have hBB : readB xs zs N = R.isSome := by rw [← unhide HRO]; rfl
  rw [hG, hBB]
  clear hG hBB
  cases b with
  | false =>
    have hC : C = [] := by rw [← unhide HC, codesG, unhide HLB]; rfl
    have hRn : R = none := by rw [← unhide HRO, readO, unhide HLB]; simp
    subst hC hRn
    go_enter Try.func16, Try.ntmps16
    go_wp2_with fail
    refine (specCodesOf ao n cap xs w (unhide HR)).mono ?_
    rw [unhide HC]
    rintro e w1 ⟨v, rfl, o1, g1⟩
    obtain ⟨co, cc, rfl⟩ := own_form o1
    have HF := hide (unhide HNIL _ g1)
    clear o1
    go_wp2
    go_ret2
    exact ⟨some ⟨w1.heap.size, 0, none⟩, 0, rfl, unhide (unhide HF)⟩
  | true =>
    have hpos := lensB_pos' (unhide HLB)
    have hn : n ≤ 256 := by have := (lens_parts (unhide HLB)).1; omega
    have HCL : Hid (C.length = n) := by unfold Hid; rw [← unhide HC, codes_len (unhide HLB), hl]
    have HL := hide hl
    clear hl
    by_cases hN : 0 ≤ N ∧ N ≤ 60000
    · obtain ⟨M, rfl⟩ := Int.eq_ofNat_of_zero_le hN.1
      have hM : M ≤ 60000 := by omega
      have HRS : Hid (R = (symsG C zs 0 (M - 0)).map ([] ++ ·)) := by
        unfold Hid
        rw [← unhide HRO, readO, unhide HLB, if_pos ⟨rfl, hN.1, hN.2⟩, unhide HC, Int.toNat_natCast, Nat.sub_zero]
        cases symsG C zs 0 M <;> simp
      have HD : Hid (decide (0 ≤ (M : Int) ∧ (M : Int) ≤ 60000) = true) := decide_eq_true hN
      clear hN HRO
      go_enter Try.func16, Try.ntmps16
      go_wp2_with fail
      refine (specCodesOf ao n cap xs w (unhide HR)).mono ?_
      rw [unhide HC]
      rintro e w1 ⟨v, rfl, o1, g1⟩
      obtain ⟨co, cc, rfl⟩ := own_form o1
      have hC0 : ((C.length : Int) == 0) = false := beq_false_of_ne (by have := unhide HCL; have := unhide HL; omega)
      have hCl : C.length ≤ 256 := by rw [unhide HCL]; exact hn
      have HG1 := hide g1
      have HRC : Hid (RdF w1 co C.length C) := own_rdF o1
      have HRL : Hid (∀ b off, co = some ⟨b, off, none⟩ → b < w1.heap.size) := fun b off e => (o1.lt b (by rw [e]; rfl)).2
      have HZ1 := hide ((unhide HZ).grown g1)
      have HO3 : Hid (((w1.alloc (.cells #[] 3)).alloc (.cells #[.slice bo m bc, .int .i64 0, .bool false] 45)).ownsRow w1.heap.size 3 1 (.slice (some ⟨w1.heap.size, 0, none⟩) 0 0) ([] : List Int).length (([] : List Int).map (Value.int .i64))) := by
        have h := World.ownsRow_lit (base := w1.heap.size) (e := 3) (size := 1) w1 #[] 0 (Nat.le_refl _) (by unfold maxLen; omega) rfl
        exact h.alloc _
      have HT3 : Hid (Tk ((w1.alloc (.cells #[] 3)).alloc (.cells #[.slice bo m bc, .int .i64 0, .bool false] 45)) (w1.heap.size + 1) bo m bc 0 false) := by
        have h := heap_alloc_new (w1.alloc (.cells #[] 3)) (.cells #[.slice bo m bc, .int .i64 0, .bool false] 45)
        unfold Hid Tk
        simpa using h
      have HG3 : Hid (w1.grownBy ((w1.alloc (.cells #[] 3)).alloc (.cells #[.slice bo m bc, .int .i64 0, .bool false] 45)) none) := grown_alloc (World.grownBy_alloc _ _ _) _
      clear o1 g1
      go_wp2_with fail
      refine (between M 0 60000 true HD _).mono ?_
      rintro e wx ⟨rfl, rfl⟩
      go_wp2
      go_loopw [9] (fun v wr => ∃ (acc : List Int) (k p : Nat), k ≤ M ∧ acc.length = k ∧ p ≤ 8 * m ∧ Hid (R = (symsG C zs p (M - k)).map (acc ++ ·)) ∧ Hid (Tk wr (w1.heap.size + 1) bo m bc p false) ∧ Hid (wr.ownsRow w1.heap.size 3 1 v acc.length (acc.map (Value.int .i64))) ∧ Hid (w1.grownBy wr none)) (fun v _ => M - lenR v)
      case atStart => exact ⟨[], 0, 0, Nat.zero_le _, rfl, Nat.zero_le _, HRS, HT3, HO3, HG3⟩
      case round =>
        clear HRS HT3 HO3 HG3
        obtain ⟨acc, k, p, hk, rfl, hp, hR, ht, ho, hg⟩ := hrel
        obtain ⟨fo, fc, rfl⟩ := own_form (unhide ho)
        have HZr := hide ((unhide HZ1).grown (unhide hg))
        have HCr := hide ((unhide HRC).grown (unhide hg))
        by_cases hkm : acc.length < M
        · have hkI : ((acc.length : Nat) : Int) < (M : Int) := by omega
          have hne1 : 0 < m → ∀ b off, bo = some ⟨b, off, none⟩ → b ≠ w1.heap.size + 1 := fun h b off e => by have h1 := unhide HLT h b off e; have h2 := (unhide HG1).size; omega
          have hne2 : 0 < C.length → ∀ b off, co = some ⟨b, off, none⟩ → b ≠ w1.heap.size + 1 := fun _ b off e => by have h1 := unhide HRL b off e; omega
          have HN1 := hide hne1
          have HN2 := hide hne2
          clear hne1 hne2
          obtain ⟨r, HRR⟩ : ∃ r, Hid (symG C zs p = r) := ⟨_, rfl⟩
          go_wp2_with fail
          refine (specSymbol (w1.heap.size + 1) bo m bc p zs co C.length cc C wr (unhide ht) (unhide HZr) (unhide HN1) (unhide HB) (unhide HCr) (unhide HN2) hm hCl hp r HRR).mono ?_
          rintro e w4 ⟨s, q, ok, rfl, hok, hno, g4⟩
          have hg4 := hide (grown_new (unhide hg) g4 (fun g e => by simp at e; omega))
          cases ok with
          | false =>
            have hrn := hno rfl
            have hR2 : R = none := syms_none (unhide hR) hkm (by rw [unhide HRR]; exact hrn)
            subst hR2
            have HF := hide (unhide HNIL w4 (grown_trans (unhide HG1) (unhide hg4)))
            clear hok hno g4 hR ho ht
            go_wp2
            go_ret2
            exact ⟨some ⟨w4.heap.size, 0, none⟩, 0, rfl, unhide (unhide HF)⟩
          | true =>
            obtain ⟨hrs, ht4, hq1, hq2, hsm⟩ := hok rfl
            have HR2 := hide (syms_step (unhide hR) hkm (by rw [unhide HRR]; exact hrs))
            have HO4 := hide (own_beneath (unhide ho) g4 (fun g g' h h' => by
              have := own_not_tk (unhide ho) (unhide ht)
              have e : w1.heap.size + 1 = g' := by simpa using h'
              intro e2
              rw [e2, ← e] at h
              exact absurd h this))
            have HT4 := hide ht4
            obtain ⟨A2, HA2⟩ : ∃ A2, Hid (acc ++ [(s : Int)] = A2) := ⟨_, rfl⟩
            have HA2L : Hid (A2.length = acc.length + 1) := by
              unfold Hid
              rw [← unhide HA2, List.length_append]; rfl
            rw [unhide HA2] at HR2
            clear hok hno g4 hR ho ht ht4 hrs hg HRR
            go_wp2_with (at_builtin; refine append_i1 rfl _ _ rfl w1 (.slice fo acc.length fc) acc rfl (unhide HO4) (s : Int) rfl (by omega) (unhide hg4) A2 (unhide HA2) ?_)
            intro v7 w7 o7 g7 g77
            obtain ⟨so7, sc7, rfl⟩ := own_form o7
            have HT7 : Hid (Tk w7 (w1.heap.size + 1) bo m bc q false) := (g77.block _ (unhide HT4).lt (own_not_tk (unhide HO4) (unhide HT4)).symm).trans (unhide HT4)
            have HO7 := hide o7
            have HG7 := hide g7
            clear o7 g7 g77 HO4 HT4 hg4
            go_wp2
            go_roundw
            case rel => exact ⟨A2, acc.length + 1, q, by omega, unhide HA2L, hq2, HR2, HT7, HO7, HG7⟩
            case measure => have h := unhide HA2L; simp only [lenR]; omega
        · obtain rfl : M = acc.length := by omega
          have hR2 : R = some acc := syms_end (unhide hR)
          subst hR2
          have hkI : ¬ ((acc.length : Nat) : Int) < ((acc.length : Nat) : Int) := by omega
          have HO8 := hide (own_base (unhide ho) (base' := w.heap.size) (unhide HG1).size)
          have HG8 := hide (grown_trans (unhide HG1) (unhide hg))
          clear hR ho
          go_wp2
          go_ret2
          exact ⟨fo, fc, rfl, unhide HO8, unhide HG8⟩
    · have hRn : R = none := by rw [← unhide HRO, readO, if_neg (fun h => hN h.2)]
      subst hRn
      have HD : Hid (decide (0 ≤ N ∧ N ≤ 60000) = false) := decide_eq_false hN
      clear hN HRO
      go_enter Try.func16, Try.ntmps16
      go_wp2_with fail
      refine (specCodesOf ao n cap xs w (unhide HR)).mono ?_
      rw [unhide HC]
      rintro e w1 ⟨v, rfl, o1, g1⟩
      obtain ⟨co, cc, rfl⟩ := own_form o1
      have hC0 : ((C.length : Int) == 0) = false := beq_false_of_ne (by have := unhide HCL; have := unhide HL; omega)
      have HF := hide (unhide HNIL _ g1)
      clear o1 g1
      go_wp2_with fail
      refine (between N 0 60000 false HD _).mono ?_
      rintro e wx ⟨rfl, rfl⟩
      go_wp2
      go_ret2
      exact ⟨some ⟨w1.heap.size, 0, none⟩, 0, rfl, unhide (unhide HF)⟩

end Go.Proofs.Ytcbaiagkdphkeab
