/-
  Symbols read in the specification.
-/
import Derived.Test.YtcbaiagkdphkeabTextPure
import Derived.Test.YtcbaiagkdphkeabTakeBit
import Derived.Test.YtcbaiagkdphkeabFieldRows
namespace Go.Proofs.Ytcbaiagkdphkeab
open Go.RowKit

theorem grown_new' {a b c : World} {row : Option Nat} (h : a.grownBy b row) (g : b.grownBy c none) : a.grownBy c row := grown_trans h (grown_any g)

theorem findC_first {cs : List (Int × Int)} {l x : Int} {s : Nat} (h : findC cs l x s = none) (he : cs.getD s (0, 0) = (l, x)) : ∀ m, s < m → findC cs l x m = some s
  | m + 1, hm => by
    unfold findC
    by_cases e : m = s
    · subst e
      rw [h]
      dsimp only
      rw [if_pos he]
    · rw [findC_first h he m (by omega)]
theorem findC_next {cs : List (Int × Int)} {l x : Int} {s : Nat} (h : findC cs l x s = none) (he : cs.getD s (0, 0) ≠ (l, x)) : findC cs l x (s + 1) = none := by
  unfold findC
  rw [h]
  dsimp only
  rw [if_neg he]
theorem symF_end {cs : List (Int × Int)} {zs : List Int} {p f l : Nat} (h : 8 * zs.length ≤ p + l) : symF cs zs p f l = none := by
  cases f with
  | zero => rfl
  | succ f => unfold symF; rw [if_pos h]
theorem symF_hit {cs : List (Int × Int)} {zs : List Int} {p f l s : Nat} (h : p + l < 8 * zs.length) (hf : findC cs ((l + 1 : Nat) : Int) (numAt zs p (l + 1)) cs.length = some s) : symF cs zs p (f + 1) l = some (s, p + (l + 1)) := by
  unfold symF; rw [if_neg (by omega), hf]
theorem symF_miss {cs : List (Int × Int)} {zs : List Int} {p f l : Nat} (h : p + l < 8 * zs.length) (hf : findC cs ((l + 1 : Nat) : Int) (numAt zs p (l + 1)) cs.length = none) : symF cs zs p (f + 1) l = symF cs zs p f (l + 1) := by
  conv => lhs; unfold symF
  rw [if_neg (by omega), hf]

set_option maxRecDepth 20000 in
set_option maxHeartbeats 3200000 in
theorem specSymbol (tb : Nat) (ao : Option Addr) (n cap p : Nat) (zs : List Int) (co : Option Addr) (m cc : Nat) (C : List (Int × Int)) (w : World) (ht : Tk w tb ao n cap p false) (hr : Rd .u8 w ao n zs) (hne : 0 < n → ∀ b off, ao = some ⟨b, off, none⟩ → b ≠ tb) (hb : ∀ i, 0 ≤ zs.getD i 0 ∧ zs.getD i 0 ≤ 255)
    (hc : RdF w co m C) (hcn : 0 < m → ∀ b off, co = some ⟨b, off, none⟩ → b ≠ tb) (hn : n ≤ 4194304) (hm : m ≤ 256) (hp : p ≤ 8 * n) (r : Option (Nat × Nat)) (HRR : Hid (symG C zs p = r)) :
    Calls Try.prog 30 #[.pointer (some ⟨tb, 0, none⟩), .slice co m cc] w fun e w' => ∃ (s q : Nat) (ok : Bool), e = .returned (.tuple #[.int .i64 s, .bool ok]) ∧ (ok = true → r = some (s, q) ∧ Tk w' tb ao n cap q false ∧ p < q ∧ q ≤ 8 * n ∧ s < m) ∧ (ok = false → r = none) ∧ w.grownBy w' (some tb) := by
  have hzl := hr.1
  have hcl := hc.1
  have HT := hide ht
  have HR := hide hr
  have HNE := hide hne
  have HB := hide hb
  have HC := hide hc
  have HCN := hide hcn
  have HZL := hide hzl
  have HCL := hide hcl
  clear ht hr hne hb hc hcn hzl hcl
  go_enter Try.func30, Try.ntmps30
  go_wp2
  go_loopw [6, 7] (fun x lv wr => ∃ (j : Nat) (X : Int), j ≤ 16 ∧ p + j ≤ 8 * n ∧ lv = .int .i64 ((j + 1 : Nat) : Int) ∧ x = .int .i64 X ∧ Hid (X = numAt zs p j) ∧ Hid (r = symF C zs p (16 - j) j) ∧ Hid (Tk wr tb ao n cap (p + j) false) ∧ Hid (w.grownBy wr (some tb))) (fun _ lv _ => 17 - (intOf lv).toNat)
  case atStart => exact ⟨0, 0, by omega, by omega, rfl, rfl, rfl, (unhide HRR).symm, HT, World.grownBy.refl _ _⟩
  case round =>
    clear HT
    obtain ⟨j, X, hj, hpj, rfl, rfl, hX, hS, hT, hg⟩ := hrel
    obtain ⟨wo, rfl⟩ : ∃ wo, wo = wr := ⟨wr, rfl⟩
    have hXb := numAt_small zs p j hj
    rw [← unhide hX] at hXb
    by_cases hj16 : j < 16
    · have hd1 : decide (((j + 1 : Nat) : Int) ≤ 16) = true := decide_eq_true (by omega)
      have hd1' : decide ((j : Int) + 1 ≤ 16) = true := decide_eq_true (by omega)
      have HRo : Hid (Rd .u8 wo ao n zs) := (unhide HR).beside (unhide hg) (fun h b o e => unhide HNE h b o e)
      by_cases hend : 8 * n ≤ p + j
      · have hrn : r = none := by rw [unhide hS]; exact symF_end (by rw [unhide HZL]; exact hend)
        have HRN := hide hrn
        clear hrn
        go_wp2_with fail
        refine (specBitEnd tb ao n cap (p + j) false wo (unhide hT) hn hend).mono ?_
        rintro e w1 ⟨rfl, t1, g1⟩
        have c2 := t1.c2
        have HG1 := hide (grown_trans (unhide hg) g1)
        clear t1 g1
        go_wp2
        refine bodyPost_ret (v := .tuple #[.int .i64 0, .bool false]) (by simp [results, Try.results30, go_sem, *]) rfl ?_
        exact ⟨0, 0, false, rfl, fun h => absurd h (by simp), fun _ => unhide HRN, unhide HG1⟩
      · have hlt : p + j < 8 * n := by omega
        go_wp2_with fail
        refine (specBit tb ao n cap (p + j) false zs wo (unhide hT) (unhide HRo) (unhide HB) hn hlt).mono ?_
        rintro e w1 ⟨rfl, t1, g1⟩
        have c2 := t1.c2
        have hbt := bitAt_01 zs (p + j)
        have HX2 : Hid (2 * X + bitAt zs (p + j) = numAt zs p (j + 1)) := by unfold Hid; rw [unhide hX]; rfl
        generalize bitAt zs (p + j) = bt at *
        obtain ⟨Y, hY⟩ : ∃ Y, 2 * X + bt = Y := ⟨_, rfl⟩
        have e1 := i64_in (2 * X) (by omega)
        have e2 : IntKind.i64.wrap (2 * X + bt) = Y := by rw [i64_in _ (by omega)]; exact hY
        have e3 := i64_in (((j + 1 : Nat) : Int) + 1) (by omega)
        have e3' := i64_in ((j : Int) + 1 + 1) (by omega)
        rw [hY] at HX2
        have HT1 := hide t1
        have HG1 := hide (grown_trans (unhide hg) g1)
        clear t1 g1 hT hg HRo hX
        go_wp2
        go_loopw [9] (fun sv wv => ∃ S : Nat, S ≤ m ∧ sv = .int .i64 S ∧ Hid (findC C ((j + 1 : Nat) : Int) Y S = none) ∧ Hid (w1.grownBy wv none)) (fun sv _ => m - (intOf sv).toNat)
        case atStart => exact ⟨0, Nat.zero_le _, rfl, rfl, World.grownBy.refl _ _⟩
        case round =>
          obtain ⟨S, hSm, rfl, hF, hgv⟩ := hrel
          by_cases hSlt : S < m
          · obtain ⟨cb, cf, rfl, k0, k1⟩ := (unhide HC).2 S hSlt
            have hcb := unhide HCN (by omega) cb cf rfl
            have m0 := (unhide hgv).cell ((unhide HG1).cell k0 (by simp; exact hcb)) (by simp)
            have m1 := (unhide hgv).cell ((unhide HG1).cell k1 (by simp; exact hcb)) (by simp)
            have hfirst := fun he => findC_first (cs := C) (unhide hF) he
            have hnext := fun he => findC_next (cs := C) (unhide hF) he
            generalize C.getD S (0, 0) = cd at *
            obtain ⟨u, v⟩ := cd
            dsimp only at m0 m1
            have e5 := i64_in ((S : Int) + 1) (by omega)
            have hSI : (S : Int) < (m : Int) := by omega
            by_cases hu : u = ((j + 1 : Nat) : Int)
            · have hu1 : (u == (j : Int) + 1) = true := by rw [hu]; simp
              by_cases hv : v = Y
              · have hv1 : (v == Y) = true := by rw [hv]; simp
                have hhit := hfirst (by rw [hu, hv]) C.length (by rw [unhide HCL]; exact hSlt)
                have hrs : r = some (S, p + (j + 1)) := by
                  rw [unhide hS]
                  have e : 16 - j = (15 - j) + 1 := by omega
                  rw [e]
                  exact symF_hit (by rw [unhide HZL]; exact hlt) (by rw [← unhide HX2]; exact hhit)
                have HRS := hide hrs
                have HT2 := hide ((unhide HT1).grown (unhide hgv))
                have HG2 := hide (grown_new' (unhide HG1) (unhide hgv))
                clear hfirst hnext hhit hrs k0 k1
                go_wp2
                refine bodyPost_ret (v := .tuple #[.int .i64 (S : Int), .bool true]) (by simp [results, Try.results30, go_sem, *]) rfl ?_
                exact ⟨S, p + (j + 1), true, rfl, fun _ => ⟨unhide HRS, unhide HT2, by omega, by omega, hSlt⟩, fun h => absurd h (by simp), unhide HG2⟩
              · have hv1 : (v == Y) = false := beq_false_of_ne hv
                have HF2 := hide (hnext (fun h => hv (by simpa using (Prod.mk.inj h).2)))
                clear hfirst hnext k0 k1
                go_wp2
                go_roundw
                case rel => exact ⟨S + 1, by omega, by go_num, HF2, hgv⟩
                case measure => simp [intOf]; omega
            · have hu1 : (u == (j : Int) + 1) = false := beq_false_of_ne (by intro h; exact hu (by omega))
              have HF2 := hide (hnext (fun h => hu (Prod.mk.inj h).1))
              clear hfirst hnext k0 k1
              go_wp2
              go_roundw
              case rel => exact ⟨S + 1, by omega, by go_num, HF2, hgv⟩
              case measure => simp [intOf]; omega
          · obtain rfl : S = m := by omega
            have hr2 : r = symF C zs p (16 - (j + 1)) (j + 1) := by
              rw [unhide hS]
              have e : 16 - j = (16 - (j + 1)) + 1 := by omega
              rw [e]
              exact symF_miss (by rw [unhide HZL]; exact hlt) (by rw [unhide HCL, ← unhide HX2]; exact unhide hF)
            have HS2 := hide hr2
            have HT2 : Hid (Tk wr tb ao n cap (p + (j + 1)) false) := (unhide HT1).grown (unhide hgv)
            have HG2 := hide (grown_new' (unhide HG1) (unhide hgv))
            clear hr2 hS hF
            go_wp2
            go_roundw
            case rel => exact ⟨j + 1, Y, by omega, by omega, by go_num, rfl, HX2, HS2, HT2, HG2⟩
            case measure => simp [intOf]; omega
    · have hje : j = 16 := by omega
      have hd1 : decide (((j + 1 : Nat) : Int) ≤ 16) = false := decide_eq_false (by omega)
      have hd1' : decide ((j : Int) + 1 ≤ 16) = false := decide_eq_false (by omega)
      have hrn : r = none := by
        rw [unhide hS, hje]
        rfl
      have HRN := hide hrn
      clear hrn hje
      go_wp2
      refine bodyPost_ret (v := .tuple #[.int .i64 0, .bool false]) (by simp [results, Try.results30, go_sem, *]) rfl ?_
      exact ⟨0, 0, false, rfl, fun h => absurd h (by simp), fun _ => unhide HRN, unhide hg⟩

end Go.Proofs.Ytcbaiagkdphkeab
