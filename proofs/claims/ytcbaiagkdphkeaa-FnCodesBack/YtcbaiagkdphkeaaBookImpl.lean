/-
  The book of codes in the program: a map from codes to symbols.
-/
import Derived.Test.YtcbaiagkdphkeaaCodesImpl
import Derived.Maps.OwnSet
import Derived.Maps.OwnOps
import Derived.DeepKeys4
import Derived.WideKeyPair
namespace Go.Proofs.Ytcbaiagkdphkeaa
open Go.RowKit Go.Maps Go.WideMaps

theorem laidOut8 : laidOutB Try.prog = true := by kernel_rfl
theorem rowField : (30 : TypeId) < Try.prog.types.size := of_decide_eq_true (by kernel_rfl)
theorem wideField : (match Try.prog.underlying 30 with | some (.array _ _) | some (.struct _) => true | _ => false) = true := by kernel_rfl
set_option maxRecDepth 100000 in
theorem lawField : Keyed Try.prog 30 := Keyed.of_law (deep_law_laid laidOut8 (m := 3) (by omega) rowField (by kernel_rfl) wideField)
def fieldKey (a b : Int) : Lit := .string (keyBytes [.int .i64 a, .int .i64 b])
theorem keyInt (d : Nat) {x : Int} (wx : (Lit.int .i64 x).wf = true) : Try.prog.keyLits (d + 1) 3 [.int .i64 x] = some [.int .i64 x] := by
  unfold Program.keyLits
  simp only [Try.underlying3]
  rw [if_pos ⟨trivial, wx⟩]
theorem keyField {a b : Int} (wa : (Lit.int .i64 a).wf = true) (wb : (Lit.int .i64 b).wf = true) : keyOf Try.prog 30 (.agg #[.int .i64 a, .int .i64 b]) = some (fieldKey a b) := by
  have hkt : Try.prog.keyType 30 = true := by kernel_rfl
  have hc2 : Try.prog.cellsOf 30 = 2 := by kernel_rfl
  have hc1 : Try.prog.cellsOf 3 = 1 := by kernel_rfl
  obtain ⟨d, hsz⟩ : ∃ d, Try.prog.types.size + 1 = d + 1 + 1 := ⟨Try.prog.types.size - 1, by have : 0 < Try.prog.types.size := of_decide_eq_true (by kernel_rfl); omega⟩
  unfold keyOf
  simp only [Try.underlying30]
  rw [hsz, if_pos (by simp [hkt, Value.formed, Try.underlying30, hc2])]
  unfold Program.keyLits
  simp only [Try.underlying30, Value.cells]
  rw [if_pos ⟨by rw [hc2]; rfl, by kernel_rfl⟩]
  simp only [hc1, List.mapM_cons, List.mapM_nil]
  simp [keyInt d wa, keyInt d wb, fieldKey]
theorem wf_small {x : Int} (h : 0 ≤ x ∧ x ≤ 1000000) : (Lit.int .i64 x).wf = true := WalkArith.wf_i64 (by omega)
theorem key_inj {a b c d : Int} (wa : (Lit.int .i64 a).wf = true) (wb : (Lit.int .i64 b).wf = true) (wc : (Lit.int .i64 c).wf = true) (wd : (Lit.int .i64 d).wf = true) (h : fieldKey a b = fieldKey c d) : a = c ∧ b = d := by
  have h1 := keyField wa wb
  have h2 := keyField wc wd
  rw [← h] at h2
  have h3 := lawField.inj h1 h2
  simp only [Value.agg.injEq] at h3
  simp at h3
  exact h3
theorem key_lit (a b : Int) (wa : (Lit.int .i64 a).wf = true) (wb : (Lit.int .i64 b).wf = true) : WideAt.IsKeyLit (fieldKey a b) := lawField.key (keyField wa wb)

/-- The last symbol that has a code, of the first k. -/
def bookF (cs : List (Int × Int)) : Nat → Int → Int → Option Nat
  | 0, _, _ => none
  | k + 1, a, b => if cs.getD k (0, 0) = (a, b) ∧ 0 < a then some k else bookF cs k a b
/-- A block that holds these codes. -/
def Book (w : World) (mb : Nat) (cs : List (Int × Int)) (k : Nat) : Prop :=
  ∃ D : DataW Unit, w.ownsMap Try.prog 30 (plainElem Try.prog 3) mb k D ∧ ∀ a b : Int, 0 ≤ a ∧ a ≤ 1000000 → 0 ≤ b ∧ b ≤ 1000000 →
    Maps.has D (fieldKey a b) = (bookF cs k a b).isSome ∧ ∀ s, bookF cs k a b = some s → D.atKey (fieldKey a b) (.lit (.int .i64 0)) = .lit (.int .i64 (s : Int))
theorem Book.kept {w w' : World} {mb : Nat} {cs : List (Int × Int)} {k : Nat} {row : Option Nat} (h : Book w mb cs k) (g : w.grownBy w' row) (hne : some mb ≠ row) : Book w' mb cs k := by
  obtain ⟨D, h1, h2⟩ := h
  exact ⟨D, h1.kept g hne, h2⟩
theorem Book.lt {w : World} {mb : Nat} {cs : List (Int × Int)} {k : Nat} (h : Book w mb cs k) : mb < w.heap.size := by
  obtain ⟨D, h1, _⟩ := h
  exact h1.lt
theorem Book.none (w : World) (cs : List (Int × Int)) : Book (w.alloc (.map #[] 0)) w.heap.size cs 0 :=
  ⟨.map [], World.ownsMap_made _ _ _ _, fun a b _ _ => ⟨rfl, fun s h => by simp [bookF] at h⟩⟩
theorem bookF_lt {cs : List (Int × Int)} {a b : Int} : ∀ {k s : Nat}, bookF cs k a b = some s → s < k ∧ cs.getD s (0, 0) = (a, b) ∧ 0 < a
  | k + 1, s, h => by
    unfold bookF at h
    split at h
    · rename_i h1
      have e := Option.some.inj h
      subst e
      exact ⟨by omega, h1⟩
    · obtain ⟨h1, h2⟩ := bookF_lt h
      exact ⟨by omega, h2⟩
theorem bookF_none {cs : List (Int × Int)} {a b : Int} : ∀ {k : Nat}, bookF cs k a b = none → ∀ s, s < k → ¬ (cs.getD s (0, 0) = (a, b) ∧ 0 < a)
  | k + 1, h, s, hs => by
    unfold bookF at h
    split at h
    · simp at h
    · rename_i h1
      by_cases e : s = k
      · subst e; exact h1
      · exact bookF_none h s (by omega)

set_option maxRecDepth 20000 in
set_option maxHeartbeats 3200000 in
theorem implBook (co : Option Addr) (m cc : Nat) (C : List (Int × Int)) (w : World) (hr : RdF w co m C) (hm : m ≤ 256) (hb : ∀ s, s < m → (0 ≤ (C.getD s (0, 0)).1 ∧ (C.getD s (0, 0)).1 ≤ 1000000) ∧ 0 ≤ (C.getD s (0, 0)).2 ∧ (C.getD s (0, 0)).2 ≤ 1000000) :
    Calls Try.prog 52 #[.slice co m cc] w fun e w' => e = .returned (.map (some w.heap.size)) ∧ Book w' w.heap.size C m ∧ w.grownBy w' none := by
  have HR := hide hr
  have HB := hide hb
  have hmm := @run_makeMap Try.prog
  have HK0 := hide (Book.none w C)
  have HG0 : Hid (w.grownBy (w.alloc (.map #[] 0)) none) := World.grownBy_alloc _ _ _
  clear hr hb
  go_enter Try.func52, Try.ntmps52
  go_wp2
  go_loopw [9] (fun iv wr => ∃ k : Nat, k ≤ m ∧ iv = .int .i64 k ∧ Hid (Book wr w.heap.size C k) ∧ Hid (w.grownBy wr none)) (fun iv _ => m - (intOf iv).toNat)
  case atStart => exact ⟨0, Nat.zero_le _, rfl, HK0, HG0⟩
  case round =>
    clear HK0 HG0
    obtain ⟨k, hk, rfl, hbk, hg⟩ := hrel
    by_cases hlt : k < m
    · obtain ⟨cb, cf, rfl, c0, c1⟩ := ((unhide HR).grown (unhide hg)).2 k hlt
      have hbd := unhide HB k hlt
      have hkI : (k : Int) < (m : Int) := by omega
      obtain ⟨D, hown, hD⟩ := unhide hbk
      have hstep : ∀ a b, bookF C (k + 1) a b = if C.getD k (0, 0) = (a, b) ∧ 0 < a then some k else bookF C k a b := fun _ _ => rfl
      generalize C.getD k (0, 0) = cd at *
      obtain ⟨p, q⟩ := cd
      dsimp only at c0 c1 hbd
      by_cases hp : 0 < p
      · have hd : decide ((0 : Int) < p) = true := decide_eq_true hp
        have wp := wf_small hbd.1
        have wq := wf_small hbd.2
        have HKEY := hide (keyField wp wq)
        have HOWN := hide (hown.alloc (.cells #[.int .i64 p, .int .i64 q] 30))
        have HD2 : Hid (∀ a b : Int, 0 ≤ a ∧ a ≤ 1000000 → 0 ≤ b ∧ b ≤ 1000000 → Maps.has (D.put (fieldKey p q) (.lit (.int .i64 (k : Int)))) (fieldKey a b) = (bookF C (k + 1) a b).isSome ∧ ∀ s, bookF C (k + 1) a b = some s → (D.put (fieldKey p q) (.lit (.int .i64 (k : Int)))).atKey (fieldKey a b) (.lit (.int .i64 0)) = .lit (.int .i64 (s : Int))) := fun a b ha hb2 => by
          rw [hstep]
          by_cases e : (p, q) = (a, b)
          · simp only [Prod.mk.injEq] at e
            obtain ⟨rfl, rfl⟩ := e
            rw [if_pos ⟨rfl, hp⟩]
            refine ⟨has_put_same hown.isMap (key_lit p q wp wq) _, fun s h => ?_⟩
            have e2 := Option.some.inj h
            subst e2
            exact atKey_put_same hown.isMap (key_lit p q wp wq) _ _
          · rw [if_neg (fun h => e h.1)]
            have hne : fieldKey a b ≠ fieldKey p q := fun h => by
              obtain ⟨h1, h2⟩ := key_inj (wf_small ha) (wf_small hb2) wp wq h
              exact e (by rw [h1, h2])
            rw [has_put_other hne, atKey_put_other hne]
            exact hD a b ha hb2
        have HGA : Hid (w.grownBy (wr.alloc (.cells #[.int .i64 p, .int .i64 q] 30)) none) := grown_alloc (unhide hg) _
        have hkm : k < maxLen := by unfold maxLen; omega
        have HKM := hide hkm
        clear hown hD hstep hbk wp wq hkm hbd
        go_wp2_with (at_mapUpdate; refine wpList_mapUpdate_own _ rfl _ _ _ 65 rfl 30 3 lawField Try.underlying65 _ w.heap.size k D rfl (unhide HOWN) (unhide HKM) _ _ _ rfl rfl (unhide HKEY) _ [] (plainElem_int Try.underlying3 (WalkArith.wf_i64 (by omega))) ?_)
        intro w1 hown1 hgrow1
        have HBK1 : Hid (Book w1 w.heap.size C (k + 1)) := ⟨_, hown1, unhide HD2⟩
        have HG1 := hide (grown_new (unhide HGA) hgrow1 (fun g e => by have := Option.some.inj e; omega))
        clear hown1 hgrow1 HOWN HD2 HGA
        go_wp2
        go_roundw
        case rel => exact ⟨k + 1, by omega, by go_num, HBK1, HG1⟩
        case measure => simp [intOf]; omega
      · have hd : decide ((0 : Int) < p) = false := decide_eq_false hp
        have HBK1 : Hid (Book (wr.alloc (.cells #[.int .i64 p, .int .i64 q] 30)) w.heap.size C (k + 1)) := by
          refine ⟨D, (hown.alloc _).mono (by omega), fun a b ha hb2 => ?_⟩
          rw [hstep, if_neg (fun h => by have e := congrArg Prod.fst h.1; dsimp only at e; omega)]
          exact hD a b ha hb2
        have HGA : Hid (w.grownBy (wr.alloc (.cells #[.int .i64 p, .int .i64 q] 30)) none) := grown_alloc (unhide hg) _
        clear hown hD hstep hbk
        go_wp2
        go_roundw
        case rel => exact ⟨k + 1, by omega, by go_num, HBK1, HGA⟩
        case measure => simp [intOf]; omega
    · obtain rfl : k = m := by omega
      go_wp2
      go_ret
      exact ⟨rfl, unhide hbk, unhide hg⟩

end Go.Proofs.Ytcbaiagkdphkeaa
