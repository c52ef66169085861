/-
  ScriptMath, LeftPure, NothingImpl, TellLeft, FrameRows, FrameLaws, FrameMarks, FrameBox, IntSSD, DeepI2, ScriptGive, PassOk, ScanImpl, GiveScanOk, LeftImpl.
-/
import Derived.Deep.QuietTactic
import Derived.BigQuiet
import Derived.Deep.RegionHeld3
import Derived.Test.YtnjcmlmgjoaeeaaMSc

namespace Go.Proofs.Ytnjcmlmgjoaeeaa

/-- Rows of 64 numbers. -/
def Rows64 (n : Nat) (X : List (List Int)) : Prop := X.length = n ∧ ∀ c, c < n → (X.getD c []).length = 64
/-- A number of a row of rows. -/
def atL (X : List (List Int)) (c k : Nat) : Int := (X.getD c []).getD k 0
theorem nothing_rows (n : Nat) : Rows64 n (nothing n) := by
  refine ⟨by simp [nothing], fun c hc => ?_⟩
  have : (nothing n).getD c [] = List.replicate 64 (-1) := by simp [nothing, hc]
  rw [this, List.length_replicate]
theorem getD_set_same {α : Type} (X : List α) (c : Nat) (x d : α) (h : c < X.length) : (X.set c x).getD c d = x := by simp [h]
theorem getD_set_other {α : Type} (X : List α) (c j : Nat) (x d : α) (h : c ≠ j) : (X.set c x).getD j d = X.getD j d := by simp [h]
/-- Nothing that was told is told less of. -/
def Finer (X Y : List (List Int)) : Prop := ∀ c k, k < 64 → 0 ≤ atL X c k → 0 ≤ atL Y c k ∧ atL Y c k ≤ atL X c k
theorem Finer.refl (X : List (List Int)) : Finer X X := fun _ _ _ h => ⟨h, Int.le_refl _⟩
theorem Finer.trans {X Y Z : List (List Int)} (h : Finer X Y) (g : Finer Y Z) : Finer X Z := fun c k hk h0 => by
  obtain ⟨a, b⟩ := h c k hk h0
  obtain ⟨c1, d⟩ := g c k hk a
  exact ⟨c1, Int.le_trans d b⟩
theorem leftComps_step {want lo : Int} {k m : Nat} (hkm : k + m ≤ 64) (hwl : want = -1 ∨ lo ≤ want) (hlo : 0 ≤ lo) {n : Nat} : ∀ (cs : List Int) (X Y : List (List Int)), Rows64 n X → (∀ c ∈ cs, 0 ≤ c ∧ c < (n : Int)) → leftComps want lo k m cs X = some Y → Rows64 n Y ∧ Finer X Y
  | [], X, Y, hX, _, h => by
    unfold leftComps at h
    rw [← Option.some.inj h]
    exact ⟨hX, Finer.refl X⟩
  | c :: cs, X, Y, hX, hc, h => by
    unfold leftComps at h
    obtain ⟨h0, h1⟩ := hc c (by simp)
    have hcn : c.toNat < n := by omega
    have hcl : c.toNat < X.length := by rw [hX.1]; exact hcn
    cases hr : leftRow want lo k m (X.getD c.toNat []) with
    | none => rw [hr] at h; exact absurd h (by simp)
    | some row =>
      rw [hr] at h
      have hl := leftRow_len k m _ row hr
      rw [hX.2 _ hcn] at hl
      have hS : Rows64 n (X.set c.toNat row) := by
        refine ⟨by rw [List.length_set]; exact hX.1, fun j hj => ?_⟩
        by_cases e : c.toNat = j
        · rw [← e, getD_set_same _ _ _ _ hcl]; exact hl
        · rw [getD_set_other _ _ _ _ _ e]; exact hX.2 j hj
      have hF : Finer X (X.set c.toNat row) := fun j q hq hp => by
        unfold atL at hp ⊢
        by_cases e : c.toNat = j
        · subst e
          rw [getD_set_same _ _ _ _ hcl]
          obtain ⟨a1, a2⟩ := leftRow_at k m _ row hr (by rw [hX.2 _ hcn]; exact hkm) q
          by_cases hin : k ≤ q ∧ q < k + m
          · obtain ⟨b1, b2⟩ := a2 hin.1 hin.2
            rw [b2]
            rw [b1] at hp ⊢
            omega
          · rw [a1 (by omega)]
            exact ⟨hp, Int.le_refl _⟩
        · rw [getD_set_other _ _ _ _ _ e]
          exact ⟨hp, Int.le_refl _⟩
      obtain ⟨r1, r2⟩ := leftComps_step hkm hwl hlo cs _ Y hS (fun c' hc' => hc c' (by simp [hc'])) h
      exact ⟨r1, hF.trans r2⟩

theorem leftAll_app (fb : Bool) (n : Nat) : ∀ (s t : List Scn) (X : List (List Int)), leftAll fb n (s ++ t) X = (leftAll fb n s X).bind (leftAll fb n t)
  | [], t, X => rfl
  | a :: s, t, X => by
    simp only [List.cons_append, leftAll]
    split
    · cases leftScan a X with
      | none => rfl
      | some Y => exact leftAll_app fb n s t Y
    · rfl

theorem okComps_in {n : Nat} {cs : List Int} (h : okComps n cs = true) : ∀ c ∈ cs, 0 ≤ c ∧ c < (n : Int) := by
  intro c hc
  obtain ⟨i, hi, rfl⟩ := List.mem_iff_getElem.1 hc
  simp only [okComps, Bool.and_eq_true, decide_eq_true_eq] at h
  obtain ⟨⟨h0, h1⟩, _⟩ := compsTo_at h.1 i hi
  have e : cs.getD i 0 = cs[i] := by simp [hi]
  rw [e] at h0 h1
  omega
theorem passB_in {a : Scn} (h : passB a = true) : 0 ≤ a.fr ∧ a.fr ≤ a.to ∧ a.to ≤ 63 ∧ 0 ≤ a.lo ∧ (a.hi = 0 ∨ a.hi = a.lo + 1) := by
  simp only [passB, Bool.and_eq_true, Bool.or_eq_true, decide_eq_true_eq] at h
  omega
theorem leftScan_step {fb : Bool} {n : Nat} {a : Scn} (ha : scanB fb n a = true) {X Y : List (List Int)} (hX : Rows64 n X) (h : leftScan a X = some Y) : Rows64 n Y ∧ Finer X Y := by
  simp only [scanB, Bool.and_eq_true] at ha
  obtain ⟨⟨_, hc⟩, hp⟩ := ha
  obtain ⟨p1, p2, p3, p4, p5⟩ := passB_in hp
  unfold leftScan at h
  refine leftComps_step (k := a.fr.toNat) (m := (a.to - a.fr + 1).toNat) (by omega) ?_ p4 a.cs X Y hX (okComps_in hc) h
  unfold wantOf
  split
  · exact .inl rfl
  · right; omega
theorem leftAll_step {fb : Bool} {n : Nat} : ∀ (s : List Scn) (X Y : List (List Int)), Rows64 n X → leftAll fb n s X = some Y → Rows64 n Y ∧ Finer X Y
  | [], X, Y, hX, h => by
    unfold leftAll at h
    rw [← Option.some.inj h]
    exact ⟨hX, Finer.refl X⟩
  | a :: s, X, Y, hX, h => by
    unfold leftAll at h
    split at h
    · rename_i hb
      cases hs : leftScan a X with
      | none => rw [hs] at h; exact absurd h (by simp)
      | some Z =>
        rw [hs] at h
        obtain ⟨z1, z2⟩ := leftScan_step hb hX hs
        obtain ⟨r1, r2⟩ := leftAll_step s Z Y z1 h
        exact ⟨r1, z2.trans r2⟩
    · exact absurd h (by simp)
/-- What is left of a script that is one: rows of 64. -/
theorem leftO_rows {fb : Bool} {n : Nat} {s : List Scn} {X : List (List Int)} (h : leftO fb n s = some X) : Rows64 n X := by
  unfold leftO at h
  split at h
  · exact (leftAll_step s _ X (nothing_rows n) h).1
  · exact absurd h (by simp)
/-- What is left of a script's beginning: as many rows, and where something was told it is told no less behind it. -/
theorem left_half {fb : Bool} {n : Nat} {s : List Scn} {X : List (List Int)} (h : leftO fb n s = some X) (k : Nat) (hk : k ≤ s.length) : ∃ H, leftO fb n (s.take k) = some H ∧ Rows64 n H ∧ Rows64 n X ∧ Finer H X := by
  have h0 := h
  unfold leftO at h
  split at h
  · rename_i hb
    rw [Bool.and_eq_true, decide_eq_true_eq] at hb
    have e : s = s.take k ++ s.drop k := (List.take_append_drop k s).symm
    rw [e, leftAll_app] at h
    cases hs : leftAll fb n (s.take k) (nothing n) with
    | none => rw [hs] at h; exact absurd h (by simp)
    | some H =>
      rw [hs] at h
      have h2 : leftAll fb n (s.drop k) H = some X := h
      obtain ⟨r1, _⟩ := leftAll_step _ _ H (nothing_rows n) hs
      obtain ⟨r2, r3⟩ := leftAll_step _ _ X r1 h2
      refine ⟨H, ?_, r1, r2, r3⟩
      unfold leftO
      rw [if_pos]
      · exact hs
      · rw [Bool.and_eq_true, decide_eq_true_eq, List.length_take]
        exact ⟨hb.1, by omega⟩
  · exact absurd h (by simp)

/-- The three scripts tell all, and nothing comes behind them. -/
theorem script_tells (n : Nat) (h1 : 1 ≤ n) (h4 : n ≤ 4) (kind : Int) (hk : 0 ≤ kind ∧ kind ≤ 2) : scriptB true n (scriptG true n kind) = true ∧ ∃ a s, scriptG true n kind = a :: s ∧ leftG true n (scriptG true n kind ++ [a]) = [] := by
  have hn : n = 1 ∨ n = 2 ∨ n = 3 ∨ n = 4 := by omega
  have hk3 : kind = 0 ∨ kind = 1 ∨ kind = 2 := by omega
  rcases hn with rfl | rfl | rfl | rfl <;> rcases hk3 with rfl | rfl | rfl <;> exact ⟨by kernel_rfl, _, _, rfl, by kernel_rfl⟩

end Go.Proofs.Ytnjcmlmgjoaeeaa

namespace Go.Proofs.Ytnjcmlmgjoaeeaa

theorem leftRow_app (want lo : Int) : ∀ (m k d : Nat) (row : List Int), leftRow want lo k (m + d) row = (leftRow want lo k m row).bind (leftRow want lo (k + m) d)
  | 0, k, d, row => by rw [Nat.zero_add]; rfl
  | m + 1, k, d, row => by
    have e : m + 1 + d = (m + d) + 1 := by omega
    rw [e]
    simp only [leftRow]
    split
    · rw [leftRow_app want lo m (k + 1) d]
      have e2 : k + 1 + m = k + (m + 1) := by omega
      rw [e2]
    · rfl
theorem leftComps_app (want lo : Int) (k m : Nat) : ∀ (cs ds : List Int) (X : List (List Int)), leftComps want lo k m (cs ++ ds) X = (leftComps want lo k m cs X).bind (leftComps want lo k m ds)
  | [], ds, X => rfl
  | c :: cs, ds, X => by
    simp only [List.cons_append, leftComps]
    cases leftRow want lo k m (X.getD c.toNat []) with
    | none => rfl
    | some row => exact leftComps_app want lo k m cs ds _
/-- One place more. -/
theorem leftRow_next {want lo : Int} {k m : Nat} {row r : List Int} (h : leftRow want lo k m row = some r) (hw : r.getD (k + m) 0 = want) : leftRow want lo k (m + 1) row = some (r.set (k + m) lo) := by
  rw [leftRow_app, h]
  show leftRow want lo (k + m) 1 r = _
  simp only [leftRow, hw, if_true]
theorem leftRow_fails {want lo : Int} {k m M : Nat} {row r : List Int} (h : leftRow want lo k m row = some r) (hw : r.getD (k + m) 0 ≠ want) (hM : m < M) : leftRow want lo k M row = none := by
  obtain ⟨d, rfl⟩ : ∃ d, M = m + (d + 1) := ⟨M - m - 1, by omega⟩
  rw [leftRow_app, h]
  show leftRow want lo (k + m) (d + 1) r = none
  simp only [leftRow, hw, if_false]
theorem leftComps_next {want lo : Int} {k m : Nat} {cs : List Int} {X Y : List (List Int)} (j : Nat) (hj : j < cs.length) (h : leftComps want lo k m (cs.take j) X = some Y) {row : List Int} (hr : leftRow want lo k m (Y.getD (cs.getD j 0).toNat []) = some row) : leftComps want lo k m (cs.take (j + 1)) X = some (Y.set (cs.getD j 0).toNat row) := by
  have e : cs.getD j 0 = cs[j] := by simp [hj]
  rw [List.take_succ_eq_append_getElem hj, leftComps_app, h]
  rw [e] at hr ⊢
  show leftComps want lo k m [cs[j]] Y = _
  simp only [leftComps, hr]
theorem leftComps_fails {want lo : Int} {k m : Nat} {cs : List Int} {X Y : List (List Int)} (j : Nat) (hj : j < cs.length) (h : leftComps want lo k m (cs.take j) X = some Y) (hr : leftRow want lo k m (Y.getD (cs.getD j 0).toNat []) = none) : leftComps want lo k m cs X = none := by
  have e : cs.getD j 0 = cs[j] := by simp [hj]
  have e2 : cs = cs.take j ++ cs[j] :: cs.drop (j + 1) := by rw [List.getElem_cons_drop]; exact (List.take_append_drop j cs).symm
  rw [e] at hr
  rw [e2, leftComps_app, h]
  show leftComps want lo k m (cs[j] :: cs.drop (j + 1)) Y = none
  simp only [leftComps, hr]
theorem leftAll_next {fb : Bool} {n : Nat} {s : List Scn} {X Y Z : List (List Int)} (i : Nat) (hi : i < s.length) (h : leftAll fb n (s.take i) X = some Y) (hb : scanB fb n s[i] = true) (hs : leftScan s[i] Y = some Z) : leftAll fb n (s.take (i + 1)) X = some Z := by
  rw [List.take_succ_eq_append_getElem hi, leftAll_app, h]
  show leftAll fb n [s[i]] Y = _
  simp only [leftAll, hb, if_true, hs]
theorem leftAll_fails {fb : Bool} {n : Nat} {s : List Scn} {X Y : List (List Int)} (i : Nat) (hi : i < s.length) (h : leftAll fb n (s.take i) X = some Y) (hs : scanB fb n s[i] = false ∨ leftScan s[i] Y = none) : leftAll fb n s X = none := by
  have e2 : s = s.take i ++ s[i] :: s.drop (i + 1) := by rw [List.getElem_cons_drop]; exact (List.take_append_drop i s).symm
  rw [e2, leftAll_app, h]
  show leftAll fb n (s[i] :: s.drop (i + 1)) Y = none
  rcases hs with hs | hs
  · simp only [leftAll, hs, Bool.false_eq_true, if_false]
  · simp only [leftAll, hs, ite_self]

end Go.Proofs.Ytnjcmlmgjoaeeaa

namespace Go.Proofs.Ytnjcmlmgjoaeeaa
open Go.RowKit

theorem toNoBit (x : Int) (w : World) : Calls Try.prog 83 #[.int .i64 x] w fun e w' => e = .returned (.int .i64 (-1)) ∧ w.grownBy w' none := by
  go_enter Try.func83, Try.ntmps83
  go_wp2
  go_ret
  exact ⟨rfl, World.grownBy.refl _ _⟩
theorem nothing_app (i : Nat) : nothing i ++ [List.replicate 64 (-1)] = nothing (i + 1) := by
  unfold nothing
  generalize List.replicate 64 (-1 : Int) = r
  rw [List.replicate_succ']
theorem nothing_len (i : Nat) : (nothing i).length = i := by unfold nothing; rw [List.length_replicate]
theorem made_minus : made (fun _ => -1) = List.replicate 64 (-1) := rfl
theorem eachNoBit (w : World) : Calls Try.prog 82 #[.agg #[.int .i64 0, .int .i64 0, .int .i64 0, .int .i64 0, .int .i64 0, .int .i64 0, .int .i64 0, .int .i64 0, .int .i64 0, .int .i64 0, .int .i64 0, .int .i64 0, .int .i64 0, .int .i64 0, .int .i64 0, .int .i64 0, .int .i64 0, .int .i64 0, .int .i64 0, .int .i64 0, .int .i64 0, .int .i64 0, .int .i64 0, .int .i64 0, .int .i64 0, .int .i64 0, .int .i64 0, .int .i64 0, .int .i64 0, .int .i64 0, .int .i64 0, .int .i64 0, .int .i64 0, .int .i64 0, .int .i64 0, .int .i64 0, .int .i64 0, .int .i64 0, .int .i64 0, .int .i64 0, .int .i64 0, .int .i64 0, .int .i64 0, .int .i64 0, .int .i64 0, .int .i64 0, .int .i64 0, .int .i64 0, .int .i64 0, .int .i64 0, .int .i64 0, .int .i64 0, .int .i64 0, .int .i64 0, .int .i64 0, .int .i64 0, .int .i64 0, .int .i64 0, .int .i64 0, .int .i64 0, .int .i64 0, .int .i64 0, .int .i64 0, .int .i64 0], .func (.func 83) #[] #[]] w fun e w' => e = .returned (.agg (sq (List.replicate 64 (-1)))) ∧ w.grownBy w' none := by
  rw [← sq_z64, ← made_minus]
  exact each zs64 zs64_len (fun _ => -1) 83 #[] (fun args w => by kernel_rfl) w (fun k _ W _ => toNoBit _ W)

set_option maxRecDepth 100000 in
set_option maxHeartbeats 1600000 in
theorem nothingTold (n : Nat) (hn : n ≤ 4) (w : World) : Calls Try.prog 72 #[.int .i64 n] w fun e w' => ∃ b, e = .returned (.map (some b)) ∧ w.heap.size ≤ b ∧ OwM w' b (nothing n) ∧ w.grownBy w' none := by
  have hmm := @run_makeMap Try.prog
  have HO0 := hide (OwM.made w)
  have HG0 : Hid (w.grownBy (w.alloc (.map #[] 0)) none) := World.grownBy_alloc _ _ _
  go_enter Try.func72, Try.ntmps72
  go_wp2
  clear hmm
  go_loopw [7] (fun iv wr => ∃ k : Nat, k ≤ n ∧ iv = .int .i64 k ∧ Hid (OwM wr w.heap.size (nothing k)) ∧ Hid (w.grownBy wr none)) (fun iv _ => n - (intOf iv).toNat)
  case atStart => exact ⟨0, Nat.zero_le _, rfl, HO0, HG0⟩
  case round =>
    clear HO0 HG0
    obtain ⟨k, hk, rfl, hO, hG⟩ := hrel
    by_cases hlt : k < n
    · have hd : decide ((k : Int) < (n : Int)) = true := decide_eq_true (by omega)
      go_wp2_with fail
      obtain ⟨Z, HZ⟩ : ∃ Z, Hid (Value.agg #[.int .i64 0, .int .i64 0, .int .i64 0, .int .i64 0, .int .i64 0, .int .i64 0, .int .i64 0, .int .i64 0, .int .i64 0, .int .i64 0, .int .i64 0, .int .i64 0, .int .i64 0, .int .i64 0, .int .i64 0, .int .i64 0, .int .i64 0, .int .i64 0, .int .i64 0, .int .i64 0, .int .i64 0, .int .i64 0, .int .i64 0, .int .i64 0, .int .i64 0, .int .i64 0, .int .i64 0, .int .i64 0, .int .i64 0, .int .i64 0, .int .i64 0, .int .i64 0, .int .i64 0, .int .i64 0, .int .i64 0, .int .i64 0, .int .i64 0, .int .i64 0, .int .i64 0, .int .i64 0, .int .i64 0, .int .i64 0, .int .i64 0, .int .i64 0, .int .i64 0, .int .i64 0, .int .i64 0, .int .i64 0, .int .i64 0, .int .i64 0, .int .i64 0, .int .i64 0, .int .i64 0, .int .i64 0, .int .i64 0, .int .i64 0, .int .i64 0, .int .i64 0, .int .i64 0, .int .i64 0, .int .i64 0, .int .i64 0, .int .i64 0, .int .i64 0] = Z) := ⟨_, rfl⟩
      have HE := hide (fun w => eachNoBit w)
      rw [unhide HZ] at HE ⊢
      clear HZ
      refine (unhide HE _).mono ?_
      rintro e w2 ⟨rfl, g2⟩
      have HO2 := hide ((unhide hO).keep g2 (by simp))
      have HG2 := hide (grown_trans (unhide hG) g2)
      clear g2 hO hG HE
      obtain ⟨R, HR⟩ : ∃ R, Hid (List.replicate 64 (-1 : Int) = R) := ⟨_, rfl⟩
      rw [unhide HR]
      go_wp2_with (at_mapUpdate; refine wp_storeM rfl _ _ _ rfl w.heap.size (nothing k) k R rfl rfl rfl (unhide HO2) (Nat.le_of_eq (nothing_len k).symm) (by rw [nothing_len]; omega) ?_; intro w3 hO3 g3; rw [if_pos (nothing_len k).symm, ← unhide HR, nothing_app] at hO3; replace hO3 := hide hO3; replace g3 := hide g3)
      have HG3 := hide (grown_new (unhide HG2) (unhide g3) (fun g e => by simp at e; omega))
      go_roundw
      case rel => exact ⟨k + 1, by omega, by go_num, hO3, HG3⟩
      case measure => simp [intOf]; omega
    · obtain rfl : n = k := by omega
      have hd : decide ((n : Int) < (n : Int)) = false := decide_eq_false (by omega)
      go_wp2
      go_ret
      exact ⟨_, rfl, Nat.le_refl _, unhide hO, unhide hG⟩

theorem wp_bit {ops : Array Oper} {rest : List Oper} {op : Oper} {a : Act} {w : World} {Q : Exit → Act → World → Prop} (hw : Region.wanted op (yielded ops a.tmps) = true) (x : Operand) (ho : op.op = .call { callee := .invoke x "loop.example/g00139/impl.bit", args := #[], argTypes := #[] }) (s : Scn) (hx : a.eval x = pV s)
    (hK : ∀ w', w.grownBy w' none → wpList Try.prog ops Q rest (a.put op.dst (.int .i64 s.lo)) w') : wpList Try.prog ops Q (op :: rest) a w :=
  BigFrame.wpList_want hw fun K hC => by
    have h1 := fun w => methFirst s.lo w
    have h2 := fun w => methRefining s.hi s.lo w
    unfold pV at hx
    unfold Oper.wp
    by_cases h0 : s.hi = 0
    · rw [if_pos h0] at hx
      simp only [execOp, ho, resolve, hx]
      go_simp
      refine (firstBit s.lo w).mono ?_
      rintro e w2 ⟨rfl, g2⟩
      exact hC _ _ (hK w2 g2)
    · rw [if_neg h0] at hx
      simp only [execOp, ho, resolve, hx]
      go_simp
      refine (refiningBit s.hi s.lo w).mono ?_
      rintro e w2 ⟨rfl, g2⟩
      exact hC _ _ (hK w2 g2)

end Go.Proofs.Ytnjcmlmgjoaeeaa

namespace Go.Proofs.Ytnjcmlmgjoaeeaa
open Go.RowKit

theorem wp_setM {ops : Array Oper} {rest : List Oper} {op : Oper} {a : Act} {w : World} {Q : Exit → Act → World → Prop} (hw : Region.wanted op (yielded ops a.tmps) = true) (m x y : Operand) (ho : op.op = .mapUpdate 77 m x y) (b : Nat) (L : List (List Int)) (i : Nat) (xs : List Int)
    (hm : a.eval m = .map (some b)) (hx : a.eval x = .int .i64 i) (hy : a.eval y = .agg (sq xs)) (h : OwM w b L) (hi : i < L.length) (hL : L.length < 1000000) (L' : List (List Int)) (hL' : L.set i xs = L')
    (hK : ∀ w', OwM w' b L' → w.grownBy w' (some b) → wpList Try.prog ops Q rest (a.put op.dst undef) w') : wpList Try.prog ops Q (op :: rest) a w :=
  wp_storeM hw m x y ho b L i xs hm hx hy h (Nat.le_of_lt hi) hL (fun w' h1 h2 => hK w' (by rw [if_neg (by omega), hL'] at h1; exact h1) h2)
theorem wp_lookM {ops : Array Oper} {rest : List Oper} {op : Oper} {a : Act} {w : World} {Q : Exit → Act → World → Prop} (hw : Region.wanted op (yielded ops a.tmps) = true) (m x : Operand) (ho : op.op = .lookup 77 m x false) (b : Nat) (L : List (List Int)) (i : Nat)
    (hm : a.eval m = .map (some b)) (hx : a.eval x = .int .i64 i) (h : OwM w b L) (hi : i < L.length) (hL : L.length < 1000000) (xs : List Int) (hxs : L.getD i [] = xs)
    (hK : wpList Try.prog ops Q rest (a.put op.dst (.agg (sq xs))) w) : wpList Try.prog ops Q (op :: rest) a w :=
  BigFrame.wpList_want hw fun _ hC => by
    have hrun := h.look i hi (by omega)
    rw [hxs] at hrun
    unfold Oper.wp
    simp [execOp, ho, hm, hx, hrun, Result.andThen]
    exact hC _ _ hK
theorem OwM.ne {w : World} {b : Nat} {L : List (List Int)} (h : OwM w b L) {x o : Nat} {v : Value} (hc : w.cell? ⟨x, o, none⟩ = some v) : some x ≠ some b := by
  intro e
  injection e with e
  subst e
  obtain ⟨D, n, ⟨es, clock, hb, _⟩, _⟩ := h
  simp [World.cell?, hb] at hc

theorem sq_setT (zs : List Int) (j : Nat) (v : Int) : (sq zs).setIfInBounds j (.int .i64 v) = sq (zs.set j v) := by simp [sq]
/-- The map goes on; the scan lies in its box. -/
structure Tm (w wr : World) (b : Nat) (sx : Array Value) (Y : List (List Int)) : Prop where
  sc : wr.heap[w.heap.size]? = some (.cells sx 38 (0, 0))
  own : OwM wr b Y
  lt : b < w.heap.size
  grown : w.grownBy wr (some b)
theorem Tm.size {w wr : World} {b : Nat} {sx : Array Value} {Y : List (List Int)} (h : Tm w wr b sx Y) : w.heap.size + 1 ≤ wr.heap.size := (Array.getElem?_eq_some_iff.1 h.sc).1
theorem Tm.new {w wr w' : World} {b : Nat} {sx : Array Value} {Y : List (List Int)} (h : Tm w wr b sx Y) (g : wr.grownBy w' none) : Tm w w' b sx Y :=
  ⟨at_rowS g h.sc (by simp), h.own.keep g (by simp), h.lt, grown_trans h.grown (grown_any g)⟩
theorem Tm.wr {w wr w' : World} {b x : Nat} {sx : Array Value} {Y : List (List Int)} (h : Tm w wr b sx Y) (g : wr.grownBy w' (some x)) (hx : w.heap.size + 1 ≤ x) : Tm w w' b sx Y := by
  have hl := h.lt
  exact ⟨at_rowS g h.sc (fun e => by injection e with e; omega), h.own.keep g (fun e => by injection e with e; omega), h.lt, World.grownBy.andThen h.grown g (fun j e => by injection e with e; left; omega)⟩
theorem Tm.put {w wr w' : World} {b : Nat} {sx : Array Value} {Y Z : List (List Int)} (h : Tm w wr b sx Y) (o : OwM w' b Z) (g : wr.grownBy w' (some b)) : Tm w w' b sx Z := by
  have hl := h.lt
  exact ⟨at_rowS g h.sc (fun e => by injection e with e; omega), o, h.lt, grown_trans h.grown g⟩

set_option maxRecDepth 20000 in
set_option maxHeartbeats 6400000 in
theorem tell (n : Nat) (hn : n ≤ 4) (X : List (List Int)) (hX : Rows64 n X) (b : Nat) (vo : Option Addr) (vn vc : Nat) (a : Scn) (w : World) (hv : Rd .i64 w vo vn a.cs) (hvn : vn ≤ 4194304) (hM : OwM w b X) (ha : scanB true n a = true) (r : Option (List (List Int))) (HR : Hid (leftScan a X = r)) :
    Calls Try.prog 73 #[.map (some b), scV (.slice vo vn vc) a] w fun e w' => e = .returned (.bool r.isSome) ∧ (∀ Y, r = some Y → OwM w' b Y) ∧ w.grownBy w' (some b) := by
  have hp : passB a = true := by unfold scanB at ha; simp only [Bool.and_eq_true] at ha; exact ha.2
  have hc : okComps n a.cs = true := by unfold scanB at ha; simp only [Bool.and_eq_true] at ha; exact ha.1.2
  obtain ⟨q0, q1, q2, q3, q4⟩ := passB_in hp
  have HIN := hide (okComps_in hc)
  have hbit : bitsB a = true := by
    unfold passB at hp
    unfold bitsB
    simp only [Bool.and_eq_true] at hp ⊢
    exact ⟨hp.1.2, hp.2⟩
  have HPASS := hide (fun W => passOf W (.slice vo vn vc) a (pV a) (by unfold Hid pVN; rw [if_pos hbit]))
  have HMAY := hide (fun W last => mayTell W a.hi a.lo last)
  have HRL : Hid (∀ j, j ≤ a.cs.length → ∀ Y, leftComps (wantOf a) a.lo a.fr.toNat (a.to - a.fr + 1).toNat (a.cs.take j) X = some Y → Rows64 n Y) := fun j _ Y h => (leftComps_step (by omega) (by unfold wantOf; split <;> omega) q3 (a.cs.take j) X Y hX (fun c hc' => unhide HIN c (List.mem_of_mem_take hc')) h).1
  have hpe : pV ⟨[], 0, 0, a.hi, a.lo⟩ = pV a := rfl
  rw [hpe] at HMAY
  obtain ⟨pv, HPV⟩ : ∃ pv, Hid (pV a = pv) := ⟨_, rfl⟩
  rw [unhide HPV] at HPASS HMAY
  have hl := hv.1
  have hr := unhide HR
  unfold leftScan at hr
  obtain ⟨want, HWN⟩ : ∃ z, Hid (wantOf a = z) := ⟨_, rfl⟩
  have hwe : (if a.hi = 0 then -1 else a.hi) = want := unhide HWN
  rw [hwe] at HMAY
  rw [unhide HWN] at hr HRL
  have hMl := hM.lt
  have HAE := hide (Eq.refl a)
  clear hp hc ha hbit HR hX hpe hwe HWN
  obtain ⟨cs, fr, to, hi, lo⟩ := a
  unfold scV at HPASS ⊢
  dsimp only at hv hl q0 q1 q2 q3 q4 HPASS HMAY HRL hr HIN ⊢
  clear HAE
  obtain ⟨k0, rfl⟩ := Int.eq_ofNat_of_zero_le q0
  obtain ⟨k1, rfl⟩ := Int.eq_ofNat_of_zero_le (show 0 ≤ to by omega)
  have em : ((k1 : Int) - (k0 : Int) + 1).toNat = k1 + 1 - k0 := by omega
  have ek : ((k0 : Int)).toNat = k0 := rfl
  rw [em, ek] at hr HRL
  have HT0 : Hid (Tm w (w.alloc (.cells #[.slice vo vn vc, .int .i64 k0, .int .i64 k1, .int .i64 hi, .int .i64 lo] 38)) b #[.slice vo vn vc, .int .i64 k0, .int .i64 k1, .int .i64 hi, .int .i64 lo] X) :=
    ⟨heap_alloc_new w _, hM.keep (World.grownBy_alloc _ _ none) (by simp), hMl, World.grownBy_alloc _ _ _⟩
  obtain ⟨c0, c1, c2, c3, c4⟩ := scanCells (unhide HT0).sc
  have HRR := hide hr
  have HV := hide hv
  have HMM := hide hM
  clear hr hv em ek hM
  go_enter Try.func73, Try.ntmps73
  go_wp2_with fail
  clear c0 c1 c2 c3 c4
  refine (unhide HPASS _).mono ?_
  rintro e w1 ⟨rfl, g1⟩
  have HT1 := hide ((unhide HT0).new g1)
  clear HT0 g1 HPASS
  obtain ⟨c0, c1, c2, c3, c4⟩ := scanCells (unhide HT1).sc
  go_wp2
  clear c0 c1 c2 c3 c4
  go_loopw [15] (fun iv wr => ∃ (j : Nat) (Y : List (List Int)), j ≤ vn ∧ iv = .int .i64 j ∧ Hid (Tm w wr b #[.slice vo vn vc, .int .i64 k0, .int .i64 k1, .int .i64 hi, .int .i64 lo] Y) ∧ Hid (leftComps want lo k0 (k1 + 1 - k0) (cs.take j) X = some Y)) (fun iv _ => vn - (intOf iv).toNat)
  case atStart => exact ⟨0, X, Nat.zero_le _, rfl, HT1, rfl⟩
  case round =>
    clear HT1
    obtain ⟨j, Y, hj, rfl, hT, hY⟩ := hrel
    have HR64 := hide (unhide HRL j (by omega) Y (unhide hY))
    by_cases hlt : j < vn
    · have hd : decide ((j : Int) < (vn : Int)) = true := decide_eq_true (by omega)
      have hjI : (0 : Int) ≤ (j : Int) := by omega
      obtain ⟨vb, voff, rfl, hc⟩ := (unhide HV).2 j hlt
      have hcw := (unhide hT).grown.cell hc ((unhide HMM).ne hc)
      have hin := unhide HIN (cs.getD j 0) (by rw [show cs.getD j 0 = cs[j]'(by omega) by simp [show j < cs.length by omega]]; exact List.getElem_mem _)
      have NEXT : Hid (∀ row, leftRow want lo k0 (k1 + 1 - k0) (Y.getD (cs.getD j 0).toNat []) = some row → leftComps want lo k0 (k1 + 1 - k0) (cs.take (j + 1)) X = some (Y.set (cs.getD j 0).toNat row)) := fun row h => leftComps_next j (by omega) (unhide hY) h
      have FAIL : Hid (leftRow want lo k0 (k1 + 1 - k0) (Y.getD (cs.getD j 0).toNat []) = none → r = none) := fun h => by rw [← unhide HRR]; exact leftComps_fails j (by omega) (unhide hY) h
      obtain ⟨c, hce⟩ := Int.eq_ofNat_of_zero_le hin.1
      have hcn : c < n := by have := hin.2; omega
      rw [hce] at NEXT FAIL hcw
      have ec : ((c : Int)).toNat = c := rfl
      rw [ec] at NEXT FAIL
      obtain ⟨row, HROW⟩ : ∃ row, Hid (Y.getD c [] = row) := ⟨_, rfl⟩
      have hYl := (unhide HR64).1
      have hrl : row.length = 64 := by rw [← unhide HROW]; exact (unhide HR64).2 c hcn
      rw [unhide HROW] at NEXT FAIL
      clear hin hce ec hc
      obtain ⟨d0, d1, d2, d3, d4⟩ := scanCells (unhide hT).sc
      have HZ0 := hide (heap_alloc_new wr (.cells #[.int .i64 0, .int .i64 0, .int .i64 0, .int .i64 0, .int .i64 0, .int .i64 0, .int .i64 0, .int .i64 0, .int .i64 0, .int .i64 0, .int .i64 0, .int .i64 0, .int .i64 0, .int .i64 0, .int .i64 0, .int .i64 0, .int .i64 0, .int .i64 0, .int .i64 0, .int .i64 0, .int .i64 0, .int .i64 0, .int .i64 0, .int .i64 0, .int .i64 0, .int .i64 0, .int .i64 0, .int .i64 0, .int .i64 0, .int .i64 0, .int .i64 0, .int .i64 0, .int .i64 0, .int .i64 0, .int .i64 0, .int .i64 0, .int .i64 0, .int .i64 0, .int .i64 0, .int .i64 0, .int .i64 0, .int .i64 0, .int .i64 0, .int .i64 0, .int .i64 0, .int .i64 0, .int .i64 0, .int .i64 0, .int .i64 0, .int .i64 0, .int .i64 0, .int .i64 0, .int .i64 0, .int .i64 0, .int .i64 0, .int .i64 0, .int .i64 0, .int .i64 0, .int .i64 0, .int .i64 0, .int .i64 0, .int .i64 0, .int .i64 0, .int .i64 0] 104))
      have HTA := hide ((unhide hT).new (World.grownBy_alloc wr (.cells #[.int .i64 0, .int .i64 0, .int .i64 0, .int .i64 0, .int .i64 0, .int .i64 0, .int .i64 0, .int .i64 0, .int .i64 0, .int .i64 0, .int .i64 0, .int .i64 0, .int .i64 0, .int .i64 0, .int .i64 0, .int .i64 0, .int .i64 0, .int .i64 0, .int .i64 0, .int .i64 0, .int .i64 0, .int .i64 0, .int .i64 0, .int .i64 0, .int .i64 0, .int .i64 0, .int .i64 0, .int .i64 0, .int .i64 0, .int .i64 0, .int .i64 0, .int .i64 0, .int .i64 0, .int .i64 0, .int .i64 0, .int .i64 0, .int .i64 0, .int .i64 0, .int .i64 0, .int .i64 0, .int .i64 0, .int .i64 0, .int .i64 0, .int .i64 0, .int .i64 0, .int .i64 0, .int .i64 0, .int .i64 0, .int .i64 0, .int .i64 0, .int .i64 0, .int .i64 0, .int .i64 0, .int .i64 0, .int .i64 0, .int .i64 0, .int .i64 0, .int .i64 0, .int .i64 0, .int .i64 0, .int .i64 0, .int .i64 0, .int .i64 0, .int .i64 0] 104) none))
      have hsz := (unhide hT).size
      have HLEN := hide hrl
      clear hrl
      go_wp2_with (first | (at_lookup; refine wp_lookM rfl _ _ rfl b Y c rfl rfl (unhide hT).own (by omega) (by omega) row (unhide HROW) ?_) | (refine store_row rfl 104 _ _ rfl wr.heap.size rfl (sq row) rfl #[.int .i64 0, .int .i64 0, .int .i64 0, .int .i64 0, .int .i64 0, .int .i64 0, .int .i64 0, .int .i64 0, .int .i64 0, .int .i64 0, .int .i64 0, .int .i64 0, .int .i64 0, .int .i64 0, .int .i64 0, .int .i64 0, .int .i64 0, .int .i64 0, .int .i64 0, .int .i64 0, .int .i64 0, .int .i64 0, .int .i64 0, .int .i64 0, .int .i64 0, .int .i64 0, .int .i64 0, .int .i64 0, .int .i64 0, .int .i64 0, .int .i64 0, .int .i64 0, .int .i64 0, .int .i64 0, .int .i64 0, .int .i64 0, .int .i64 0, .int .i64 0, .int .i64 0, .int .i64 0, .int .i64 0, .int .i64 0, .int .i64 0, .int .i64 0, .int .i64 0, .int .i64 0, .int .i64 0, .int .i64 0, .int .i64 0, .int .i64 0, .int .i64 0, .int .i64 0, .int .i64 0, .int .i64 0, .int .i64 0, .int .i64 0, .int .i64 0, .int .i64 0, .int .i64 0, .int .i64 0, .int .i64 0, .int .i64 0, .int .i64 0, .int .i64 0] 104 (unhide HZ0) (by rw [sq_size, unhide HLEN]; rfl) (by rw [sq_size, unhide HLEN]; kernel_rfl) (sq_one _) ?_; intro w3 hB3 g3; replace hB3 := hide hB3; replace g3 := hide g3; have HT3 := hide ((unhide HTA).wr (unhide g3) hsz); obtain ⟨f0, f1, f2, f3, f4⟩ := scanCells (unhide HT3).sc; clear d0 d1 d2 d3 d4))
      clear f0 f1 f2 f3 f4 HZ0 HTA g3 hT hcw
      obtain ⟨g, HGE⟩ : ∃ g, Hid (wr.heap.size = g) := ⟨_, rfl⟩
      rw [unhide HGE] at hB3 hsz ⊢
      clear HGE
      go_loopw [9] (fun kv wr => ∃ (m : Nat) (rr : List Int), m ≤ k1 + 1 - k0 ∧ kv = .int .i64 (k0 + m : Nat) ∧ Hid (Tm w wr b #[.slice (some ⟨vb, voff, none⟩) vn vc, .int .i64 k0, .int .i64 k1, .int .i64 hi, .int .i64 lo] Y) ∧ Hid (wr.heap[g]? = some (.cells (sq rr) 104 (0, 0))) ∧ Hid (leftRow want lo k0 m row = some rr) ∧ Hid (rr.length = 64)) (fun kv _ => k1 + 1 - (intOf kv).toNat)
      case atStart => exact ⟨0, row, Nat.zero_le _, rfl, HT3, hB3, rfl, HLEN⟩
      case round =>
        clear HT3 hB3
        obtain ⟨m, rr, hm, rfl, hT, hB, hr, hL⟩ := hrel
        obtain ⟨d0, d1, d2, d3, d4⟩ := scanCells (unhide hT).sc
        by_cases hlk : m < k1 + 1 - k0
        · have he : decide (((k0 + m : Nat) : Int) ≤ (k1 : Int)) = true := decide_eq_true (by omega)
          have p0 : (0 : Int) ≤ ((k0 + m : Nat) : Int) := by omega
          have p1 : ((k0 + m : Nat) : Int) < 64 := by omega
          have cb := sq_cell (unhide hB) (k0 + m) (by rw [unhide hL]; omega)
          obtain ⟨last, HLA⟩ : ∃ z, Hid (rr.getD (k0 + m) 0 = z) := ⟨_, rfl⟩
          rw [unhide HLA] at cb
          have RN : Hid (last = want → leftRow want lo k0 (m + 1) row = some (rr.set (k0 + m) lo)) := fun h => leftRow_next (unhide hr) (by rw [unhide HLA]; exact h)
          have RF : Hid (last ≠ want → r = none) := fun h => unhide FAIL (leftRow_fails (unhide hr) (by rw [unhide HLA]; exact h) hlk)
          obtain ⟨tk, HTK⟩ : ∃ t, Hid (decide (last = want) = t) := ⟨_, rfl⟩
          have HM1 := hide (unhide HMAY wr last)
          rw [unhide HTK] at HM1
          go_wp2_with fail
          clear d0 d1 d2 d3 d4 cb
          refine (unhide HM1).mono ?_
          rintro e w5 ⟨rfl, g5⟩
          have HT5 := hide ((unhide hT).new g5)
          have HB5 := hide (at_rowS g5 (unhide hB) (by simp))
          clear g5 hT hB HM1
          cases tk with
          | false =>
            obtain rfl := unhide RF (of_decide_eq_false (unhide HTK))
            go_wp2
            go_ret
            exact ⟨rfl, fun Y e => absurd e (by simp), (unhide HT5).grown⟩
          | true =>
            have HRW := hide (unhide RN (of_decide_eq_true (unhide HTK)))
            go_wp2_with (refine wp_bit rfl _ rfl ⟨cs, (k0 : Int), (k1 : Int), hi, lo⟩ (unhide HPV).symm ?_; intro w6 g6; have HT6 := hide ((unhide HT5).new g6); have HB6 := hide (at_rowS g6 (unhide HB5) (by simp)); clear g6; have cb := sq_cell (unhide HB6) (k0 + m) (by rw [unhide hL]; omega); have cf := sq_frozen (unhide HB6) (k0 + m))
            have hB7 := heap_setCell_same w6 g (k0 + m) _ _ (.int .i64 lo) (unhide HB6)
            rw [sq_setT] at hB7
            have HB7 := hide hB7
            have HT7 := hide ((unhide HT6).wr (grown_set w6 g (k0 + m) (.int .i64 lo)) hsz)
            have HL7 : Hid ((rr.set (k0 + m) lo).length = 64) := by unfold Hid; rw [List.length_set]; exact unhide hL
            clear hB7 cb cf HT6 HB6 HT5 HB5
            go_roundw
            case rel => exact ⟨m + 1, rr.set (k0 + m) lo, by omega, by go_num, HT7, HB7, HRW, HL7⟩
            case measure => simp [intOf]; omega
        · obtain rfl : m = k1 + 1 - k0 := by omega
          have he : decide (((k0 + (k1 + 1 - k0) : Nat) : Int) ≤ (k1 : Int)) = false := decide_eq_false (by omega)
          have HNX := hide (unhide NEXT rr (unhide hr))
          obtain ⟨Z, HZ⟩ : ∃ Z, Hid (Y.set c rr = Z) := ⟨_, rfl⟩
          rw [unhide HZ] at HNX
          go_wp2_with (first | (refine load_row rfl 104 _ rfl g rfl (sq rr) 104 (unhide hB) _ Try.underlying104 rfl (by rw [sq_size, unhide hL]; kernel_rfl) ?_) | (at_mapUpdate; refine wp_setM rfl _ _ _ rfl b Y c rr rfl rfl rfl (unhide hT).own (by omega) (by omega) Z (unhide HZ) ?_; intro w5 o5 g5; have HT5 := hide ((unhide hT).put o5 g5); clear o5 g5))
          clear d0 d1 d2 d3 d4
          go_roundw
          case rel => exact ⟨j + 1, Z, by omega, by go_num, HT5, HNX⟩
          case measure => simp [intOf]; omega
    · obtain rfl : j = vn := by omega
      have hd : decide ((j : Int) < (j : Int)) = false := decide_eq_false (by omega)
      have er : r = some Y := by
        rw [← unhide HRR]
        have h := unhide hY
        rw [List.take_of_length_le (by omega)] at h
        exact h
      subst er
      go_wp2
      go_ret
      exact ⟨rfl, fun Z e => by rw [← Option.some.inj e]; exact (unhide hT).own, (unhide hT).grown⟩

end Go.Proofs.Ytnjcmlmgjoaeeaa

namespace Go.Proofs.Ytnjcmlmgjoaeeaa
open Go.RowKit

theorem own_rdC {w : World} {base : Nat} {e : TypeId} {ao : Option Addr} {n cap : Nat} {C : Nat → Nat → Int} (h : w.ownsRow base e 4 (.slice ao n cap) n (rowsK n 4 (compCells C))) : RdC w ao n C := by
  intro i hi
  obtain ⟨g, rfl, _, _⟩ := own_at h (by omega)
  refine ⟨g, 0, rfl, fun j hj => ?_⟩
  rw [Nat.zero_add, h.cellAt _ (place_lt hi hj), rowsK_get n 4 _ i j hi hj]
  rfl

theorem Try.info68 : (Try.prog.info? 68).map (fun i => (i.zero, i.size, i.bytes)) = some (some (.agg #[.int .i64 0, .int .i64 0, .int .i64 0, .int .i64 0]), 4, 32) := by kernel_rfl

set_option maxHeartbeats 800000 in
theorem toComp (c0 c1 c2 c3 : Int) (w : World) :
    Calls Try.prog 75 #[.agg #[.int .i64 c0, .int .i64 c1, .int .i64 c2, .int .i64 c3]] w fun e w' => e = .returned (.agg #[.int .i64 c0, .int .i64 c1, .int .i64 c2, .int .i64 c3]) ∧ w.grownBy w' none := by
  go_enter Try.func75, Try.ntmps75
  go_wp2
  refine bodyPost_ret (v := .agg #[.int .i64 c0, .int .i64 c1, .int .i64 c2, .int .i64 c3]) (by simp [results, Try.results75, go_sem]) rfl ⟨rfl, ?_⟩
  exact grown_alloc (grown_alloc (grown_alloc (World.grownBy.refl _ _) _) _) _

/-- The copy's cells behind k rounds. -/
def compPart (C : Nat → Nat → Int) (k : Nat) : Nat → Nat → Value := fun i j => if i < k then .int .i64 (C i j) else .int .i64 0
theorem compPart_set (C : Nat → Nat → Int) (n k : Nat) (c0 c1 c2 c3 : Int) (h0 : C k 0 = c0) (h1 : C k 1 = c1) (h2 : C k 2 = c2) (h3 : C k 3 = c3) :
    ((((rowsK n 4 (compPart C k)).set (k * 4) (.int .i64 c0)).set (k * 4 + 1) (.int .i64 c1)).set (k * 4 + 2) (.int .i64 c2)).set (k * 4 + 3) (.int .i64 c3) = rowsK n 4 (compPart C (k + 1)) := by
  have e0 := rowsK_set n 4 (compPart C k) k 0 (.int .i64 c0) (by omega)
  rw [Nat.add_zero] at e0
  rw [e0, rowsK_set _ _ _ k 1 _ (by omega), rowsK_set _ _ _ k 2 _ (by omega), rowsK_set _ _ _ k 3 _ (by omega)]
  apply rowsK_congr
  intro i j _ hj
  have hj4 : j = 0 ∨ j = 1 ∨ j = 2 ∨ j = 3 := by omega
  by_cases e1 : i = k
  · subst e1
    rcases hj4 with rfl | rfl | rfl | rfl <;> simp [compPart, h0, h1, h2, h3]
  · by_cases e2 : i < k
    · rcases hj4 with rfl | rfl | rfl | rfl <;> simp [compPart, e1, e2, show i < k + 1 by omega]
    · rcases hj4 with rfl | rfl | rfl | rfl <;> simp [compPart, e1, e2, show ¬ i < k + 1 by omega]

set_option maxHeartbeats 1600000 in
theorem toCompS (ao : Option Addr) (n cap : Nat) (C : Nat → Nat → Int) (w : World) (hr : RdC w ao n C) (hn : n ≤ 4194304) :
    Calls Try.prog 56 #[.slice ao n cap] w fun e w' => e = .returned (.slice (some ⟨w.heap.size, 0, none⟩) n n) ∧
      w'.ownsRow w.heap.size 68 4 (.slice (some ⟨w.heap.size, 0, none⟩) n n) n (rowsK n 4 (compCells C)) ∧ w.grownBy w' none := by
  obtain ⟨i0, hi, hz0, hz1, hz2⟩ := info_parts Try.info68
  have HR := hide hr
  clear hr
  go_enter Try.func56, Try.ntmps56
  go_wp2_with (at_make; refine wpList_make_full _ rfl _ _ 24 rfl w.heap.size 68 i0 (.agg #[.int .i64 0, .int .i64 0, .int .i64 0, .int .i64 0]) 4 Try.underlying24 hi hz0 hz1 .i64 .i64 _ _ n rfl rfl rfl rfl (by rw [hz2]; omega) (by unfold maxLen; omega) (Nat.le_refl _) ?_)
  intro w1 hown hgrow
  have hown0 : w1.ownsRow w.heap.size 68 4 (.slice (some ⟨w.heap.size, 0, none⟩) n n) n (rowsK n 4 (compPart C 0)) := by
    have e := madeK #[.int .i64 0, .int .i64 0, .int .i64 0, .int .i64 0] n (by decide)
    have e2 : rowsK n 4 (compPart C 0) = (madeCells #[Value.int .i64 0, .int .i64 0, .int .i64 0, .int .i64 0] (n * 4)).toList := by
      rw [show (n * 4) = n * (#[Value.int .i64 0, .int .i64 0, .int .i64 0, .int .i64 0] : Array Value).size from rfl, e]
      apply rowsK_congr
      intro i j _ hj
      have : j = 0 ∨ j = 1 ∨ j = 2 ∨ j = 3 := by have : j < 4 := hj; omega
      rcases this with rfl | rfl | rfl | rfl <;> simp [compPart]
    rw [e2]; exact hown
  clear hown hi hz0 hz1 hz2
  go_wp2
  go_loopw [4] (fun i wr => ∃ k : Nat, k ≤ n ∧ i = .int .i64 k ∧ wr.ownsRow w.heap.size 68 4 (.slice (some ⟨w.heap.size, 0, none⟩) n n) n (rowsK n 4 (compPart C k)) ∧ w.grownBy wr none) (fun i _ => n - (intOf i).toNat)
  case atStart => exact ⟨0, Nat.zero_le _, rfl, hown0, hgrow⟩
  case round =>
    obtain ⟨k, hk, rfl, hok, hgk⟩ := hrel
    clear hown0 hgrow
    by_cases hlt : k < n
    · obtain ⟨b, off, rfl, hc⟩ := (unhide HR) k hlt
      have hc' := fun j hj => hgk.cell (hc j hj) (by simp)
      have h0 := hc' 0 (by omega)
      have h1 := hc' 1 (by omega)
      have h2 := hc' 2 (by omega)
      have h3 := hc' 3 (by omega)
      rw [Nat.add_zero] at h0
      clear hc hc'
      have HSET := hide (compPart_set C n k (C k 0) (C k 1) (C k 2) (C k 3) rfl rfl rfl rfl)
      generalize C k 0 = c0 at *
      generalize C k 1 = c1 at *
      generalize C k 2 = c2 at *
      generalize C k 3 = c3 at *
      go_wp2_with fail
      refine (toComp c0 c1 c2 c3 wr).mono ?_
      rintro e w2 ⟨rfl, g2⟩
      have hok2 := own_grown hok g2
      have hG2 := grown_trans hgk g2
      have f0 := hok2.frozenAt (k * 4)
      have f1 := hok2.frozenAt (k * 4 + 1)
      have f2 := hok2.frozenAt (k * 4 + 2)
      have f3 := hok2.frozenAt (k * 4 + 3)
      have hold : ∀ j, j < n * 4 → ∃ u, w2.cell? ⟨w.heap.size, j, none⟩ = some u := fun j hj => by rw [hok2.cellAt j hj]; exact ⟨_, List.getElem?_eq_getElem (by rw [hok2.1]; omega)⟩
      obtain ⟨v0, hv0⟩ := hold (k * 4) (by omega)
      obtain ⟨v1, hv1⟩ := hold (k * 4 + 1) (by omega)
      obtain ⟨v2, hv2⟩ := hold (k * 4 + 2) (by omega)
      obtain ⟨v3, hv3⟩ := hold (k * 4 + 3) (by omega)
      have s0 := hok2.stored (k * 4) (.int .i64 c0)
      have s1 := s0.1.stored (k * 4 + 1) (.int .i64 c1)
      have s2 := s1.1.stored (k * 4 + 2) (.int .i64 c2)
      have s3 := s2.1.stored (k * 4 + 3) (.int .i64 c3)
      have hg' := grown_new hG2 (grown_trans (grown_trans (grown_trans s0.2 s1.2) s2.2) s3.2) (by intro g e; simp at e; omega)
      have HS := hide s3.1
      rw [unhide HSET] at HS
      have HG := hide hg'
      clear s0 s1 s2 s3 hok hok2 hgk hG2 hold g2 h0 h1 h2 h3 hg' HSET
      go_wp2
      go_roundw
      case rel => exact ⟨k + 1, by omega, by go_num, unhide HS, unhide HG⟩
      case measure => simp [intOf]; omega
    · have hkn : k = n := by omega
      subst hkn
      go_wp2
      go_ret
      refine ⟨rfl, ?_, hgk⟩
      have e : rowsK k 4 (compCells C) = rowsK k 4 (compPart C k) := rowsK_congr (fun i j hi' _ => by unfold compPart compCells; rw [if_pos hi'])
      rw [e]; exact hok

theorem szCompS (ao : Option Addr) (n cap : Nat) (left r : Int) (w : World) (h0 : 0 ≤ left) (h1 : left ≤ 1048576) (hm : n ≤ 9223372036854775807) (hr : Hid ((if (n : Int) ≤ left then left - n else -1) = r)) :
    Calls Try.prog 52 #[.slice ao n cap, .int .i64 left] w fun e w' => e = .returned (.int .i64 r) ∧ w = w' := by
  by_cases h : (n : Int) ≤ left
  · have e : left - n = r := by have := unhide hr; rwa [if_pos h] at this
    subst e
    clear hr
    have hn : ¬ (left - (n : Int) < 0) := by omega
    go_enter Try.func52, Try.ntmps52
    go_wp2
    go_ret
    exact ⟨rfl, rfl⟩
  · have e : -1 = r := by have := unhide hr; rwa [if_neg h] at this
    subst e
    clear hr
    have hn : left - (n : Int) < 0 := by omega
    go_enter Try.func52, Try.ntmps52
    go_wp2
    go_ret
    exact ⟨rfl, rfl⟩

theorem szFrame (p wd ht rs : Int) (ao : Option Addr) (n cap : Nat) (left r : Int) (w : World) (h0 : 0 ≤ left) (h1 : left ≤ 1048576) (hm : n ≤ 9223372036854775807) (hr : Hid ((if (n : Int) ≤ left then left - n else -1) = r)) :
    Calls Try.prog 18 #[.agg #[.int .i64 p, .int .i64 wd, .int .i64 ht, .int .i64 rs, .slice ao n cap], .int .i64 left] w fun e w' => e = .returned (.int .i64 r) ∧ w.grownBy w' none := by
  by_cases h : (n : Int) ≤ left
  · have e : left - n = r := by have := unhide hr; rwa [if_pos h] at this
    subst e
    have hn : ¬ (left - (n : Int) < 0) := by omega
    go_enter Try.func18, Try.ntmps18
    go_wp2_with fail
    refine (szCompS ao n cap left _ _ h0 h1 hm hr).mono ?_
    rintro e w1 ⟨rfl, rfl⟩
    go_wp2
    go_ret
    exact ⟨rfl, grown_alloc (World.grownBy.refl _ _) _⟩
  · have e : -1 = r := by have := unhide hr; rwa [if_neg h] at this
    subst e
    go_enter Try.func18, Try.ntmps18
    go_wp2_with fail
    refine (szCompS ao n cap left _ _ h0 h1 hm hr).mono ?_
    rintro e w1 ⟨rfl, rfl⟩
    go_wp2
    go_ret
    exact ⟨rfl, grown_alloc (World.grownBy.refl _ _) _⟩

set_option maxHeartbeats 800000 in
theorem eqComp (c0 c1 c2 c3 : Int) (w : World) :
    Calls Try.prog 78 #[.agg #[.int .i64 c0, .int .i64 c1, .int .i64 c2, .int .i64 c3], .agg #[.int .i64 c0, .int .i64 c1, .int .i64 c2, .int .i64 c3]] w fun e w' => e = .returned (.bool true) ∧ w.grownBy w' none := by
  have h0 : (c0 != c0) = false := by simp
  have h1 : (c1 != c1) = false := by simp
  have h2 : (c2 != c2) = false := by simp
  have h3 : (c3 != c3) = false := by simp
  go_enter Try.func78, Try.ntmps78
  go_wp2
  go_ret
  exact ⟨rfl, grown_alloc (grown_alloc (World.grownBy.refl _ _) _) _⟩

set_option maxHeartbeats 1600000 in
theorem eqCompS (ao bo : Option Addr) (n cap cap' : Nat) (C : Nat → Nat → Int) (w : World) (hx : RdC w ao n C) (hy : RdC w bo n C) (hn : n ≤ 4194304) :
    Calls Try.prog 59 #[.slice ao n cap, .slice bo n cap'] w fun e w' => e = .returned (.bool true) ∧ w.grownBy w' none := by
  have HX := hide hx
  have HY := hide hy
  clear hx hy
  have hne : ((n : Int) != n) = false := by simp
  go_enter Try.func59, Try.ntmps59
  go_wp2
  go_loopw [5] (fun i wr => ∃ k : Nat, k ≤ n ∧ i = .int .i64 k ∧ w.grownBy wr none) (fun i _ => n - (intOf i).toNat)
  case atStart => exact ⟨0, Nat.zero_le _, rfl, World.grownBy.refl _ _⟩
  case round =>
    obtain ⟨k, hk, rfl, hgk⟩ := hrel
    by_cases hlt : k < n
    · obtain ⟨b, off, rfl, hc⟩ := (unhide HX) k hlt
      obtain ⟨b', off', rfl, hd⟩ := (unhide HY) k hlt
      have hc' := fun j hj => hgk.cell (hc j hj) (by simp)
      have hd' := fun j hj => hgk.cell (hd j hj) (by simp)
      have a0 := hc' 0 (by omega)
      have a1 := hc' 1 (by omega)
      have a2 := hc' 2 (by omega)
      have a3 := hc' 3 (by omega)
      have b0 := hd' 0 (by omega)
      have b1 := hd' 1 (by omega)
      have b2 := hd' 2 (by omega)
      have b3 := hd' 3 (by omega)
      rw [Nat.add_zero] at a0 b0
      clear hc hc' hd hd'
      generalize C k 0 = c0 at *
      generalize C k 1 = c1 at *
      generalize C k 2 = c2 at *
      generalize C k 3 = c3 at *
      have hik : (k : Int) < (n : Int) := by omega
      go_wp2
      go_region_with (go_at_call 78; refine (eqComp c0 c1 c2 c3 _).mono ?_; rintro e w2 ⟨rfl, g2⟩)
      all_goals
        go_wp2
        go_roundw
        case rel => exact ⟨k + 1, by omega, by go_num, grown_trans (grown_drew hgk) g2⟩
        case measure => simp [intOf]; omega
    · go_wp2
      go_ret
      exact ⟨rfl, hgk⟩

set_option maxHeartbeats 1600000 in
theorem eqFrame (p wd ht rs : Int) (ao bo : Option Addr) (n cap cap' : Nat) (C : Nat → Nat → Int) (w : World) (hx : RdC w ao n C) (hy : RdC w bo n C) (hn : n ≤ 4194304) :
    Calls Try.prog 24 #[.agg #[.int .i64 p, .int .i64 wd, .int .i64 ht, .int .i64 rs, .slice ao n cap], .agg #[.int .i64 p, .int .i64 wd, .int .i64 ht, .int .i64 rs, .slice bo n cap']] w fun e w' => e = .returned (.bool true) ∧ w.grownBy w' none := by
  have HX := hide hx
  have HY := hide hy
  clear hx hy
  have h0 : (p != p) = false := by simp
  have h1 : (wd != wd) = false := by simp
  have h2 : (ht != ht) = false := by simp
  have h3 : (rs != rs) = false := by simp
  have G : Hid (w.grownBy ((w.alloc (.cells #[.int .i64 p, .int .i64 wd, .int .i64 ht, .int .i64 rs, .slice ao n cap] 26)).alloc (.cells #[.int .i64 p, .int .i64 wd, .int .i64 ht, .int .i64 rs, .slice bo n cap'] 26)) none) := grown_alloc (grown_alloc (World.grownBy.refl _ _) _) _
  go_enter Try.func24, Try.ntmps24
  go_wp2_with fail
  refine (eqCompS ao bo n cap cap' C _ ((unhide HX).grown (unhide G)) ((unhide HY).grown (unhide G)) hn).mono ?_
  rintro e w1 ⟨rfl, g1⟩
  go_wp2
  go_ret
  exact ⟨rfl, grown_trans (unhide G) g1⟩

end Go.Proofs.Ytnjcmlmgjoaeeaa

namespace Go.Proofs.Ytnjcmlmgjoaeeaa
open Go.RowKit

theorem frameCells {w : World} {g : Nat} {a b c d v : Value} {t : TypeId} (hb : w.heap[g]? = some (.cells #[a, b, c, d, v] t (0, 0))) :
    w.cell? ⟨g, 0, none⟩ = some a ∧ w.cell? ⟨g, 1, none⟩ = some b ∧ w.cell? ⟨g, 2, none⟩ = some c ∧ w.cell? ⟨g, 3, none⟩ = some d ∧ w.cell? ⟨g, 4, none⟩ = some v :=
  ⟨by rw [cell_of_row w _ 0 _ _ (0, 0) hb]; rfl, by rw [cell_of_row w _ 1 _ _ (0, 0) hb]; rfl, by rw [cell_of_row w _ 2 _ _ (0, 0) hb]; rfl, by rw [cell_of_row w _ 3 _ _ (0, 0) hb]; rfl, by rw [cell_of_row w _ 4 _ _ (0, 0) hb]; rfl⟩

set_option maxHeartbeats 1600000 in
theorem toFrame (p wd ht rs : Int) (ao : Option Addr) (n cap : Nat) (C : Nat → Nat → Int) (w : World) (hr : RdC w ao n C) (hn : n ≤ 4194304) :
    Calls Try.prog 21 #[.agg #[.int .i64 p, .int .i64 wd, .int .i64 ht, .int .i64 rs, .slice ao n cap]] w fun e w' => ∃ g, e = .returned (.agg #[.int .i64 p, .int .i64 wd, .int .i64 ht, .int .i64 rs, .slice (some ⟨g, 0, none⟩) n n]) ∧
      w'.ownsRow w.heap.size 68 4 (.slice (some ⟨g, 0, none⟩) n n) n (rowsK n 4 (compCells C)) ∧ w.grownBy w' none := by
  have HR := hide hr
  clear hr
  obtain ⟨W3, hW3⟩ : ∃ W3, (((w.alloc (.cells #[.int .i64 p, .int .i64 wd, .int .i64 ht, .int .i64 rs, .slice ao n cap] 42)).alloc (.cells #[.int .i64 0, .int .i64 0, .int .i64 0, .int .i64 0, .slice none 0 0] 26)).alloc (.cells #[.int .i64 p, .int .i64 wd, .int .i64 ht, .int .i64 rs, .slice none 0 0] 26)) = W3 := ⟨_, rfl⟩
  have G0 : w.grownBy W3 none := by rw [← hW3]; exact grown_alloc (grown_alloc (grown_alloc (World.grownBy.refl _ _) _) _) _
  have b1 : W3.heap[w.heap.size + 1]? = some (.cells #[.int .i64 0, .int .i64 0, .int .i64 0, .int .i64 0, .slice none 0 0] 26 (0, 0)) := by
    rw [← hW3, Below.heap_alloc _ _ _ (by simp)]
    have := heap_alloc_new (w.alloc (.cells #[.int .i64 p, .int .i64 wd, .int .i64 ht, .int .i64 rs, .slice ao n cap] 42)) (.cells #[.int .i64 0, .int .i64 0, .int .i64 0, .int .i64 0, .slice none 0 0] 26)
    simpa using this
  have b2 : W3.heap[w.heap.size + 1 + 1]? = some (.cells #[.int .i64 p, .int .i64 wd, .int .i64 ht, .int .i64 rs, .slice none 0 0] 26 (0, 0)) := by
    rw [← hW3]
    have := heap_alloc_new ((w.alloc (.cells #[.int .i64 p, .int .i64 wd, .int .i64 ht, .int .i64 rs, .slice ao n cap] 42)).alloc (.cells #[.int .i64 0, .int .i64 0, .int .i64 0, .int .i64 0, .slice none 0 0] 26)) (.cells #[.int .i64 p, .int .i64 wd, .int .i64 ht, .int .i64 rs, .slice none 0 0] 26)
    simpa using this
  have hsz : W3.heap.size = w.heap.size + 3 := by rw [← hW3]; simp
  have HW := hide hW3
  have B1 := hide b1
  have B2 := hide b2
  have HSZ := hide hsz
  have HG0 := hide G0
  clear hW3 b1 b2 hsz G0
  go_enter Try.func21, Try.ntmps21
  go_wp2_with fail
  rw [unhide HW]
  refine (toCompS ao n cap C W3 ((unhide HR).grown (unhide HG0)) hn).mono ?_
  rintro e w1 ⟨rfl, o1, g1⟩
  have G1 := grown_trans (unhide HG0) g1
  have hz := unhide HSZ
  have e1 := (g1.block (w.heap.size + 1) (by omega) (by simp)).trans (unhide B1)
  have e2 := (g1.block (w.heap.size + 1 + 1) (by omega) (by simp)).trans (unhide B2)
  have hge : w.heap.size + 3 ≤ W3.heap.size := by omega
  have O1 := hide (own_base o1 (show w.heap.size ≤ W3.heap.size by omega))
  have HG1 := hide G1
  clear HW hz HSZ B1 B2 HG0 HR G1 o1 g1
  generalize W3.heap.size = gx at *
  have c0 : w1.cell? ⟨w.heap.size + 1 + 1, 0, none⟩ = some (.int .i64 p) := by rw [cell_of_row w1 _ 0 _ _ (0, 0) e2]; rfl
  have c1 : w1.cell? ⟨w.heap.size + 1 + 1, 1, none⟩ = some (.int .i64 wd) := by rw [cell_of_row w1 _ 1 _ _ (0, 0) e2]; rfl
  have c2 : w1.cell? ⟨w.heap.size + 1 + 1, 2, none⟩ = some (.int .i64 ht) := by rw [cell_of_row w1 _ 2 _ _ (0, 0) e2]; rfl
  have c3 : w1.cell? ⟨w.heap.size + 1 + 1, 3, none⟩ = some (.int .i64 rs) := by rw [cell_of_row w1 _ 3 _ _ (0, 0) e2]; rfl
  have c4 : w1.cell? ⟨w.heap.size + 1 + 1, 4, none⟩ = some (.slice none 0 0) := by rw [cell_of_row w1 _ 4 _ _ (0, 0) e2]; rfl
  have f4 : w1.frozen? ⟨w.heap.size + 1 + 1, 4, none⟩ = false := frozen_of_row w1 _ 4 _ _ e2
  have d0 : w1.cell? ⟨w.heap.size + 1, 0, none⟩ = some (.int .i64 0) := by rw [cell_of_row w1 _ 0 _ _ (0, 0) e1]; rfl
  have d1 : w1.cell? ⟨w.heap.size + 1, 1, none⟩ = some (.int .i64 0) := by rw [cell_of_row w1 _ 1 _ _ (0, 0) e1]; rfl
  have d2 : w1.cell? ⟨w.heap.size + 1, 2, none⟩ = some (.int .i64 0) := by rw [cell_of_row w1 _ 2 _ _ (0, 0) e1]; rfl
  have d3 : w1.cell? ⟨w.heap.size + 1, 3, none⟩ = some (.int .i64 0) := by rw [cell_of_row w1 _ 3 _ _ (0, 0) e1]; rfl
  have d4 : w1.cell? ⟨w.heap.size + 1, 4, none⟩ = some (.slice none 0 0) := by rw [cell_of_row w1 _ 4 _ _ (0, 0) e1]; rfl
  have k0 : w1.frozen? ⟨w.heap.size + 1, 0, none⟩ = false := frozen_of_row w1 _ 0 _ _ e1
  have k1 : w1.frozen? ⟨w.heap.size + 1, 1, none⟩ = false := frozen_of_row w1 _ 1 _ _ e1
  have k2 : w1.frozen? ⟨w.heap.size + 1, 2, none⟩ = false := frozen_of_row w1 _ 2 _ _ e1
  have k3 : w1.frozen? ⟨w.heap.size + 1, 3, none⟩ = false := frozen_of_row w1 _ 3 _ _ e1
  have k4 : w1.frozen? ⟨w.heap.size + 1, 4, none⟩ = false := frozen_of_row w1 _ 4 _ _ e1
  clear e1 e2
  go_wp2
  have hk : ∀ (W : World), W.ownsRow w.heap.size 68 4 (.slice (some ⟨gx, 0, none⟩) n n) n (rowsK n 4 (compCells C)) → ∀ (b j : Nat) (u : Value), b < gx → (W.setCell ⟨b, j, none⟩ u).ownsRow w.heap.size 68 4 (.slice (some ⟨gx, 0, none⟩) n n) n (rowsK n 4 (compCells C)) :=
    fun W h b j u hb => own_sameAt h (fun g e => by simp [Value.ownBlock] at e; subst e; exact Below.heap_setCell _ _ _ _ (by show gx ≠ b; omega))
  have hq : ∀ (W : World) (b j : Nat) (u : Value), w.grownBy W none → w.heap.size ≤ b → w.grownBy (W.setCell ⟨b, j, none⟩ u) none := fun W b j u h hb => grown_new h (grown_set W b j u) (fun g e => by simp at e; omega)
  refine bodyPost_ret (v := .agg #[.int .i64 p, .int .i64 wd, .int .i64 ht, .int .i64 rs, .slice (some ⟨gx, 0, none⟩) n n]) (by simp [results, Try.results21, go_sem, d0, d1, d2, d3, d4]) rfl ⟨gx, rfl, ?_, ?_⟩
  · exact hk _ (hk _ (hk _ (hk _ (hk _ (hk _ (unhide O1) _ _ _ (by omega)) _ _ _ (by omega)) _ _ _ (by omega)) _ _ _ (by omega)) _ _ _ (by omega)) _ _ _ (by omega)
  · exact hq _ _ _ _ (hq _ _ _ _ (hq _ _ _ _ (hq _ _ _ _ (hq _ _ _ _ (hq _ _ _ _ (unhide HG1) (by omega)) (by omega)) (by omega)) (by omega)) (by omega)) (by omega)

end Go.Proofs.Ytnjcmlmgjoaeeaa

namespace Go.Proofs.Ytnjcmlmgjoaeeaa
open Go.RowKit

/-- Components that are marked all over, from k0 on. -/
def markedC (k0 : Int) : Nat → Nat → Int := fun i j => k0 + 4 * (i : Int) + (j : Int)
theorem markPart_set (C : Nat → Nat → Int) (k0 : Int) (n k : Nat) (q : Int) (hq : k0 + 4 * (k : Int) = q) :
    ((((rowsK n 4 (compCells (fun i j => if i < k then markedC k0 i j else C i j))).set (k * 4) (.int .i64 q)).set (k * 4 + 1) (.int .i64 (q + 1))).set (k * 4 + 2) (.int .i64 (q + 1 + 1))).set (k * 4 + 3) (.int .i64 (q + 1 + 1 + 1)) = rowsK n 4 (compCells (fun i j => if i < k + 1 then markedC k0 i j else C i j)) := by
  have e0 := rowsK_set n 4 (compCells (fun i j => if i < k then markedC k0 i j else C i j)) k 0 (.int .i64 q) (by omega)
  rw [Nat.add_zero] at e0
  rw [e0, rowsK_set _ _ _ k 1 _ (by omega), rowsK_set _ _ _ k 2 _ (by omega), rowsK_set _ _ _ k 3 _ (by omega)]
  apply rowsK_congr
  intro i j _ hj
  have hj4 : j = 0 ∨ j = 1 ∨ j = 2 ∨ j = 3 := by omega
  by_cases e1 : i = k
  · subst e1
    rcases hj4 with rfl | rfl | rfl | rfl <;> simp [compCells, markedC, hq] <;> omega
  · by_cases e2 : i < k
    · rcases hj4 with rfl | rfl | rfl | rfl <;> simp [compCells, e1, e2, show i < k + 1 by omega]
    · rcases hj4 with rfl | rfl | rfl | rfl <;> simp [compCells, e1, e2, show ¬ i < k + 1 by omega]

set_option maxHeartbeats 1600000 in
theorem markCompS (ao : Option Addr) (n cap base : Nat) (C : Nat → Nat → Int) (k0 : Int) (w : World) (ho : w.ownsRow base 68 4 (.slice ao n cap) n (rowsK n 4 (compCells C))) (hn : n ≤ 4194304) (h0 : 0 ≤ k0) (h1 : k0 ≤ 1073741824) :
    Calls Try.prog 61 #[.slice ao n cap, .int .i64 k0] w fun e w' => e = .returned (.int .i64 (k0 + 4 * n)) ∧
      w'.ownsRow base 68 4 (.slice ao n cap) n (rowsK n 4 (compCells (markedC k0))) ∧ w.grownBy w' (Value.slice ao n cap).ownBlock := by
  have ho' : w.ownsRow base 68 4 (.slice ao n cap) n (rowsK n 4 (compCells (fun i j => if i < 0 then markedC k0 i j else C i j))) := by
    have e : rowsK n 4 (compCells (fun i j => if i < 0 then markedC k0 i j else C i j)) = rowsK n 4 (compCells C) := rowsK_congr (fun i j _ _ => by simp [compCells])
    rw [e]; exact ho
  clear ho
  have HO := hide ho'
  clear ho'
  go_enter Try.func61, Try.ntmps61
  go_wp2
  go_loopw [1, 5] (fun c i wr => ∃ k : Nat, k ≤ n ∧ i = .int .i64 k ∧ c = .int .i64 (k0 + 4 * k) ∧ wr.ownsRow base 68 4 (.slice ao n cap) n (rowsK n 4 (compCells (fun i j => if i < k then markedC k0 i j else C i j))) ∧ w.grownBy wr (Value.slice ao n cap).ownBlock) (fun _ i _ => n - (intOf i).toNat)
  case atStart => exact ⟨0, Nat.zero_le _, rfl, by go_num, unhide HO, World.grownBy.refl _ _⟩
  case round =>
    obtain ⟨k, hk, rfl, rfl, hok, hgk⟩ := hrel
    by_cases hlt : k < n
    · obtain ⟨g, rfl, _, _⟩ := own_at hok (by omega)
      obtain ⟨q, hq⟩ : ∃ q, k0 + 4 * (k : Int) = q := ⟨_, rfl⟩
      have HSET := hide (markPart_set C k0 n k q hq)
      have hqb : 0 ≤ q ∧ q ≤ 2000000000 := by omega
      have HQ := hide hq
      rw [hq]
      clear hq
      have f0 := hok.frozenAt (k * 4)
      have f1 := hok.frozenAt (k * 4 + 1)
      have f2 := hok.frozenAt (k * 4 + 2)
      have f3 := hok.frozenAt (k * 4 + 3)
      have hold : ∀ j, j < n * 4 → ∃ u, wr.cell? ⟨g, j, none⟩ = some u := fun j hj => by rw [hok.cellAt j hj]; exact ⟨_, List.getElem?_eq_getElem (by rw [hok.1]; omega)⟩
      obtain ⟨v0, hv0⟩ := hold (k * 4) (by omega)
      obtain ⟨v1, hv1⟩ := hold (k * 4 + 1) (by omega)
      obtain ⟨v2, hv2⟩ := hold (k * 4 + 2) (by omega)
      obtain ⟨v3, hv3⟩ := hold (k * 4 + 3) (by omega)
      have s0 := hok.stored (k * 4) (.int .i64 q)
      have s1 := s0.1.stored (k * 4 + 1) (.int .i64 (q + 1))
      have s2 := s1.1.stored (k * 4 + 2) (.int .i64 (q + 1 + 1))
      have s3 := s2.1.stored (k * 4 + 3) (.int .i64 (q + 1 + 1 + 1))
      have HG := hide (grown_trans hgk (grown_trans (grown_trans (grown_trans s0.2 s1.2) s2.2) s3.2))
      have HS := hide s3.1
      rw [unhide HSET] at HS
      clear s0 s1 s2 s3 hok hgk hold HSET
      go_wp2
      go_roundw
      case rel => exact ⟨k + 1, by omega, by go_num, by have := unhide HQ; congr 1; omega, unhide HS, unhide HG⟩
      case measure => simp [intOf]; omega
    · have hkn : k = n := by omega
      subst hkn
      go_wp2
      go_ret
      refine ⟨rfl, ?_, hgk⟩
      have e : rowsK k 4 (compCells (markedC k0)) = rowsK k 4 (compCells (fun i j => if i < k then markedC k0 i j else C i j)) := rowsK_congr (fun i j hi' _ => by simp [compCells, hi'])
      rw [e]; exact hok

set_option maxHeartbeats 1600000 in
theorem markFrame (p wd ht rs : Int) (ao : Option Addr) (n cap base : Nat) (C : Nat → Nat → Int) (k0 : Int) (w : World) (ho : w.ownsRow base 68 4 (.slice ao n cap) n (rowsK n 4 (compCells C))) (hn : n ≤ 4194304) (h0 : 0 ≤ k0) (h1 : k0 ≤ 1073741824) :
    Calls Try.prog 30 #[.agg #[.int .i64 p, .int .i64 wd, .int .i64 ht, .int .i64 rs, .slice ao n cap], .int .i64 k0] w fun e w' => e = .returned (.int .i64 (k0 + 4 * n)) ∧
      w'.ownsRow base 68 4 (.slice ao n cap) n (rowsK n 4 (compCells (markedC k0))) ∧ w.grownBy w' (Value.slice ao n cap).ownBlock := by
  have HO := hide (own_grown ho (grown_alloc (World.grownBy.refl w none) (.cells #[.int .i64 p, .int .i64 wd, .int .i64 ht, .int .i64 rs, .slice ao n cap] 26)))
  have G : Hid (w.grownBy (w.alloc (.cells #[.int .i64 p, .int .i64 wd, .int .i64 ht, .int .i64 rs, .slice ao n cap] 26)) (Value.slice ao n cap).ownBlock) := grown_any (grown_alloc (World.grownBy.refl _ _) _)
  clear ho
  go_enter Try.func30, Try.ntmps30
  go_wp2_with fail
  refine (markCompS ao n cap base C k0 _ (unhide HO) hn h0 h1).mono ?_
  rintro e w1 ⟨rfl, o1, g1⟩
  have O1 := hide o1
  have G1 := hide (grown_trans (unhide G) g1)
  clear o1 g1
  go_wp2
  go_ret
  exact ⟨rfl, unhide O1, unhide G1⟩

end Go.Proofs.Ytnjcmlmgjoaeeaa

namespace Go.Proofs.Ytnjcmlmgjoaeeaa
open Go.RowKit

/-- A frame that is owned, in a box. -/
structure Bf (W : World) (b : Nat) (p wd ht rs : Int) (q n base : Nat) (C : Nat → Nat → Int) : Prop where
  box : W.heap[b]? = some (.cells #[.int .i64 p, .int .i64 wd, .int .i64 ht, .int .i64 rs, .slice (some ⟨q, 0, none⟩) n n] 26 (0, 0))
  own : W.ownsRow base 68 4 (.slice (some ⟨q, 0, none⟩) n n) n (rowsK n 4 (compCells C))
section
variable {W W' : World} {b q n base : Nat} {p wd ht rs : Int} {C : Nat → Nat → Int}
theorem Bf.lt (h : Bf W b p wd ht rs q n base C) : b < W.heap.size := (Array.getElem?_eq_some_iff.1 h.box).1
theorem Bf.keep (h : Bf W b p wd ht rs q n base C) (g : W.grownBy W' none) : Bf W' b p wd ht rs q n base C := ⟨(g.block b h.lt (by simp)).trans h.box, own_grown h.own g⟩
theorem Bf.new (h : W.ownsRow base 68 4 (.slice (some ⟨q, 0, none⟩) n n) n (rowsK n 4 (compCells C))) (p wd ht rs : Int) : Bf (W.alloc (.cells #[.int .i64 p, .int .i64 wd, .int .i64 ht, .int .i64 rs, .slice (some ⟨q, 0, none⟩) n n] 26)) W.heap.size p wd ht rs q n base C :=
  ⟨heap_alloc_new W _, own_grown h (World.grownBy_alloc _ _ _)⟩
theorem Bf.rd (h : Bf W b p wd ht rs q n base C) : RdC W (some ⟨q, 0, none⟩) n C := own_rdC h.own
end
theorem Bf.wr {W W' : World} {b q n base : Nat} {p wd ht rs : Int} {C : Nat → Nat → Int} {F : List Nat} (h : Bf W b p wd ht rs q n base C) (g : Wr F W W') (hb : b ∉ F) (hq : q ∉ F) : Bf W' b p wd ht rs q n base C :=
  ⟨(g.block b h.lt hb).trans h.box, own_sameAt h.own (fun x hx => by have e9 : q = x := Option.some.inj hx; subst e9; exact g.block q (h.own.lt q rfl).2 hq)⟩

end Go.Proofs.Ytnjcmlmgjoaeeaa

namespace Go.Proofs.Ytnjcmlmgjoaeeaa
open Go.RowKit

theorem infoIntSS : (Try.prog.info? 36).map (fun i => (i.zero, i.size, i.bytes)) = some (some (.slice none 0 0), 1, 24) := by kernel_rfl

theorem fillIntSS (a : List (List Int)) (i : Nat) (h : i < a.length) : (a.take i ++ List.replicate (a.length - i) []).set i a[i] = a.take (i + 1) ++ List.replicate (a.length - (i + 1)) [] := by
  have hl : (a.take i).length = i := by rw [List.length_take]; omega
  rw [List.set_append_right _ _ (by omega), hl, Nat.sub_self, show a.length - i = (a.length - (i + 1)) + 1 by omega, List.replicate_succ, List.set_cons_zero, List.take_succ_eq_append_getElem h, List.append_assoc]
  rfl

set_option maxRecDepth 20000 in
set_option maxHeartbeats 1600000 in
theorem eqIntSSD (HE : EqC 60 (RdI .i64) (lenI)) (hQ : StR (RdI .i64)) : EqC 28 (RdR (RdI .i64)) (szR (lenI)) := by
  intro w u u' a hq hq' hs
  obtain ⟨ao, cap, rfl, hel⟩ := hq
  obtain ⟨bo, cap', rfl, hel'⟩ := hq'
  have HEL := hide hel
  have HEM := hide hel'
  have HEE := hide HE
  have hlen := szR_len (lenI) a
  have HSE := hide (fun i h => (szR_el (lenI) a i h).2)
  obtain ⟨n, HN⟩ : ∃ n, Hid (a.length = n) := ⟨_, rfl⟩
  have hn : n ≤ 1048576 := by have := unhide HN; omega
  have HS := hide hs
  rw [unhide HN]
  have hne : ((n : Int) != n) = false := by simp
  clear hel hel' HE hs hlen
  go_enter Try.func28, Try.ntmps28
  go_wp2
  go_loopw [5] (fun iv wr => ∃ i : Nat, i ≤ n ∧ iv = .int .i64 i ∧ Hid (w.grownBy wr none)) (fun iv _ => n - (intOf iv).toNat)
  case atStart => exact ⟨0, Nat.zero_le _, rfl, World.grownBy.refl _ _⟩
  case round =>
    obtain ⟨i, hin, rfl, hg⟩ := hrel
    by_cases hlt : i < n
    · have hia : i < a.length := by rw [unhide HN]; exact hlt
      obtain ⟨b, off, u, rfl, c0, q0⟩ := unhide HEL i hia
      obtain ⟨b', off', u', rfl, c0', q0'⟩ := unhide HEM i hia
      have d0 := (unhide hg).cell c0 (by simp)
      have d1 := (unhide hg).cell c0' (by simp)
      have HD := hide (And.intro d0 d1)
      have HT : Hid (∀ W, wr.grownBy W none → Calls Try.prog 60 #[u, u'] W fun e w' => e = .returned (.bool true) ∧ W.grownBy w' none) := fun W gW => unhide HEE W u u' a[i] (hQ _ _ _ _ q0 (grown_trans (unhide hg) gW)) (hQ _ _ _ _ q0' (grown_trans (unhide hg) gW)) (Nat.le_trans (unhide HSE i hia) (unhide HS))
      have hiI : (i : Int) < (n : Int) := by omega
      clear c0 q0 c0' q0'
      go_wp2
      refine wp_region_noPanic ?_
      refine wp_region_tailL 20 (fun w' => w'.cell? ⟨b, off + i, none⟩ = some u ∧ w'.cell? ⟨b', off' + i, none⟩ = some u') [true, true, true, true, true, true, true, true, false, false] (by kernel_rfl) (fun _ _ _ _ _ h => h) rfl (by decide) (by kernel_rfl) (unhide HD) ?_
      iterate 8
        refine heldF_take (v := ?_) (Or.inl ⟨by rfl, ?_⟩) ?_
        rotate_left 1
        · intro w' hSw
          try dsimp only at hSw
          obtain ⟨z0, z1⟩ := hSw
          go_simp
          try with_reducible rfl
        simp only [Act.put, List.setIfInBounds_toArray, List.set_cons_zero, List.set_cons_succ]
      iterate 2 refine heldF_skip ?_
      refine heldF_nil ?_
      iterate 8 refine tailL_skip ?_
      refine tailL_step (fun K hK => ?_)
      go_simp
      refine (unhide HT _ (grown_drew (World.grownBy.refl _ _))).mono ?_
      rintro e w2 ⟨rfl, g2⟩
      have g3 := grown_trans (grown_drew (World.grownBy.refl wr none)) g2
      have HD2 := hide (And.intro (g3.cell d0 (by simp)) (g3.cell d1 (by simp)))
      have HG3 := hide (grown_trans (unhide hg) g3)
      clear g2 g3 hg HT d0 d1 HD
      go_simp
      refine hK.out _ _ (.inr (unhide HD2)) ?_
      clear hK K
      refine tailL_step (fun K hK => ?_)
      go_simp
      refine hK.out _ _ (.inl rfl) ?_
      clear hK K HD2
      refine tailL_nil (NoPanic.normal ?_)
      go_wp2
      go_roundw
      case rel => exact ⟨i + 1, by omega, by go_num, HG3⟩
      case measure => simp [intOf]; omega
    · obtain rfl : i = n := by omega
      go_wp2
      go_ret
      exact ⟨rfl, unhide hg⟩

set_option maxRecDepth 20000 in
set_option maxHeartbeats 1600000 in
theorem markIntSSD (HE : MarkC 62 (OwI .i64 3) (mkI) (lenI) (lenI)) (hP : OwOk (OwI .i64 3)) : MarkC 32 (OwR 36 (OwI .i64 3)) (mkR (mkI) (lenI)) (cntR (lenI)) (szR (lenI)) := by
  intro w u a F k hp hnd hs hk0 hk1
  obtain ⟨ao, cap, rfl⟩ := hp.form
  have HEE := hide HE
  have HND := hide hnd
  have hlen := szR_len (lenI) a
  have HSE := hide (fun i h => (szR_el (lenI) a i h).2)
  have H0 : Hid (OwR 36 (OwI .i64 3) w (.slice ao a.length cap) (overR (mkI) (lenI) a k 0) F) := hp
  obtain ⟨n, HN⟩ : ∃ n, Hid (a.length = n) := ⟨_, rfl⟩
  have hn : n ≤ 1048576 := by have := unhide HN; omega
  have HS := hide hs
  obtain ⟨tot, HTOT⟩ : ∃ tot, Hid (cntR (lenI) a = tot) := ⟨_, rfl⟩
  rw [unhide HTOT] at hk1 ⊢
  rw [unhide HN] at H0 ⊢
  obtain ⟨A2, HA2⟩ : ∃ A2, Hid (mkR (mkI) (lenI) a k = A2) := ⟨_, rfl⟩
  rw [unhide HA2]
  clear hp HE hs hlen hnd
  go_enter Try.func32, Try.ntmps32
  go_wp2
  go_loopw [1, 5] (fun kv iv wr => ∃ (i c : Nat), i ≤ n ∧ iv = .int .i64 i ∧ kv = .int .i64 (k + (c : Int)) ∧ Hid (cntR (lenI) (a.take i) = c) ∧ Hid (OwR 36 (OwI .i64 3) wr (.slice ao n cap) (overR (mkI) (lenI) a k i) F) ∧ Hid (Wr F w wr)) (fun _ iv _ => n - (intOf iv).toNat)
  case atStart => exact ⟨0, 0, Nat.zero_le _, rfl, by simp, rfl, H0, Wr.refl _ _⟩
  case round =>
    clear H0
    obtain ⟨i, c, hin, rfl, rfl, hc, ho, hw⟩ := hrel
    by_cases hlt : i < n
    · have hia : i < a.length := by rw [unhide HN]; exact hlt
      have hol : i < (overR (mkI) (lenI) a k i).length := by rw [overR_len _ _ _ _ _ (by omega)]; exact hia
      have hnx := cntR_next (lenI) a i hia
      have hle := cntR_le (lenI) a (i + 1)
      rw [unhide hc] at hnx
      rw [hnx, unhide HTOT] at hle
      obtain ⟨g, cap0, u, Fi, e0, hgF, c0, p0, nd0, _, sub0, back⟩ := (unhide ho).at hP (unhide HND) i hol
      rw [overR_at (mkI) (lenI) a k i hia] at p0
      obtain ⟨rfl, rfl⟩ : ao = some ⟨g, 0, none⟩ ∧ cap = cap0 := by simp at e0; exact ⟨e0.1, e0.2.2⟩
      have HT := hide (unhide HEE wr u a[i] Fi (k + (c : Int)) p0 nd0 (Nat.le_trans (unhide HSE i hia) (unhide HS)) (by omega) (by omega))
      obtain ⟨ce, HCE⟩ : ∃ ce, Hid ((lenI) a[i] = ce) := ⟨_, hide rfl⟩
      rw [unhide HCE] at HT hnx hle
      have HBK := hide back
      have HSB := hide sub0
      have HNX := hide hnx
      have hiI : (i : Int) < (n : Int) := by omega
      clear p0 nd0 back sub0 e0 hgF hnx
      go_wp2_with fail
      refine (unhide HT).mono ?_
      rintro e w2 ⟨rfl, p2, g2⟩
      have h2 := unhide HBK w2 _ g2 p2
      rw [← unhide hc, overR_set (mkI) (lenI) a k i hia] at h2
      have HO2 := hide h2
      have HW2 := hide ((unhide hw).trans (g2.mono (unhide HSB)))
      clear p2 g2 h2 HT HBK HSB ho hw c0
      have e5 : k + (c : Int) + (ce : Int) = k + ((c + ce : Nat) : Int) := by omega
      rw [e5]
      go_wp2
      go_roundw
      case rel => exact ⟨i + 1, c + ce, by omega, by go_num, rfl, HNX, HO2, HW2⟩
      case measure => simp [intOf]; omega
    · obtain rfl : i = n := by omega
      have HO4 : Hid (OwR 36 (OwI .i64 3) wr (.slice ao i cap) A2 F) := by
        have h := unhide ho
        have e9 : overR (mkI) (lenI) a k i = A2 := by rw [← unhide HN, overR_all]; exact unhide HA2
        rw [e9] at h
        exact h
      have hct : c = tot := by rw [← unhide hc, ← unhide HN, cntR_all]; exact unhide HTOT
      subst hct
      clear ho hc
      go_wp2
      go_ret
      exact ⟨rfl, unhide HO4, unhide hw⟩

set_option maxRecDepth 20000 in
set_option maxHeartbeats 1600000 in
theorem heldIntSSD (HE : HeldC 63 (RdI .i64) (mkI) (lenI) (lenI)) (hQ : StR (RdI .i64)) : HeldC 33 (RdR (RdI .i64)) (mkR (mkI) (lenI)) (cntR (lenI)) (szR (lenI)) := by
  intro w u a k hq hs hk0 hk1
  obtain ⟨ao, cap, rfl, hel⟩ := hq
  have HEL := hide hel
  have HEE := hide HE
  have hlen := szR_len (lenI) a
  have HSE := hide (fun i h => (szR_el (lenI) a i h).2)
  rw [mkR_len]
  obtain ⟨n, HN⟩ : ∃ n, Hid (a.length = n) := ⟨_, rfl⟩
  have hn : n ≤ 1048576 := by have := unhide HN; omega
  have HS := hide hs
  obtain ⟨tot, HTOT⟩ : ∃ tot, Hid (cntR (lenI) a = tot) := ⟨_, rfl⟩
  rw [unhide HTOT] at hk1 ⊢
  rw [unhide HN]
  clear hel HE hs hlen
  go_enter Try.func33, Try.ntmps33
  go_wp2
  go_loopw [1, 5] (fun kv iv wr => ∃ (i c : Nat), i ≤ n ∧ iv = .int .i64 i ∧ kv = .int .i64 (k + (c : Int)) ∧ Hid (cntR (lenI) (a.take i) = c) ∧ Hid (w.grownBy wr none)) (fun _ iv _ => n - (intOf iv).toNat)
  case atStart => exact ⟨0, 0, Nat.zero_le _, rfl, by simp, rfl, World.grownBy.refl _ _⟩
  case round =>
    obtain ⟨i, c, hin, rfl, rfl, hc, hg⟩ := hrel
    by_cases hlt : i < n
    · have hia : i < a.length := by rw [unhide HN]; exact hlt
      have hnx := cntR_next (lenI) a i hia
      have hle := cntR_le (lenI) a (i + 1)
      rw [unhide hc] at hnx
      rw [hnx, unhide HTOT] at hle
      obtain ⟨b, off, u, rfl, c0, q0⟩ := unhide HEL i (by rw [mkR_len]; exact hia)
      rw [mkR_at (mkI) (lenI) a k i hia, unhide hc] at q0
      have c1 := (unhide hg).cell c0 (by simp)
      have HT := hide (unhide HEE wr u a[i] (k + (c : Int)) (hQ _ _ _ _ q0 (unhide hg)) (Nat.le_trans (unhide HSE i hia) (unhide HS)) (by omega) (by omega))
      obtain ⟨ce, HCE⟩ : ∃ ce, Hid ((lenI) a[i] = ce) := ⟨_, hide rfl⟩
      rw [unhide HCE] at HT hnx hle
      have HNX := hide hnx
      have hiI : (i : Int) < (n : Int) := by omega
      clear c0 q0 hnx
      go_wp2_with fail
      refine (unhide HT).mono ?_
      rintro e w2 ⟨rfl, g2⟩
      have HG2 := hide (grown_trans (unhide hg) g2)
      clear g2 HT hg c1
      have e5 : k + (c : Int) + (ce : Int) = k + ((c + ce : Nat) : Int) := by omega
      rw [e5]
      have hneg : decide (k + ((c + ce : Nat) : Int) < 0) = false := decide_eq_false (by omega)
      obtain ⟨kk, HKK⟩ : ∃ kk : Int, Hid (k + ((c + ce : Nat) : Int) = kk) := ⟨_, hide rfl⟩
      rw [unhide HKK] at hneg ⊢
      go_wp2
      go_roundw
      case rel => exact ⟨i + 1, c + ce, by omega, by go_num, by rw [unhide HKK], HNX, HG2⟩
      case measure => simp [intOf]; omega
    · obtain rfl : i = n := by omega
      have hct : c = tot := by rw [← unhide hc, ← unhide HN, cntR_all]; exact unhide HTOT
      subst hct
      clear hc
      go_wp2
      go_ret
      exact ⟨rfl, unhide hg⟩

end Go.Proofs.Ytnjcmlmgjoaeeaa

namespace Go.Proofs.Ytnjcmlmgjoaeeaa
open Go.RowKit

abbrev Rd2 := RdR (RdI .i64)

abbrev Ow2 := OwR 36 (OwI .i64 3)

theorem st2 : StR Rd2 := RdR.st (RdI.st .i64)

theorem ok2 : OwOk Ow2 := OwR.ok ok1

theorem Ow2.rd {w : World} {v : Value} {L : List (List Int)} {F : List Nat} (h : Ow2 w v L F) : Rd2 w v L := OwR.rd (fun _ _ _ _ h => OwI.rd h) h

theorem eqIntSSC : EqC 28 Rd2 (szR lenI) := eqIntSSD eqIntSC (RdI.st .i64)

theorem markIntSSC : MarkC 32 Ow2 (mkR mkI lenI) (cntR lenI) (szR lenI) := markIntSSD markIntSC ok1

theorem heldIntSSC : HeldC 33 Rd2 (mkR mkI lenI) (cntR lenI) (szR lenI) := heldIntSSD heldIntSC (RdI.st .i64)

end Go.Proofs.Ytnjcmlmgjoaeeaa

namespace Go.Proofs.Ytnjcmlmgjoaeeaa
open Go.RowKit

theorem sumN_in {α : Type} (f : α → Nat) : ∀ (L : List α) (a : α), a ∈ L → f a ≤ sumN (L.map f)
  | [], a, h => by simp at h
  | b :: L, a, h => by
    simp only [List.map_cons, sumN]
    rcases List.mem_cons.1 h with rfl | h
    · omega
    · have := sumN_in f L a h
      omega
/-- Each scan of a script that is not too great. -/
theorem sz_scan {S : List Scn} {b : Nat} (h : szR szSc S ≤ b) : ∀ a ∈ S, a.cs.length ≤ b := fun a ha => by
  have h1 := sumN_in szSc S a ha
  unfold szR at h
  have h2 : szSc a = a.cs.length := rfl
  omega
theorem sumN_top {α : Type} (f : α → Nat) (b : Nat) : ∀ L : List α, (∀ a ∈ L, f a ≤ b) → sumN (L.map f) ≤ L.length * b
  | [], _ => by simp [sumN]
  | a :: r, h => by
    have h1 := h a (by simp)
    have h2 := sumN_top f b r (fun x hx => h x (by simp [hx]))
    simp only [List.map_cons, sumN, List.length_cons, Nat.add_mul, Nat.one_mul]
    omega
theorem sz_left {fb : Bool} {n : Nat} {S : List Scn} {C : Nat → Nat → Int} {p wd ht rs : Int} (HFB : frameB p wd ht rs n C = fb) : szR lenI (leftG fb n S) ≤ 1000 := by
  have h : (leftG fb n S).length ≤ 4 ∧ ∀ r ∈ leftG fb n S, lenI r ≤ 64 := by
    unfold leftG
    cases h : leftO fb n S with
    | none => exact ⟨by simp, fun r hr => by simp at hr⟩
    | some X =>
      have h64 := leftO_rows h
      have hfb : fb = true := by
        unfold leftO at h
        cases fb with
        | true => rfl
        | false => simp at h
      subst hfb
      refine ⟨by show X.length ≤ 4; rw [h64.1]; exact (geo_of HFB).n4, fun r hr => ?_⟩
      obtain ⟨c, hc, rfl⟩ := List.mem_iff_getElem.1 (show r ∈ X from hr)
      have e : X.getD c [] = X[c] := by simp [hc]
      have := h64.2 c (by rw [← h64.1]; exact hc)
      rw [e] at this
      show X[c].length ≤ 64
      omega
  have h1 := sumN_top lenI 64 (leftG fb n S) h.2
  have h2 := h.1
  unfold szR
  omega
theorem cnt_szR {α : Type} (f g : α → Nat) (h : ∀ a, f a ≤ g a) : ∀ L : List α, sumN (L.map f) ≤ sumN (L.map g)
  | [] => Nat.le_refl _
  | a :: r => by simp only [List.map_cons, sumN]; have := h a; have := cnt_szR f g h r; omega
theorem sz_script {fb : Bool} {n : Nat} {kind : Int} {C : Nat → Nat → Int} {p wd ht rs : Int} (HFB : frameB p wd ht rs n C = fb) : szR szSc (scriptG fb n kind) ≤ 1000 := by
  cases fb with
  | false => exact Nat.zero_le _
  | true =>
    have h4 := (geo_of HFB).n4
    have hn : n = 0 ∨ n = 1 ∨ n = 2 ∨ n = 3 ∨ n = 4 := by omega
    by_cases h0 : kind = 0
    · subst h0; rcases hn with rfl | rfl | rfl | rfl | rfl <;> decide
    · by_cases h1 : kind = 1
      · subst h1; rcases hn with rfl | rfl | rfl | rfl | rfl <;> decide
      · by_cases h2 : kind = 2
        · subst h2; rcases hn with rfl | rfl | rfl | rfl | rfl <;> decide
        · have e : scriptG true n kind = [] := by unfold scriptG; rw [if_pos rfl, if_neg h0, if_neg h1, if_neg h2]
          rw [e]
          exact Nat.zero_le _

theorem cnt_scans (S : List Scn) : cntR cntSc S ≤ 4 * szR szSc S := by
  have h : ∀ L : List Scn, sumN (L.map cntSc) ≤ 4 * (sumN (L.map szSc) + L.length) := fun L => by
    induction L with
    | nil => simp [sumN]
    | cons a r ih =>
      simp only [List.map_cons, sumN, List.length_cons]
      have e : cntSc a = szSc a + 4 := rfl
      omega
  have := h S
  unfold cntR szR
  omega
theorem RdSsZ.st {w w' : World} {v : Value} {L : List Scn} (h : RdSsZ w v L) (g : w.grownBy w' none) : RdSsZ w' v L :=
  ⟨RdG.st (fun _ _ _ _ h g => ⟨h.1, RdI.st .i64 _ _ _ _ h.2.1 g, h.2.2⟩) _ _ _ _ h.1 g, h.2⟩

def ImplScanOk : Prop := ∀ (p wd ht rs : Int) (fo : Option Addr) (n fc : Nat) (C : Nat → Nat → Int) (vo : Option Addr) (vn vc : Nat) (a : Scn) (w : World), RdC w fo n C → n ≤ 4194304 → Rd .i64 w vo vn a.cs → vn ≤ 1048576 → ∀ (fb t : Bool), Hid (frameB p wd ht rs n C = fb) → Hid (scanB fb n a = t) →
    Calls Try.prog 23 #[.agg #[.int .i64 p, .int .i64 wd, .int .i64 ht, .int .i64 rs, .slice fo n fc], .agg #[.slice vo vn vc, .int .i64 a.fr, .int .i64 a.to, .int .i64 a.hi, .int .i64 a.lo]] w fun e w' => e = .returned (.bool t) ∧ w.grownBy w' none

def ImplLeft : Prop := ∀ (p wd ht rs : Int) (fo : Option Addr) (n fc : Nat) (C : Nat → Nat → Int) (v : Value) (S : List Scn) (w : World), RdC w fo n C → n ≤ 4194304 → RdSs w v S → szR szSc S ≤ 1048576 → ∀ (fb : Bool), Hid (frameB p wd ht rs n C = fb) → ∀ (L : List (List Int)), Hid (leftG fb n S = L) →
    Calls Try.prog 15 #[.agg #[.int .i64 p, .int .i64 wd, .int .i64 ht, .int .i64 rs, .slice fo n fc], v] w fun e w' => ∃ u F, e = .returned u ∧ Ow2 w' u L F ∧ F.Nodup ∧ (∀ g ∈ F, w.heap.size ≤ g) ∧ w.grownBy w' none

def ImplScriptOk : Prop := ∀ (p wd ht rs : Int) (fo : Option Addr) (n fc : Nat) (C : Nat → Nat → Int) (v : Value) (S : List Scn) (w : World), RdC w fo n C → n ≤ 4194304 → RdSs w v S → szR szSc S ≤ 1048576 → ∀ (fb t : Bool), Hid (frameB p wd ht rs n C = fb) → Hid (scriptB fb n S = t) →
    Calls Try.prog 14 #[.agg #[.int .i64 p, .int .i64 wd, .int .i64 ht, .int .i64 rs, .slice fo n fc], v] w fun e w' => e = .returned (.bool t) ∧ w.grownBy w' none

def ImplScript : Prop := ∀ (p wd ht rs : Int) (fo : Option Addr) (n fc : Nat) (C : Nat → Nat → Int) (kind : Int) (w : World), RdC w fo n C → n ≤ 4194304 → ∀ (fb : Bool), Hid (frameB p wd ht rs n C = fb) → ∀ (L : List Scn), Hid (scriptG fb n kind = L) →
    Calls Try.prog 10 #[.agg #[.int .i64 p, .int .i64 wd, .int .i64 ht, .int .i64 rs, .slice fo n fc], .int .i64 kind] w fun e w' => ∃ u F, e = .returned u ∧ OwSs w' u L F ∧ F.Nodup ∧ (∀ g ∈ F, w.heap.size ≤ g) ∧ w.grownBy w' none

/-- A frame that came in, in its box. -/
structure In1 (w W : World) (bs : Array Value) : Prop where
  fb : W.heap[w.heap.size]? = some (.cells bs 42 (0, 0))
  grown : w.grownBy W none
theorem In1.new {w W W' : World} {bs : Array Value} (h : In1 w W bs) (g : W.grownBy W' none) : In1 w W' bs := ⟨grown_atT g h.fb (by simp), grown_trans h.grown g⟩
theorem In1.size {w W : World} {bs : Array Value} (h : In1 w W bs) : w.heap.size + 1 ≤ W.heap.size := (Array.getElem?_eq_some_iff.1 h.fb).1
theorem In1.wr {w W W' : World} {bs : Array Value} {F : List Nat} (h : In1 w W bs) (g : Wr F W W') (hF : ∀ x ∈ F, w.heap.size + 1 ≤ x) : In1 w W' bs :=
  ⟨(g.block _ h.size (fun e => by have := hF _ e; omega)).trans h.fb, Wr.new h.grown g (fun x hx => by have := hF x hx; omega)⟩
theorem In1.start (w : World) (bs : Array Value) : In1 w (w.alloc (.cells bs 42)) bs := ⟨heap_alloc_new w _, World.grownBy_alloc _ _ _⟩

end Go.Proofs.Ytnjcmlmgjoaeeaa

namespace Go.Proofs.Ytnjcmlmgjoaeeaa
open Go.RowKit

theorem bits_pass (a : Scn) (h1 : 0 ≤ a.fr) (h2 : a.fr ≤ a.to) (h3 : a.to ≤ 63) : passB a = bitsB a := by
  unfold passB bitsB
  rw [decide_eq_true (⟨h1, h2⟩ : 0 ≤ a.fr ∧ a.fr ≤ a.to), decide_eq_true h3, Bool.true_and, Bool.true_and]
theorem pass_neq (a : Scn) (w : World) : (binOp .neq 113 (pVN a) .nilIface).run Try.prog w = .ok (.bool (bitsB a)) w := by
  unfold pVN
  cases h : bitsB a with
  | false => exact nilP w
  | true =>
    rw [if_pos rfl]
    unfold pV
    split
    · exact notNilP _ _ w
    · exact notNilP _ _ w
theorem pass_guard (a : Scn) (x : Operand) (w : World) : (eqGuard .neq 113 x (.const .nilIface) (pVN a) .nilIface).run Try.prog w = .ok () w := by
  unfold pVN
  cases h : bitsB a with
  | false => cases x <;> kernel_rfl
  | true =>
    rw [if_pos rfl]
    unfold pV
    split
    · kernel_rfl
    · kernel_rfl

set_option maxRecDepth 20000 in
set_option maxHeartbeats 1600000 in
theorem passOk (w : World) (v0 : Value) (a : Scn) (t : Bool) (HT : Hid (passB a = t)) :
    Calls Try.prog 77 #[scV v0 a] w fun e w' => e = .returned (.bool t) ∧ w.grownBy w' none := by
  have HP := hide (fun w => passOf w v0 a (pVN a) rfl)
  have HN := hide (fun w => pass_neq a w)
  have HE := hide (fun x w => pass_guard a x w)
  have hb := bits_pass a
  have hp : passB a = t := unhide HT
  obtain ⟨pv, HV⟩ : ∃ pv, Hid (pVN a = pv) := ⟨_, rfl⟩
  obtain ⟨bb, HBB⟩ : ∃ bb, Hid (bitsB a = bb) := ⟨_, rfl⟩
  rw [unhide HV] at HP HN HE
  rw [unhide HBB] at hb HN
  obtain ⟨cs, fr, to, hi, lo⟩ := a
  unfold scV at HP ⊢
  dsimp only at hb HP ⊢
  have HG0 : Hid (w.grownBy (w.alloc (.cells #[v0, .int .i64 fr, .int .i64 to, .int .i64 hi, .int .i64 lo] 38)) none) := World.grownBy_alloc _ _ _
  have HB0 := hide (heap_alloc_new w (.cells #[v0, .int .i64 fr, .int .i64 to, .int .i64 hi, .int .i64 lo] 38))
  obtain ⟨c0, c1, c2, c3, c4⟩ := scanCells (unhide HB0)
  have hno : ¬ (0 ≤ fr ∧ fr ≤ to) ∨ ¬ to ≤ 63 → t = false := fun h => by
    rw [← hp]
    unfold passB
    dsimp only
    rcases h with h | h
    · rw [decide_eq_false h]; rfl
    · rw [decide_eq_false h, Bool.and_false]; rfl
  have hyes : 0 ≤ fr → fr ≤ to → to ≤ 63 → t = bb := fun h1 h2 h3 => by rw [← hp]; exact hb h1 h2 h3
  have HNO := hide hno
  have HYES := hide hyes
  clear HT hp hb hno hyes HV HBB
  by_cases h1 : 0 ≤ fr
  · have d1 := decide_eq_true h1
    by_cases h2 : fr ≤ to
    · have d2 := decide_eq_true h2
      by_cases h3 : to ≤ 63
      · have d3 := decide_eq_true h3
        obtain rfl := unhide HYES h1 h2 h3
        clear HNO HYES h1 h2 h3
        have hn := fun w => unhide HN w
        have he := fun x w => unhide HE x w
        go_enter Try.func77, Try.ntmps77
        go_wp2_with fail
        refine (unhide HP _).mono ?_
        rintro e w2 ⟨rfl, g2⟩
        have HG2 := hide (grown_trans (unhide HG0) g2)
        clear g2 c0 c1 c2 c3 c4
        go_wp2
        go_ret
        exact ⟨rfl, unhide HG2⟩
      · have d3 := decide_eq_false h3
        obtain rfl := unhide HNO (.inr h3)
        clear HNO HYES h1 h2 h3
        go_enter Try.func77, Try.ntmps77
        go_wp2
        go_ret
        exact ⟨rfl, unhide HG0⟩
    · have d2 := decide_eq_false h2
      obtain rfl := unhide HNO (.inl (fun h => h2 h.2))
      clear HNO HYES h1 h2
      go_enter Try.func77, Try.ntmps77
      go_wp2
      go_ret
      exact ⟨rfl, unhide HG0⟩
  · have d1 := decide_eq_false h1
    obtain rfl := unhide HNO (.inl (fun h => h1 h.1))
    clear HNO HYES h1
    go_enter Try.func77, Try.ntmps77
    go_wp2
    go_ret
    exact ⟨rfl, unhide HG0⟩

end Go.Proofs.Ytnjcmlmgjoaeeaa

namespace Go.Proofs.Ytnjcmlmgjoaeeaa
open Go.RowKit

set_option maxRecDepth 20000 in
set_option maxHeartbeats 1600000 in
theorem scanOk (X : Array Value) (hs : X.size = 21) (n : Nat) (F : Hid (∀ (c : Int) (w : World), Calls Try.prog 87 #[.agg X, .int .i64 c] w fun e w' => e = .returned (.bool (decide (0 ≤ c ∧ c ≤ (n : Int) - 1))) ∧ w.grownBy w' none))
    (w : World) (vo : Option Addr) (vn vc : Nat) (a : Scn) (hv : Rd .i64 w vo vn a.cs) (hvn : vn ≤ 4194304) (t : Bool) (HT : Hid ((okComps n a.cs && passB a) = t)) :
    Calls Try.prog 58 #[.agg X, scV (.slice vo vn vc) a] w fun e w' => e = .returned (.bool t) ∧ w.grownBy w' none := by
  obtain ⟨b3, HB3⟩ : ∃ b, Hid (passB a = b) := ⟨_, rfl⟩
  obtain ⟨b2, HB2⟩ : ∃ b, Hid (okComps n a.cs = b) := ⟨_, rfl⟩
  have HP := hide (fun w => passOk w (.slice vo vn vc) a b3 HB3)
  have HC := hide (fun W (g : w.grownBy W none) => hasComps X hs n F vo vn vc a.cs W (hv.grown g) hvn)
  rw [unhide HB2] at HC
  have hp := unhide HT
  rw [unhide HB2, unhide HB3] at hp
  obtain ⟨cs, fr, to, hi, lo⟩ := a
  unfold scV at HP ⊢
  dsimp only at hv HP ⊢
  have HG0 : Hid (w.grownBy ((w.alloc (.cells X 71)).alloc (.cells #[.slice vo vn vc, .int .i64 fr, .int .i64 to, .int .i64 hi, .int .i64 lo] 38)) none) := grown_alloc (grown_alloc (World.grownBy.refl _ _) _) _
  have HB0 : Hid (((w.alloc (.cells X 71)).alloc (.cells #[.slice vo vn vc, .int .i64 fr, .int .i64 to, .int .i64 hi, .int .i64 lo] 38)).heap[w.heap.size]? = some (.cells X 71 (0, 0))) := at_rowS (World.grownBy_alloc _ _ none) (heap_alloc_new w _) (by simp)
  have HB1 : Hid (((w.alloc (.cells X 71)).alloc (.cells #[.slice vo vn vc, .int .i64 fr, .int .i64 to, .int .i64 hi, .int .i64 lo] 38)).heap[w.heap.size + 1]? = some (.cells #[.slice vo vn vc, .int .i64 fr, .int .i64 to, .int .i64 hi, .int .i64 lo] 38 (0, 0))) := by
    have := heap_alloc_new (w.alloc (.cells X 71)) (.cells #[.slice vo vn vc, .int .i64 fr, .int .i64 to, .int .i64 hi, .int .i64 lo] 38)
    unfold Hid
    simpa using this
  obtain ⟨W2, HW2⟩ : ∃ W2, Hid (((w.alloc (.cells X 71)).alloc (.cells #[.slice vo vn vc, .int .i64 fr, .int .i64 to, .int .i64 hi, .int .i64 lo] 38)) = W2) := ⟨_, rfl⟩
  rw [unhide HW2] at HG0 HB0 HB1
  obtain ⟨c0, c1, c2, c3, c4⟩ := scanCells (unhide HB1)
  have HS := hide hs
  clear hv HT F hs
  go_enter Try.func58, Try.ntmps58
  go_wp2_with (rw [unhide HW2]; refine wpList_load_row rfl 71 _ rfl w.heap.size rfl X 71 (unhide HB0) _ Try.underlying71 rfl (by rw [unhide HS]; kernel_rfl) ?_)
  clear HW2
  refine (unhide HC _ (unhide HG0)).mono ?_
  rintro e w3 ⟨rfl, g3⟩
  have HG3 := hide (grown_trans (unhide HG0) g3)
  have hB3 := at_rowS g3 (unhide HB1) (by simp)
  clear c0 c1 c2 c3 c4 g3
  cases b2 with
  | false =>
    obtain rfl : t = false := by rw [← hp]; rfl
    clear hB3
    go_wp2
    go_ret
    exact ⟨rfl, unhide HG3⟩
  | true =>
    obtain rfl : t = b3 := by rw [← hp]; rfl
    obtain ⟨c0, c1, c2, c3, c4⟩ := scanCells hB3
    clear hB3
    go_wp2_with fail
    refine (unhide HP _).mono ?_
    rintro e w4 ⟨rfl, g4⟩
    have HG4 := hide (grown_trans (unhide HG3) g4)
    clear g4 c0 c1 c2 c3 c4
    go_wp2
    go_ret
    exact ⟨rfl, unhide HG4⟩

end Go.Proofs.Ytnjcmlmgjoaeeaa

namespace Go.Proofs.Ytnjcmlmgjoaeeaa
open Go.RowKit

/-- What a frame that was fixed tells of scans. -/
def TellsOk (X : Array Value) (fb : Bool) (n : Nat) : Prop := ∀ (w : World) (vo : Option Addr) (vn vc : Nat) (a : Scn), Rd .i64 w vo vn a.cs → vn ≤ 4194304 → ∀ t, Hid (scanB fb n a = t) →
    Calls Try.prog 58 #[.agg X, scV (.slice vo vn vc) a] w fun e w' => e = .returned (.bool t) ∧ w.grownBy w' none
theorem okComps_none (cs : List Int) : okComps 0 cs = false := by
  cases hk : okComps 0 cs with
  | false => rfl
  | true =>
    simp only [okComps, Bool.and_eq_true, decide_eq_true_eq] at hk
    have := compsTo_len hk.1
    omega
theorem tells_of {X : Array Value} {p wd ht rs : Int} {n : Nat} {C : Nat → Nat → Int} {b : Bool} (HFB : Hid (frameB p wd ht rs n C = b)) (h1 : b = false → X = #[.int .i64 0, .int .i64 0, .int .i64 0, .int .i64 0, .int .i64 0, .int .i64 0, .int .i64 0, .int .i64 0, .int .i64 0, .int .i64 0, .int .i64 0, .int .i64 0, .int .i64 0, .int .i64 0, .int .i64 0, .int .i64 0, .int .i64 0, .int .i64 0, .int .i64 0, .int .i64 0, .int .i64 0]) (h2 : b = true → ∃ D, Fx X p wd ht rs n D ∧ ∀ i, i < n → D i = C i) : TellsOk X b n := by
  intro w vo vn vc a hv hvn t HT
  cases b with
  | false =>
    obtain rfl := h1 rfl
    have e : t = false := by rw [← unhide HT]; rfl
    subst e
    exact scanOk #[.int .i64 0, .int .i64 0, .int .i64 0, .int .i64 0, .int .i64 0, .int .i64 0, .int .i64 0, .int .i64 0, .int .i64 0, .int .i64 0, .int .i64 0, .int .i64 0, .int .i64 0, .int .i64 0, .int .i64 0, .int .i64 0, .int .i64 0, .int .i64 0, .int .i64 0, .int .i64 0, .int .i64 0] rfl 0 (fun c w => (hasComp_none c w).mono (fun e w' h => by rw [show decide (0 ≤ c ∧ c ≤ ((0 : Nat) : Int) - 1) = false from decide_eq_false (by omega)]; exact h)) w vo vn vc a hv hvn false (by unfold Hid; rw [okComps_none]; rfl)
  | true =>
    obtain ⟨D, hF, hD⟩ := h2 rfl
    have hn4 := (geo_of (unhide HFB)).n4
    exact scanOk X hF.size n (fun c w => hasComp X p wd ht rs n D hF hn4 c _ rfl w) w vo vn vc a hv hvn t (by unfold Hid; rw [← unhide HT]; unfold scanB; rw [Bool.true_and])

set_option maxRecDepth 20000 in
set_option maxHeartbeats 1600000 in
theorem giveScanOk : ImplScanOk := by
  intro p wd ht rs fo n fc C vo vn vc a w hr hn hv hvn fb t HFB HT
  have HCALL := hide (fun (X : Array Value) (W : World) (h : TellsOk X fb n) (hg : w.grownBy W none) => h W vo vn vc a (hv.grown hg) (by omega) t HT)
  obtain ⟨cs, fr, to, hi, lo⟩ := a
  unfold scV at HCALL
  dsimp only at hv HCALL ⊢
  obtain ⟨W0, HW⟩ : ∃ W0, Hid ((w.alloc (.cells #[.int .i64 p, .int .i64 wd, .int .i64 ht, .int .i64 rs, .slice fo n fc] 26)).alloc (.cells #[.slice vo vn vc, .int .i64 fr, .int .i64 to, .int .i64 hi, .int .i64 lo] 38) = W0) := ⟨_, rfl⟩
  have HG0 : Hid (w.grownBy W0.drew none) := by rw [← unhide HW]; exact grown_drew (grown_alloc (grown_alloc (World.grownBy.refl _ _) _) _)
  have HB0 : Hid (W0.drew.heap[w.heap.size]? = some (.cells #[.int .i64 p, .int .i64 wd, .int .i64 ht, .int .i64 rs, .slice fo n fc] 26 (0, 0))) := by
    show W0.heap[w.heap.size]? = _
    rw [← unhide HW]
    exact at_rowS (World.grownBy_alloc _ _ none) (heap_alloc_new w _) (by simp)
  have HB1 : Hid (W0.drew.heap[w.heap.size + 1]? = some (.cells #[.slice vo vn vc, .int .i64 fr, .int .i64 to, .int .i64 hi, .int .i64 lo] 38 (0, 0))) := by
    show W0.heap[w.heap.size + 1]? = _
    rw [← unhide HW]
    have := heap_alloc_new (w.alloc (.cells #[.int .i64 p, .int .i64 wd, .int .i64 ht, .int .i64 rs, .slice fo n fc] 26)) (.cells #[.slice vo vn vc, .int .i64 fr, .int .i64 to, .int .i64 hi, .int .i64 lo] 38)
    simpa using this
  have HFIX := hide (fixFrame p wd ht rs fo n fc C W0.drew (hr.grown (unhide HG0)) hn fb HFB)
  clear hr hv HT
  go_enter Try.func23, Try.ntmps23
  go_wp2
  rw [unhide HW]
  clear HW
  refine wp_region_noPanic ?_
  refine wp_region_tail (fun W => W0.drew.grownBy W none) [true, false, true, false, false] (by kernel_rfl) (fun _ _ _ _ _ h => h) rfl (by kernel_rfl) (World.grownBy.refl _ _) ?_
  generalize W0.drew = W1 at *
  refine heldF_take (v := .agg #[.int .i64 p, .int .i64 wd, .int .i64 ht, .int .i64 rs, .slice fo n fc]) (Or.inl ⟨by rfl, ?_⟩) ?_
  · intro w' hSw
    exact exec_row 26 _ rfl w.heap.size rfl _ _ (grown_atT hSw (unhide HB0) (by simp)) _ Try.underlying26 rfl (by kernel_rfl)
  try simp only [Act.put, List.setIfInBounds_toArray, List.set_cons_zero, List.set_cons_succ]
  refine heldF_skip ?_
  refine heldF_take (v := .agg #[.slice vo vn vc, .int .i64 fr, .int .i64 to, .int .i64 hi, .int .i64 lo]) (Or.inl ⟨by rfl, ?_⟩) ?_
  · intro w' hSw
    exact exec_row 38 _ rfl (w.heap.size + 1) rfl _ _ (grown_atT hSw (unhide HB1) (by simp)) _ Try.underlying38 rfl (by kernel_rfl)
  try simp only [Act.put, List.setIfInBounds_toArray, List.set_cons_zero, List.set_cons_succ]
  refine heldF_skip (heldF_skip (heldF_nil ?_))
  refine tailF_skip ?_
  refine tailF_step (fun K hK => ?_)
  go_simp
  refine (unhide HFIX).mono ?_
  rintro e w2 ⟨X, rfl, h1, h2, g2⟩
  have HT2 := hide (tells_of HFB h1 h2)
  have HG2 := hide (grown_trans (unhide HG0) g2)
  refine hK.out _ _ g2 ?_
  clear hK K h1 h2 HFIX
  try simp only [Act.put, List.setIfInBounds_toArray, List.set_cons_zero, List.set_cons_succ]
  refine tailF_skip ?_
  refine tailF_step (fun K hK => ?_)
  go_simp
  refine (unhide HCALL X w2 (unhide HT2) (unhide HG2)).mono ?_
  rintro e w3 ⟨rfl, g3⟩
  have HG3 := hide (grown_trans (unhide HG2) g3)
  refine hK.out _ _ (grown_trans g2 g3) ?_
  have g23 := hide (grown_trans g2 g3)
  clear hK K HCALL g2 g3
  try simp only [Act.put, List.setIfInBounds_toArray, List.set_cons_zero, List.set_cons_succ]
  refine tailF_step (fun K hK => ?_)
  go_simp
  refine hK.out _ _ (unhide g23) ?_
  clear hK K
  refine tailF_nil (NoPanic.normal ?_)
  go_wp2
  go_ret
  exact ⟨rfl, unhide HG3⟩

end Go.Proofs.Ytnjcmlmgjoaeeaa

namespace Go.Proofs.Ytnjcmlmgjoaeeaa
open Go.RowKit

/-- A frame in its box beside the map. -/
structure Lq (w wr : World) (X : Array Value) (b : Nat) (Y : List (List Int)) : Prop where
  fr : wr.heap[w.heap.size]? = some (.cells X 71 (0, 0))
  own : OwM wr b Y
  lo : w.heap.size + 1 ≤ b
  grown : w.grownBy wr none
theorem Lq.size {w wr : World} {X : Array Value} {b : Nat} {Y : List (List Int)} (h : Lq w wr X b Y) : w.heap.size + 1 ≤ wr.heap.size := (Array.getElem?_eq_some_iff.1 h.fr).1
theorem Lq.new {w wr w' : World} {X : Array Value} {b : Nat} {Y : List (List Int)} (h : Lq w wr X b Y) (g : wr.grownBy w' none) : Lq w w' X b Y :=
  ⟨at_rowS g h.fr (by simp), h.own.keep g (by simp), h.lo, grown_trans h.grown g⟩
theorem Lq.put {w wr w' : World} {X : Array Value} {b : Nat} {Y Z : List (List Int)} (h : Lq w wr X b Y) (o : OwM w' b Z) (g : wr.grownBy w' (some b)) : Lq w w' X b Z :=
  ⟨at_rowS g h.fr (fun e => by injection e with e; have := h.lo; omega), o, h.lo, grown_new h.grown g (fun x e => by injection e with e; have := h.lo; omega)⟩

set_option maxRecDepth 20000 in
set_option maxHeartbeats 6400000 in
theorem leftOf_no (v : Value) (w : World) :
    Calls Try.prog 47 #[.agg #[.int .i64 0, .int .i64 0, .int .i64 0, .int .i64 0, .int .i64 0, .int .i64 0, .int .i64 0, .int .i64 0, .int .i64 0, .int .i64 0, .int .i64 0, .int .i64 0, .int .i64 0, .int .i64 0, .int .i64 0, .int .i64 0, .int .i64 0, .int .i64 0, .int .i64 0, .int .i64 0, .int .i64 0], v] w fun e w' => e = .returned (.tuple #[.map none, .bool false]) ∧ w.grownBy w' none := by
  obtain ⟨X, HX⟩ : ∃ X : Array Value, Hid (#[.int .i64 0, .int .i64 0, .int .i64 0, .int .i64 0, .int .i64 0, .int .i64 0, .int .i64 0, .int .i64 0, .int .i64 0, .int .i64 0, .int .i64 0, .int .i64 0, .int .i64 0, .int .i64 0, .int .i64 0, .int .i64 0, .int .i64 0, .int .i64 0, .int .i64 0, .int .i64 0, .int .i64 0] = X) := ⟨_, rfl⟩
  have HN := hide (fun W => isNone_yes W)
  have HS : Hid (X.size = 21) := by unfold Hid; rw [← unhide HX]; rfl
  rw [unhide HX] at HN ⊢
  clear HX
  have HB0 := hide (heap_alloc_new w (.cells X 71))
  go_enter Try.func47, Try.ntmps47
  go_wp2_with (refine wpList_load_row rfl 71 _ rfl w.heap.size rfl X 71 (unhide HB0) _ Try.underlying71 rfl (by rw [unhide HS]; kernel_rfl) ?_)
  refine (unhide HN _).mono ?_
  rintro e w1 ⟨rfl, g1⟩
  have HG1 := hide (grown_trans (World.grownBy_alloc w (.cells X 71) none) g1)
  clear g1
  go_wp2
  refine bodyPost_ret (v := .tuple #[.map none, .bool false]) (by simp [results, Try.results47, go_sem]) rfl ⟨rfl, unhide HG1⟩

set_option maxRecDepth 20000 in
set_option maxHeartbeats 6400000 in
theorem leftOf_yes (X : Array Value) (p wd ht rs : Int) (n : Nat) (D : Nat → Nat → Int) (hF : Fx X p wd ht rs n D) (hp : (p == 0) = false) (hn : n ≤ 4) (HTO : TellsOk X true n) (v : Value) (S : List Scn) (w : World) (hS : RdSs w v S) (hcs : ∀ a ∈ S, a.cs.length ≤ 4194304) (hSl : S.length ≤ 4194304) (r : Option (List (List Int))) (HR : Hid (leftO true n S = r)) :
    Calls Try.prog 47 #[.agg X, v] w fun e w' => ∃ mv, e = .returned (.tuple #[mv, .bool r.isSome]) ∧ (∀ Y, r = some Y → ∃ b, mv = .map (some b) ∧ w.heap.size ≤ b ∧ OwM w' b Y) ∧ w.grownBy w' none := by
  have HS := hide hF.size
  have h4 := hF.c4
  have HNO := hide (fun W => isNone_no X p wd ht rs n D hF hp W)
  obtain ⟨vo, vc, rfl, hSr⟩ := hS
  have hr := unhide HR
  unfold leftO at hr
  rw [Bool.true_and] at hr
  have HB0 := hide (heap_alloc_new w (.cells X 71))
  have HG0 : Hid (w.grownBy (w.alloc (.cells X 71)) none) := World.grownBy_alloc _ _ _
  have HSR := hide hSr
  have HCS := hide hcs
  have HX4 : Hid (X[4]? = some (.int .i64 n)) := h4
  clear hSr hcs hF h4 HR
  go_enter Try.func47, Try.ntmps47
  go_wp2_with (refine wpList_load_row rfl 71 _ rfl w.heap.size rfl X 71 (unhide HB0) _ Try.underlying71 rfl (by rw [unhide HS]; kernel_rfl) ?_)
  refine (unhide HNO _).mono ?_
  rintro e w1 ⟨rfl, g1⟩
  have HG1 := hide (grown_trans (unhide HG0) g1)
  have HB1 := hide (at_rowS g1 (unhide HB0) (by simp))
  clear g1 HG0 HB0 HNO
  by_cases h40 : S.length ≤ 40
  · have hgt : decide ((40 : Int) < (S.length : Int)) = false := decide_eq_false (by omega)
    rw [if_pos (decide_eq_true h40)] at hr
    have HRR := hide hr
    have c4 : w1.cell? ⟨w.heap.size, 4, none⟩ = some (.int .i64 n) := by rw [cell_of_row w1 _ 4 _ _ (0, 0) (unhide HB1)]; exact unhide HX4
    clear hr
    go_wp2_with fail
    clear c4
    refine (nothingTold n hn _).mono ?_
    rintro e w2 ⟨b, rfl, hb2, o2, g2⟩
    have HL2 : Hid (Lq w w2 X b (nothing n)) := ⟨at_rowS g2 (unhide HB1) (by simp), o2, by have := (Array.getElem?_eq_some_iff.1 (unhide HB1)).1; omega, grown_trans (unhide HG1) g2⟩
    clear HG1 HB1 hb2 o2 g2 hgt
    go_wp2
    go_loopw [21] (fun iv wr => ∃ (i : Nat) (Y : List (List Int)), i ≤ S.length ∧ iv = .int .i64 i ∧ Hid (Lq w wr X b Y) ∧ Hid (leftAll true n (S.take i) (nothing n) = some Y)) (fun iv _ => S.length - (intOf iv).toNat)
    case atStart => exact ⟨0, _, Nat.zero_le _, rfl, HL2, rfl⟩
    case round =>
      clear HL2
      obtain ⟨i, Y, hi, rfl, hf, hY⟩ := hrel
      by_cases hlt : i < S.length
      · have hltI : decide ((i : Int) < (S.length : Int)) = true := decide_eq_true (by omega)
        have hltJ : (i : Int) < (S.length : Int) := by omega
        have i0 : (0 : Int) ≤ (i : Int) := by omega
        obtain ⟨sb, soff, cf, rfl, hcell, hsc, hrd⟩ := unhide HSR i hlt
        obtain ⟨a, HA⟩ : ∃ a, Hid (S.getD i Scn.zero = a) := ⟨_, rfl⟩
        have ea : S[i] = a := by rw [← unhide HA]; simp [hlt]
        have hcl := unhide HCS S[i] (List.getElem_mem hlt)
        have NEXT : Hid (∀ Z, scanB true n a = true → leftScan a Y = some Z → leftAll true n (S.take (i + 1)) (nothing n) = some Z) := fun Z h1 h2 => leftAll_next i hlt (unhide hY) (by rw [ea]; exact h1) (by rw [ea]; exact h2)
        have FAIL : Hid (scanB true n a = false ∨ leftScan a Y = none → r = none) := fun h => by rw [← unhide HRR]; exact leftAll_fails i hlt (unhide hY) (by rw [ea]; exact h)
        have HR64 := hide (leftAll_step _ _ Y (nothing_rows n) (unhide hY)).1
        rw [ea] at hsc hrd hcl
        clear ea HA
        obtain ⟨cs, fr, to, hi', lo⟩ := a
        obtain ⟨co, cc, ec, hrc⟩ := hrd
        dsimp only at hsc hrc hcl ec
        obtain ⟨cn, HCN⟩ : ∃ cn, Hid (cs.length = cn) := ⟨_, rfl⟩
        rw [unhide HCN] at ec hrc hcl
        obtain ⟨k0, k1, k2, k3, k4⟩ := rowScan (fun j hj => (unhide hf).grown.cell (hcell j hj) (by simp)) hsc
        rw [ec] at k0
        dsimp only at k1 k2 k3 k4
        have HS5 := hide (heap_alloc_new wr (.cells #[.slice co cn cc, .int .i64 fr, .int .i64 to, .int .i64 hi', .int .i64 lo] 38))
        have HF5 := hide ((unhide hf).new (World.grownBy_alloc wr (.cells #[.slice co cn cc, .int .i64 fr, .int .i64 to, .int .i64 hi', .int .i64 lo] 38) none))
        obtain ⟨s0, s1, s2, s3, s4⟩ := scanCells (unhide HS5)
        have HRC := hide hrc
        obtain ⟨t, HT⟩ : ∃ t, Hid (scanB true n ⟨cs, fr, to, hi', lo⟩ = t) := ⟨_, rfl⟩
        have HSC := hide (fun W (g : w.grownBy W none) => HTO W co cn cc ⟨cs, fr, to, hi', lo⟩ ((unhide HRC).grown g) hcl t HT)
        unfold scV at HSC
        dsimp only at HSC
        clear hcell hsc hrc ec
        go_wp2_with (refine wpList_load_row rfl 71 _ rfl w.heap.size rfl X 71 (unhide HF5).fr _ Try.underlying71 rfl (by rw [unhide HS]; kernel_rfl) ?_)
        clear s0 s1 s2 s3 s4 k0 k1 k2 k3 k4
        refine (unhide HSC _ (unhide HF5).grown).mono ?_
        rintro e w6 ⟨rfl, g6⟩
        have HF6 := hide ((unhide HF5).new g6)
        have HS6 := hide (at_rowS g6 (unhide HS5) (by simp))
        clear HF5 HS5 g6 HSC hf
        obtain ⟨s0, s1, s2, s3, s4⟩ := scanCells (unhide HS6)
        cases t with
        | false =>
          obtain rfl := unhide FAIL (.inl (unhide HT))
          go_wp2
          refine bodyPost_ret (v := .tuple #[.map none, .bool false]) (by simp [results, Try.results47, go_sem]) rfl ⟨_, rfl, fun Y e => absurd e (by simp), (unhide HF6).grown⟩
        | true =>
          obtain ⟨q, HQ⟩ : ∃ q, Hid (leftScan ⟨cs, fr, to, hi', lo⟩ Y = q) := ⟨_, rfl⟩
          have HTL := hide (tell n hn Y (unhide HR64) b co cn cc ⟨cs, fr, to, hi', lo⟩ w6 ((unhide HRC).grown (unhide HF6).grown) hcl (unhide HF6).own (unhide HT) q HQ)
          unfold scV at HTL
          dsimp only at HTL
          go_wp2_with fail
          clear s0 s1 s2 s3 s4
          refine (unhide HTL).mono ?_
          rintro e w7 ⟨rfl, o7, g7⟩
          have HO7 := hide o7
          have HG7 := hide g7
          clear HTL o7 g7
          cases q with
          | none =>
            obtain rfl := unhide FAIL (.inr (unhide HQ))
            have HGG := hide (grown_new (unhide HF6).grown (unhide HG7) (fun x e => by injection e with e; have := (unhide HF6).lo; omega))
            go_wp2
            refine bodyPost_ret (v := .tuple #[.map none, .bool false]) (by simp [results, Try.results47, go_sem]) rfl ⟨_, rfl, fun Y e => absurd e (by simp), unhide HGG⟩
          | some Z =>
            have HF7 := hide ((unhide HF6).put (unhide HO7 Z rfl) (unhide HG7))
            have HNX := hide (unhide NEXT Z (unhide HT) (unhide HQ))
            clear HF6 HO7 HG7
            go_wp2
            go_roundw
            case rel => exact ⟨i + 1, Z, by omega, by go_num, HF7, HNX⟩
            case measure => simp [intOf]; omega
      · obtain rfl : i = S.length := by omega
        have hltI : decide ((S.length : Int) < (S.length : Int)) = false := decide_eq_false (by omega)
        have er : r = some Y := by
          rw [← unhide HRR]
          have h := unhide hY
          rw [List.take_of_length_le (Nat.le_refl _)] at h
          exact h
        subst er
        go_wp2
        refine bodyPost_ret (v := .tuple #[.map (some b), .bool true]) (by simp [results, Try.results47, go_sem]) rfl ⟨_, rfl, fun Z e => ⟨b, rfl, by have := (unhide hf).lo; omega, by rw [← Option.some.inj e]; exact (unhide hf).own⟩, (unhide hf).grown⟩
  · have hgt : decide ((40 : Int) < (S.length : Int)) = true := decide_eq_true (by omega)
    rw [if_neg (by rw [decide_eq_false h40]; simp)] at hr
    subst hr
    go_wp2
    refine bodyPost_ret (v := .tuple #[.map none, .bool false]) (by simp [results, Try.results47, go_sem]) rfl ⟨_, rfl, fun Y e => absurd e (by simp), unhide HG1⟩

end Go.Proofs.Ytnjcmlmgjoaeeaa
