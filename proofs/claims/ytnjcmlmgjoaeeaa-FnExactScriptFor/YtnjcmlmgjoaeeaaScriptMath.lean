/-
  Scripts, as mathematics: what is left never grows, and the three scripts tell all.
-/
import Derived.Test.YtnjcmlmgjoaeeaaScriptPure
namespace Go.Proofs.Ytnjcmlmgjoaeeaa

/-- Rows of 64 numbers. -/
def Rows64 (n : Nat) (X : List (List Int)) : Prop := X.length = n ∧ ∀ c, c < n → (X.getD c []).length = 64
/-- A number of a row of rows. -/
def atL (X : List (List Int)) (c k : Nat) : Int := (X.getD c []).getD k 0
theorem nothing_rows (n : Nat) : Rows64 n (nothing n) := by
  refine ⟨by simp [nothing], fun c hc => ?_⟩
  have : (nothing n).getD c [] = List.replicate 64 (-1) := by simp [nothing, hc]
  rw [this, List.length_replicate]
theorem getD_set_same {α : Type} (X : List α) (c : Nat) (x d : α) (h : c < X.length) : (X.set c x).getD c d = x := by simp [h]
theorem getD_set_other {α : Type} (X : List α) (c j : Nat) (x d : α) (h : c ≠ j) : (X.set c x).getD j d = X.getD j d := by simp [h]
/-- Nothing that was told is told less of. -/
def Finer (X Y : List (List Int)) : Prop := ∀ c k, k < 64 → 0 ≤ atL X c k → 0 ≤ atL Y c k ∧ atL Y c k ≤ atL X c k
theorem Finer.refl (X : List (List Int)) : Finer X X := fun _ _ _ h => ⟨h, Int.le_refl _⟩
theorem Finer.trans {X Y Z : List (List Int)} (h : Finer X Y) (g : Finer Y Z) : Finer X Z := fun c k hk h0 => by
  obtain ⟨a, b⟩ := h c k hk h0
  obtain ⟨c1, d⟩ := g c k hk a
  exact ⟨c1, Int.le_trans d b⟩
theorem leftComps_step {want lo : Int} {k m : Nat} (hkm : k + m ≤ 64) (hwl : want = -1 ∨ lo ≤ want) (hlo : 0 ≤ lo) {n : Nat} : ∀ (cs : List Int) (X Y : List (List Int)), Rows64 n X → (∀ c ∈ cs, 0 ≤ c ∧ c < (n : Int)) → leftComps want lo k m cs X = some Y → Rows64 n Y ∧ Finer X Y
  | [], X, Y, hX, _, h => by
    unfold leftComps at h
    rw [← Option.some.inj h]
    exact ⟨hX, Finer.refl X⟩
  | c :: cs, X, Y, hX, hc, h => by
    unfold leftComps at h
    obtain ⟨h0, h1⟩ := hc c (by simp)
    have hcn : c.toNat < n := by omega
    have hcl : c.toNat < X.length := by rw [hX.1]; exact hcn
    cases hr : leftRow want lo k m (X.getD c.toNat []) with
    | none => rw [hr] at h; exact absurd h (by simp)
    | some row =>
      rw [hr] at h
      have hl := leftRow_len k m _ row hr
      rw [hX.2 _ hcn] at hl
      have hS : Rows64 n (X.set c.toNat row) := by
        refine ⟨by rw [List.length_set]; exact hX.1, fun j hj => ?_⟩
        by_cases e : c.toNat = j
        · rw [← e, getD_set_same _ _ _ _ hcl]; exact hl
        · rw [getD_set_other _ _ _ _ _ e]; exact hX.2 j hj
      have hF : Finer X (X.set c.toNat row) := fun j q hq hp => by
        unfold atL at hp ⊢
        by_cases e : c.toNat = j
        · subst e
          rw [getD_set_same _ _ _ _ hcl]
          obtain ⟨a1, a2⟩ := leftRow_at k m _ row hr (by rw [hX.2 _ hcn]; exact hkm) q
          by_cases hin : k ≤ q ∧ q < k + m
          · obtain ⟨b1, b2⟩ := a2 hin.1 hin.2
            rw [b2]
            rw [b1] at hp ⊢
            omega
          · rw [a1 (by omega)]
            exact ⟨hp, Int.le_refl _⟩
        · rw [getD_set_other _ _ _ _ _ e]
          exact ⟨hp, Int.le_refl _⟩
      obtain ⟨r1, r2⟩ := leftComps_step hkm hwl hlo cs _ Y hS (fun c' hc' => hc c' (by simp [hc'])) h
      exact ⟨r1, hF.trans r2⟩

theorem leftAll_app (fb : Bool) (n : Nat) : ∀ (s t : List Scn) (X : List (List Int)), leftAll fb n (s ++ t) X = (leftAll fb n s X).bind (leftAll fb n t)
  | [], t, X => rfl
  | a :: s, t, X => by
    simp only [List.cons_append, leftAll]
    split
    · cases leftScan a X with
      | none => rfl
      | some Y => exact leftAll_app fb n s t Y
    · rfl

theorem okComps_in {n : Nat} {cs : List Int} (h : okComps n cs = true) : ∀ c ∈ cs, 0 ≤ c ∧ c < (n : Int) := by
  intro c hc
  obtain ⟨i, hi, rfl⟩ := List.mem_iff_getElem.1 hc
  simp only [okComps, Bool.and_eq_true, decide_eq_true_eq] at h
  obtain ⟨⟨h0, h1⟩, _⟩ := compsTo_at h.1 i hi
  have e : cs.getD i 0 = cs[i] := by simp [hi]
  rw [e] at h0 h1
  omega
theorem passB_in {a : Scn} (h : passB a = true) : 0 ≤ a.fr ∧ a.fr ≤ a.to ∧ a.to ≤ 63 ∧ 0 ≤ a.lo ∧ (a.hi = 0 ∨ a.hi = a.lo + 1) := by
  simp only [passB, Bool.and_eq_true, Bool.or_eq_true, decide_eq_true_eq] at h
  omega
theorem leftScan_step {fb : Bool} {n : Nat} {a : Scn} (ha : scanB fb n a = true) {X Y : List (List Int)} (hX : Rows64 n X) (h : leftScan a X = some Y) : Rows64 n Y ∧ Finer X Y := by
  simp only [scanB, Bool.and_eq_true] at ha
  obtain ⟨⟨_, hc⟩, hp⟩ := ha
  obtain ⟨p1, p2, p3, p4, p5⟩ := passB_in hp
  unfold leftScan at h
  refine leftComps_step (k := a.fr.toNat) (m := (a.to - a.fr + 1).toNat) (by omega) ?_ p4 a.cs X Y hX (okComps_in hc) h
  unfold wantOf
  split
  · exact .inl rfl
  · right; omega
theorem leftAll_step {fb : Bool} {n : Nat} : ∀ (s : List Scn) (X Y : List (List Int)), Rows64 n X → leftAll fb n s X = some Y → Rows64 n Y ∧ Finer X Y
  | [], X, Y, hX, h => by
    unfold leftAll at h
    rw [← Option.some.inj h]
    exact ⟨hX, Finer.refl X⟩
  | a :: s, X, Y, hX, h => by
    unfold leftAll at h
    split at h
    · rename_i hb
      cases hs : leftScan a X with
      | none => rw [hs] at h; exact absurd h (by simp)
      | some Z =>
        rw [hs] at h
        obtain ⟨z1, z2⟩ := leftScan_step hb hX hs
        obtain ⟨r1, r2⟩ := leftAll_step s Z Y z1 h
        exact ⟨r1, z2.trans r2⟩
    · exact absurd h (by simp)
/-- What is left of a script that is one: rows of 64. -/
theorem leftO_rows {fb : Bool} {n : Nat} {s : List Scn} {X : List (List Int)} (h : leftO fb n s = some X) : Rows64 n X := by
  unfold leftO at h
  split at h
  · exact (leftAll_step s _ X (nothing_rows n) h).1
  · exact absurd h (by simp)
/-- What is left of a script's beginning: as many rows, and where something was told it is told no less behind it. -/
theorem left_half {fb : Bool} {n : Nat} {s : List Scn} {X : List (List Int)} (h : leftO fb n s = some X) (k : Nat) (hk : k ≤ s.length) : ∃ H, leftO fb n (s.take k) = some H ∧ Rows64 n H ∧ Rows64 n X ∧ Finer H X := by
  have h0 := h
  unfold leftO at h
  split at h
  · rename_i hb
    rw [Bool.and_eq_true, decide_eq_true_eq] at hb
    have e : s = s.take k ++ s.drop k := (List.take_append_drop k s).symm
    rw [e, leftAll_app] at h
    cases hs : leftAll fb n (s.take k) (nothing n) with
    | none => rw [hs] at h; exact absurd h (by simp)
    | some H =>
      rw [hs] at h
      have h2 : leftAll fb n (s.drop k) H = some X := h
      obtain ⟨r1, _⟩ := leftAll_step _ _ H (nothing_rows n) hs
      obtain ⟨r2, r3⟩ := leftAll_step _ _ X r1 h2
      refine ⟨H, ?_, r1, r2, r3⟩
      unfold leftO
      rw [if_pos]
      · exact hs
      · rw [Bool.and_eq_true, decide_eq_true_eq, List.length_take]
        exact ⟨hb.1, by omega⟩
  · exact absurd h (by simp)

/-- The three scripts tell all, and nothing comes behind them. -/
theorem script_tells (n : Nat) (h1 : 1 ≤ n) (h4 : n ≤ 4) (kind : Int) (hk : 0 ≤ kind ∧ kind ≤ 2) : scriptB true n (scriptG true n kind) = true ∧ ∃ a s, scriptG true n kind = a :: s ∧ leftG true n (scriptG true n kind ++ [a]) = [] := by
  have hn : n = 1 ∨ n = 2 ∨ n = 3 ∨ n = 4 := by omega
  have hk3 : kind = 0 ∨ kind = 1 ∨ kind = 2 := by omega
  rcases hn with rfl | rfl | rfl | rfl <;> rcases hk3 with rfl | rfl | rfl <;> exact ⟨by kernel_rfl, _, _, rfl, by kernel_rfl⟩

end Go.Proofs.Ytnjcmlmgjoaeeaa
