/-
  ScriptPure, ScriptMath, FrameRows, FrameLaws, FrameMarks, FrameBox, ScanTo, ScanHeld, ScanSz, IntSSD, DeepI2, ScriptGive, TreeGA, AppIntS.
-/
import Derived.Deep.QuietTactic
import Derived.BigQuiet
import Derived.Deep.RegionHeld3
import Derived.Test.YtnjcmlmgjoaeeaaRows
import Derived.Maps.AppendAt
import Derived.Deep.AppendLies
import Derived.Test.YtnjcmlmgjoaeeaaMVb

namespace Go.Proofs.Ytnjcmlmgjoaeeaa

/-- A row of what was told last, from place k on m places: each has to be 'want', and becomes 'lo'. -/
def leftRow (want lo : Int) : Nat → Nat → List Int → Option (List Int)
  | _, 0, row => some row
  | k, m + 1, row => if row.getD k 0 = want then leftRow want lo (k + 1) m (row.set k lo) else none
/-- The rows of a scan's components, one behind the other. -/
def leftComps (want lo : Int) (k m : Nat) : List Int → List (List Int) → Option (List (List Int))
  | [], X => some X
  | c :: cs, X => match leftRow want lo k m (X.getD c.toNat []) with
    | some row => leftComps want lo k m cs (X.set c.toNat row)
    | none => none
def wantOf (a : Scn) : Int := if a.hi = 0 then -1 else a.hi
def leftScan (a : Scn) (X : List (List Int)) : Option (List (List Int)) := leftComps (wantOf a) a.lo a.fr.toNat (a.to - a.fr + 1).toNat a.cs X
/-- All scans of a script, each of which has to be one. -/
def leftAll (fb : Bool) (n : Nat) : List Scn → List (List Int) → Option (List (List Int))
  | [], X => some X
  | a :: s, X => if scanB fb n a then (match leftScan a X with | some Y => leftAll fb n s Y | none => none) else none
def nothing (n : Nat) : List (List Int) := List.replicate n (List.replicate 64 (-1))
def leftO (fb : Bool) (n : Nat) (s : List Scn) : Option (List (List Int)) := if fb && decide (s.length ≤ 40) then leftAll fb n s (nothing n) else none
def leftG (fb : Bool) (n : Nat) (s : List Scn) : List (List Int) := (leftO fb n s).getD []
def scriptB (fb : Bool) (n : Nat) (s : List Scn) : Bool := match leftO fb n s with | some X => X.all (fun row => row.all (fun x => x == 0)) | none => false

def allC (n : Nat) : List Int := (List.range n).map (fun i : Nat => (i : Int))
def eachC (n : Nat) (f : Int → List Scn) : List Scn := (allC n).flatMap f
/-- The three scripts. -/
def scriptG (fb : Bool) (n : Nat) (kind : Int) : List Scn :=
  if fb then
    (if kind = 0 then [⟨allC n, 0, 63, 0, 0⟩]
    else if kind = 1 then eachC n (fun i => [⟨[i], 0, 63, 0, 0⟩])
    else if kind = 2 then [⟨allC n, 0, 0, 0, 1⟩] ++ eachC n (fun i => [⟨[i], 1, 5, 0, 2⟩, ⟨[i], 6, 63, 0, 2⟩]) ++ eachC n (fun i => [⟨[i], 1, 63, 2, 1⟩]) ++ [⟨allC n, 0, 0, 1, 0⟩] ++ eachC n (fun i => [⟨[i], 1, 63, 1, 0⟩])
    else [])
  else []

theorem leftRow_len {want lo : Int} : ∀ (k m : Nat) (row row' : List Int), leftRow want lo k m row = some row' → row'.length = row.length
  | _, 0, row, row', h => by unfold leftRow at h; rw [Option.some.inj h]
  | k, m + 1, row, row', h => by
    unfold leftRow at h
    split at h
    · rw [leftRow_len (k + 1) m _ row' h, List.length_set]
    · exact absurd h (by simp)
theorem leftRow_at {want lo : Int} : ∀ (k m : Nat) (row row' : List Int), leftRow want lo k m row = some row' → k + m ≤ row.length → ∀ j, (j < k ∨ k + m ≤ j → row'.getD j 0 = row.getD j 0) ∧ (k ≤ j → j < k + m → row.getD j 0 = want ∧ row'.getD j 0 = lo)
  | k, 0, row, row', h, _, j => by
    unfold leftRow at h
    rw [Option.some.inj h]
    exact ⟨fun _ => rfl, fun h1 h2 => by omega⟩
  | k, m + 1, row, row', h, hl, j => by
    unfold leftRow at h
    split at h
    · rename_i hw
      obtain ⟨a1, a2⟩ := leftRow_at (k + 1) m _ row' h (by rw [List.length_set]; omega) j
      have hk : k < row.length := by omega
      refine ⟨fun hj => ?_, fun h1 h2 => ?_⟩
      · rw [a1 (by omega)]
        have : k ≠ j := by omega
        simp [this]
      · by_cases e : k = j
        · subst e
          refine ⟨hw, ?_⟩
          rw [a1 (by omega)]
          simp [hk]
        · obtain ⟨b1, b2⟩ := a2 (by omega) (by omega)
          refine ⟨?_, b2⟩
          rw [← b1]
          simp [e]
    · exact absurd h (by simp)

end Go.Proofs.Ytnjcmlmgjoaeeaa

namespace Go.Proofs.Ytnjcmlmgjoaeeaa

/-- Rows of 64 numbers. -/
def Rows64 (n : Nat) (X : List (List Int)) : Prop := X.length = n ∧ ∀ c, c < n → (X.getD c []).length = 64
/-- A number of a row of rows. -/
def atL (X : List (List Int)) (c k : Nat) : Int := (X.getD c []).getD k 0
theorem nothing_rows (n : Nat) : Rows64 n (nothing n) := by
  refine ⟨by simp [nothing], fun c hc => ?_⟩
  have : (nothing n).getD c [] = List.replicate 64 (-1) := by simp [nothing, hc]
  rw [this, List.length_replicate]
theorem getD_set_same {α : Type} (X : List α) (c : Nat) (x d : α) (h : c < X.length) : (X.set c x).getD c d = x := by simp [h]
theorem getD_set_other {α : Type} (X : List α) (c j : Nat) (x d : α) (h : c ≠ j) : (X.set c x).getD j d = X.getD j d := by simp [h]
/-- Nothing that was told is told less of. -/
def Finer (X Y : List (List Int)) : Prop := ∀ c k, k < 64 → 0 ≤ atL X c k → 0 ≤ atL Y c k ∧ atL Y c k ≤ atL X c k
theorem Finer.refl (X : List (List Int)) : Finer X X := fun _ _ _ h => ⟨h, Int.le_refl _⟩
theorem Finer.trans {X Y Z : List (List Int)} (h : Finer X Y) (g : Finer Y Z) : Finer X Z := fun c k hk h0 => by
  obtain ⟨a, b⟩ := h c k hk h0
  obtain ⟨c1, d⟩ := g c k hk a
  exact ⟨c1, Int.le_trans d b⟩
theorem leftComps_step {want lo : Int} {k m : Nat} (hkm : k + m ≤ 64) (hwl : want = -1 ∨ lo ≤ want) (hlo : 0 ≤ lo) {n : Nat} : ∀ (cs : List Int) (X Y : List (List Int)), Rows64 n X → (∀ c ∈ cs, 0 ≤ c ∧ c < (n : Int)) → leftComps want lo k m cs X = some Y → Rows64 n Y ∧ Finer X Y
  | [], X, Y, hX, _, h => by
    unfold leftComps at h
    rw [← Option.some.inj h]
    exact ⟨hX, Finer.refl X⟩
  | c :: cs, X, Y, hX, hc, h => by
    unfold leftComps at h
    obtain ⟨h0, h1⟩ := hc c (by simp)
    have hcn : c.toNat < n := by omega
    have hcl : c.toNat < X.length := by rw [hX.1]; exact hcn
    cases hr : leftRow want lo k m (X.getD c.toNat []) with
    | none => rw [hr] at h; exact absurd h (by simp)
    | some row =>
      rw [hr] at h
      have hl := leftRow_len k m _ row hr
      rw [hX.2 _ hcn] at hl
      have hS : Rows64 n (X.set c.toNat row) := by
        refine ⟨by rw [List.length_set]; exact hX.1, fun j hj => ?_⟩
        by_cases e : c.toNat = j
        · rw [← e, getD_set_same _ _ _ _ hcl]; exact hl
        · rw [getD_set_other _ _ _ _ _ e]; exact hX.2 j hj
      have hF : Finer X (X.set c.toNat row) := fun j q hq hp => by
        unfold atL at hp ⊢
        by_cases e : c.toNat = j
        · subst e
          rw [getD_set_same _ _ _ _ hcl]
          obtain ⟨a1, a2⟩ := leftRow_at k m _ row hr (by rw [hX.2 _ hcn]; exact hkm) q
          by_cases hin : k ≤ q ∧ q < k + m
          · obtain ⟨b1, b2⟩ := a2 hin.1 hin.2
            rw [b2]
            rw [b1] at hp ⊢
            omega
          · rw [a1 (by omega)]
            exact ⟨hp, Int.le_refl _⟩
        · rw [getD_set_other _ _ _ _ _ e]
          exact ⟨hp, Int.le_refl _⟩
      obtain ⟨r1, r2⟩ := leftComps_step hkm hwl hlo cs _ Y hS (fun c' hc' => hc c' (by simp [hc'])) h
      exact ⟨r1, hF.trans r2⟩

theorem leftAll_app (fb : Bool) (n : Nat) : ∀ (s t : List Scn) (X : List (List Int)), leftAll fb n (s ++ t) X = (leftAll fb n s X).bind (leftAll fb n t)
  | [], t, X => rfl
  | a :: s, t, X => by
    simp only [List.cons_append, leftAll]
    split
    · cases leftScan a X with
      | none => rfl
      | some Y => exact leftAll_app fb n s t Y
    · rfl

theorem okComps_in {n : Nat} {cs : List Int} (h : okComps n cs = true) : ∀ c ∈ cs, 0 ≤ c ∧ c < (n : Int) := by
  intro c hc
  obtain ⟨i, hi, rfl⟩ := List.mem_iff_getElem.1 hc
  simp only [okComps, Bool.and_eq_true, decide_eq_true_eq] at h
  obtain ⟨⟨h0, h1⟩, _⟩ := compsTo_at h.1 i hi
  have e : cs.getD i 0 = cs[i] := by simp [hi]
  rw [e] at h0 h1
  omega
theorem passB_in {a : Scn} (h : passB a = true) : 0 ≤ a.fr ∧ a.fr ≤ a.to ∧ a.to ≤ 63 ∧ 0 ≤ a.lo ∧ (a.hi = 0 ∨ a.hi = a.lo + 1) := by
  simp only [passB, Bool.and_eq_true, Bool.or_eq_true, decide_eq_true_eq] at h
  omega
theorem leftScan_step {fb : Bool} {n : Nat} {a : Scn} (ha : scanB fb n a = true) {X Y : List (List Int)} (hX : Rows64 n X) (h : leftScan a X = some Y) : Rows64 n Y ∧ Finer X Y := by
  simp only [scanB, Bool.and_eq_true] at ha
  obtain ⟨⟨_, hc⟩, hp⟩ := ha
  obtain ⟨p1, p2, p3, p4, p5⟩ := passB_in hp
  unfold leftScan at h
  refine leftComps_step (k := a.fr.toNat) (m := (a.to - a.fr + 1).toNat) (by omega) ?_ p4 a.cs X Y hX (okComps_in hc) h
  unfold wantOf
  split
  · exact .inl rfl
  · right; omega
theorem leftAll_step {fb : Bool} {n : Nat} : ∀ (s : List Scn) (X Y : List (List Int)), Rows64 n X → leftAll fb n s X = some Y → Rows64 n Y ∧ Finer X Y
  | [], X, Y, hX, h => by
    unfold leftAll at h
    rw [← Option.some.inj h]
    exact ⟨hX, Finer.refl X⟩
  | a :: s, X, Y, hX, h => by
    unfold leftAll at h
    split at h
    · rename_i hb
      cases hs : leftScan a X with
      | none => rw [hs] at h; exact absurd h (by simp)
      | some Z =>
        rw [hs] at h
        obtain ⟨z1, z2⟩ := leftScan_step hb hX hs
        obtain ⟨r1, r2⟩ := leftAll_step s Z Y z1 h
        exact ⟨r1, z2.trans r2⟩
    · exact absurd h (by simp)
/-- What is left of a script that is one: rows of 64. -/
theorem leftO_rows {fb : Bool} {n : Nat} {s : List Scn} {X : List (List Int)} (h : leftO fb n s = some X) : Rows64 n X := by
  unfold leftO at h
  split at h
  · exact (leftAll_step s _ X (nothing_rows n) h).1
  · exact absurd h (by simp)
/-- What is left of a script's beginning: as many rows, and where something was told it is told no less behind it. -/
theorem left_half {fb : Bool} {n : Nat} {s : List Scn} {X : List (List Int)} (h : leftO fb n s = some X) (k : Nat) (hk : k ≤ s.length) : ∃ H, leftO fb n (s.take k) = some H ∧ Rows64 n H ∧ Rows64 n X ∧ Finer H X := by
  have h0 := h
  unfold leftO at h
  split at h
  · rename_i hb
    rw [Bool.and_eq_true, decide_eq_true_eq] at hb
    have e : s = s.take k ++ s.drop k := (List.take_append_drop k s).symm
    rw [e, leftAll_app] at h
    cases hs : leftAll fb n (s.take k) (nothing n) with
    | none => rw [hs] at h; exact absurd h (by simp)
    | some H =>
      rw [hs] at h
      have h2 : leftAll fb n (s.drop k) H = some X := h
      obtain ⟨r1, _⟩ := leftAll_step _ _ H (nothing_rows n) hs
      obtain ⟨r2, r3⟩ := leftAll_step _ _ X r1 h2
      refine ⟨H, ?_, r1, r2, r3⟩
      unfold leftO
      rw [if_pos]
      · exact hs
      · rw [Bool.and_eq_true, decide_eq_true_eq, List.length_take]
        exact ⟨hb.1, by omega⟩
  · exact absurd h (by simp)

/-- The three scripts tell all, and nothing comes behind them. -/
theorem script_tells (n : Nat) (h1 : 1 ≤ n) (h4 : n ≤ 4) (kind : Int) (hk : 0 ≤ kind ∧ kind ≤ 2) : scriptB true n (scriptG true n kind) = true ∧ ∃ a s, scriptG true n kind = a :: s ∧ leftG true n (scriptG true n kind ++ [a]) = [] := by
  have hn : n = 1 ∨ n = 2 ∨ n = 3 ∨ n = 4 := by omega
  have hk3 : kind = 0 ∨ kind = 1 ∨ kind = 2 := by omega
  rcases hn with rfl | rfl | rfl | rfl <;> rcases hk3 with rfl | rfl | rfl <;> exact ⟨by kernel_rfl, _, _, rfl, by kernel_rfl⟩

end Go.Proofs.Ytnjcmlmgjoaeeaa

namespace Go.Proofs.Ytnjcmlmgjoaeeaa
open Go.RowKit

theorem own_rdC {w : World} {base : Nat} {e : TypeId} {ao : Option Addr} {n cap : Nat} {C : Nat → Nat → Int} (h : w.ownsRow base e 4 (.slice ao n cap) n (rowsK n 4 (compCells C))) : RdC w ao n C := by
  intro i hi
  obtain ⟨g, rfl, _, _⟩ := own_at h (by omega)
  refine ⟨g, 0, rfl, fun j hj => ?_⟩
  rw [Nat.zero_add, h.cellAt _ (place_lt hi hj), rowsK_get n 4 _ i j hi hj]
  rfl

theorem Try.info68 : (Try.prog.info? 68).map (fun i => (i.zero, i.size, i.bytes)) = some (some (.agg #[.int .i64 0, .int .i64 0, .int .i64 0, .int .i64 0]), 4, 32) := by kernel_rfl

set_option maxHeartbeats 800000 in
theorem toComp (c0 c1 c2 c3 : Int) (w : World) :
    Calls Try.prog 75 #[.agg #[.int .i64 c0, .int .i64 c1, .int .i64 c2, .int .i64 c3]] w fun e w' => e = .returned (.agg #[.int .i64 c0, .int .i64 c1, .int .i64 c2, .int .i64 c3]) ∧ w.grownBy w' none := by
  go_enter Try.func75, Try.ntmps75
  go_wp2
  refine bodyPost_ret (v := .agg #[.int .i64 c0, .int .i64 c1, .int .i64 c2, .int .i64 c3]) (by simp [results, Try.results75, go_sem]) rfl ⟨rfl, ?_⟩
  exact grown_alloc (grown_alloc (grown_alloc (World.grownBy.refl _ _) _) _) _

/-- The copy's cells behind k rounds. -/
def compPart (C : Nat → Nat → Int) (k : Nat) : Nat → Nat → Value := fun i j => if i < k then .int .i64 (C i j) else .int .i64 0
theorem compPart_set (C : Nat → Nat → Int) (n k : Nat) (c0 c1 c2 c3 : Int) (h0 : C k 0 = c0) (h1 : C k 1 = c1) (h2 : C k 2 = c2) (h3 : C k 3 = c3) :
    ((((rowsK n 4 (compPart C k)).set (k * 4) (.int .i64 c0)).set (k * 4 + 1) (.int .i64 c1)).set (k * 4 + 2) (.int .i64 c2)).set (k * 4 + 3) (.int .i64 c3) = rowsK n 4 (compPart C (k + 1)) := by
  have e0 := rowsK_set n 4 (compPart C k) k 0 (.int .i64 c0) (by omega)
  rw [Nat.add_zero] at e0
  rw [e0, rowsK_set _ _ _ k 1 _ (by omega), rowsK_set _ _ _ k 2 _ (by omega), rowsK_set _ _ _ k 3 _ (by omega)]
  apply rowsK_congr
  intro i j _ hj
  have hj4 : j = 0 ∨ j = 1 ∨ j = 2 ∨ j = 3 := by omega
  by_cases e1 : i = k
  · subst e1
    rcases hj4 with rfl | rfl | rfl | rfl <;> simp [compPart, h0, h1, h2, h3]
  · by_cases e2 : i < k
    · rcases hj4 with rfl | rfl | rfl | rfl <;> simp [compPart, e1, e2, show i < k + 1 by omega]
    · rcases hj4 with rfl | rfl | rfl | rfl <;> simp [compPart, e1, e2, show ¬ i < k + 1 by omega]

set_option maxHeartbeats 1600000 in
theorem toCompS (ao : Option Addr) (n cap : Nat) (C : Nat → Nat → Int) (w : World) (hr : RdC w ao n C) (hn : n ≤ 4194304) :
    Calls Try.prog 56 #[.slice ao n cap] w fun e w' => e = .returned (.slice (some ⟨w.heap.size, 0, none⟩) n n) ∧
      w'.ownsRow w.heap.size 68 4 (.slice (some ⟨w.heap.size, 0, none⟩) n n) n (rowsK n 4 (compCells C)) ∧ w.grownBy w' none := by
  obtain ⟨i0, hi, hz0, hz1, hz2⟩ := info_parts Try.info68
  have HR := hide hr
  clear hr
  go_enter Try.func56, Try.ntmps56
  go_wp2_with (at_make; refine wpList_make_full _ rfl _ _ 24 rfl w.heap.size 68 i0 (.agg #[.int .i64 0, .int .i64 0, .int .i64 0, .int .i64 0]) 4 Try.underlying24 hi hz0 hz1 .i64 .i64 _ _ n rfl rfl rfl rfl (by rw [hz2]; omega) (by unfold maxLen; omega) (Nat.le_refl _) ?_)
  intro w1 hown hgrow
  have hown0 : w1.ownsRow w.heap.size 68 4 (.slice (some ⟨w.heap.size, 0, none⟩) n n) n (rowsK n 4 (compPart C 0)) := by
    have e := madeK #[.int .i64 0, .int .i64 0, .int .i64 0, .int .i64 0] n (by decide)
    have e2 : rowsK n 4 (compPart C 0) = (madeCells #[Value.int .i64 0, .int .i64 0, .int .i64 0, .int .i64 0] (n * 4)).toList := by
      rw [show (n * 4) = n * (#[Value.int .i64 0, .int .i64 0, .int .i64 0, .int .i64 0] : Array Value).size from rfl, e]
      apply rowsK_congr
      intro i j _ hj
      have : j = 0 ∨ j = 1 ∨ j = 2 ∨ j = 3 := by have : j < 4 := hj; omega
      rcases this with rfl | rfl | rfl | rfl <;> simp [compPart]
    rw [e2]; exact hown
  clear hown hi hz0 hz1 hz2
  go_wp2
  go_loopw [4] (fun i wr => ∃ k : Nat, k ≤ n ∧ i = .int .i64 k ∧ wr.ownsRow w.heap.size 68 4 (.slice (some ⟨w.heap.size, 0, none⟩) n n) n (rowsK n 4 (compPart C k)) ∧ w.grownBy wr none) (fun i _ => n - (intOf i).toNat)
  case atStart => exact ⟨0, Nat.zero_le _, rfl, hown0, hgrow⟩
  case round =>
    obtain ⟨k, hk, rfl, hok, hgk⟩ := hrel
    clear hown0 hgrow
    by_cases hlt : k < n
    · obtain ⟨b, off, rfl, hc⟩ := (unhide HR) k hlt
      have hc' := fun j hj => hgk.cell (hc j hj) (by simp)
      have h0 := hc' 0 (by omega)
      have h1 := hc' 1 (by omega)
      have h2 := hc' 2 (by omega)
      have h3 := hc' 3 (by omega)
      rw [Nat.add_zero] at h0
      clear hc hc'
      have HSET := hide (compPart_set C n k (C k 0) (C k 1) (C k 2) (C k 3) rfl rfl rfl rfl)
      generalize C k 0 = c0 at *
      generalize C k 1 = c1 at *
      generalize C k 2 = c2 at *
      generalize C k 3 = c3 at *
      go_wp2_with fail
      refine (toComp c0 c1 c2 c3 wr).mono ?_
      rintro e w2 ⟨rfl, g2⟩
      have hok2 := own_grown hok g2
      have hG2 := grown_trans hgk g2
      have f0 := hok2.frozenAt (k * 4)
      have f1 := hok2.frozenAt (k * 4 + 1)
      have f2 := hok2.frozenAt (k * 4 + 2)
      have f3 := hok2.frozenAt (k * 4 + 3)
      have hold : ∀ j, j < n * 4 → ∃ u, w2.cell? ⟨w.heap.size, j, none⟩ = some u := fun j hj => by rw [hok2.cellAt j hj]; exact ⟨_, List.getElem?_eq_getElem (by rw [hok2.1]; omega)⟩
      obtain ⟨v0, hv0⟩ := hold (k * 4) (by omega)
      obtain ⟨v1, hv1⟩ := hold (k * 4 + 1) (by omega)
      obtain ⟨v2, hv2⟩ := hold (k * 4 + 2) (by omega)
      obtain ⟨v3, hv3⟩ := hold (k * 4 + 3) (by omega)
      have s0 := hok2.stored (k * 4) (.int .i64 c0)
      have s1 := s0.1.stored (k * 4 + 1) (.int .i64 c1)
      have s2 := s1.1.stored (k * 4 + 2) (.int .i64 c2)
      have s3 := s2.1.stored (k * 4 + 3) (.int .i64 c3)
      have hg' := grown_new hG2 (grown_trans (grown_trans (grown_trans s0.2 s1.2) s2.2) s3.2) (by intro g e; simp at e; omega)
      have HS := hide s3.1
      rw [unhide HSET] at HS
      have HG := hide hg'
      clear s0 s1 s2 s3 hok hok2 hgk hG2 hold g2 h0 h1 h2 h3 hg' HSET
      go_wp2
      go_roundw
      case rel => exact ⟨k + 1, by omega, by go_num, unhide HS, unhide HG⟩
      case measure => simp [intOf]; omega
    · have hkn : k = n := by omega
      subst hkn
      go_wp2
      go_ret
      refine ⟨rfl, ?_, hgk⟩
      have e : rowsK k 4 (compCells C) = rowsK k 4 (compPart C k) := rowsK_congr (fun i j hi' _ => by unfold compPart compCells; rw [if_pos hi'])
      rw [e]; exact hok

theorem szCompS (ao : Option Addr) (n cap : Nat) (left r : Int) (w : World) (h0 : 0 ≤ left) (h1 : left ≤ 1048576) (hm : n ≤ 9223372036854775807) (hr : Hid ((if (n : Int) ≤ left then left - n else -1) = r)) :
    Calls Try.prog 52 #[.slice ao n cap, .int .i64 left] w fun e w' => e = .returned (.int .i64 r) ∧ w = w' := by
  by_cases h : (n : Int) ≤ left
  · have e : left - n = r := by have := unhide hr; rwa [if_pos h] at this
    subst e
    clear hr
    have hn : ¬ (left - (n : Int) < 0) := by omega
    go_enter Try.func52, Try.ntmps52
    go_wp2
    go_ret
    exact ⟨rfl, rfl⟩
  · have e : -1 = r := by have := unhide hr; rwa [if_neg h] at this
    subst e
    clear hr
    have hn : left - (n : Int) < 0 := by omega
    go_enter Try.func52, Try.ntmps52
    go_wp2
    go_ret
    exact ⟨rfl, rfl⟩

theorem szFrame (p wd ht rs : Int) (ao : Option Addr) (n cap : Nat) (left r : Int) (w : World) (h0 : 0 ≤ left) (h1 : left ≤ 1048576) (hm : n ≤ 9223372036854775807) (hr : Hid ((if (n : Int) ≤ left then left - n else -1) = r)) :
    Calls Try.prog 18 #[.agg #[.int .i64 p, .int .i64 wd, .int .i64 ht, .int .i64 rs, .slice ao n cap], .int .i64 left] w fun e w' => e = .returned (.int .i64 r) ∧ w.grownBy w' none := by
  by_cases h : (n : Int) ≤ left
  · have e : left - n = r := by have := unhide hr; rwa [if_pos h] at this
    subst e
    have hn : ¬ (left - (n : Int) < 0) := by omega
    go_enter Try.func18, Try.ntmps18
    go_wp2_with fail
    refine (szCompS ao n cap left _ _ h0 h1 hm hr).mono ?_
    rintro e w1 ⟨rfl, rfl⟩
    go_wp2
    go_ret
    exact ⟨rfl, grown_alloc (World.grownBy.refl _ _) _⟩
  · have e : -1 = r := by have := unhide hr; rwa [if_neg h] at this
    subst e
    go_enter Try.func18, Try.ntmps18
    go_wp2_with fail
    refine (szCompS ao n cap left _ _ h0 h1 hm hr).mono ?_
    rintro e w1 ⟨rfl, rfl⟩
    go_wp2
    go_ret
    exact ⟨rfl, grown_alloc (World.grownBy.refl _ _) _⟩

set_option maxHeartbeats 800000 in
theorem eqComp (c0 c1 c2 c3 : Int) (w : World) :
    Calls Try.prog 78 #[.agg #[.int .i64 c0, .int .i64 c1, .int .i64 c2, .int .i64 c3], .agg #[.int .i64 c0, .int .i64 c1, .int .i64 c2, .int .i64 c3]] w fun e w' => e = .returned (.bool true) ∧ w.grownBy w' none := by
  have h0 : (c0 != c0) = false := by simp
  have h1 : (c1 != c1) = false := by simp
  have h2 : (c2 != c2) = false := by simp
  have h3 : (c3 != c3) = false := by simp
  go_enter Try.func78, Try.ntmps78
  go_wp2
  go_ret
  exact ⟨rfl, grown_alloc (grown_alloc (World.grownBy.refl _ _) _) _⟩

set_option maxHeartbeats 1600000 in
theorem eqCompS (ao bo : Option Addr) (n cap cap' : Nat) (C : Nat → Nat → Int) (w : World) (hx : RdC w ao n C) (hy : RdC w bo n C) (hn : n ≤ 4194304) :
    Calls Try.prog 59 #[.slice ao n cap, .slice bo n cap'] w fun e w' => e = .returned (.bool true) ∧ w.grownBy w' none := by
  have HX := hide hx
  have HY := hide hy
  clear hx hy
  have hne : ((n : Int) != n) = false := by simp
  go_enter Try.func59, Try.ntmps59
  go_wp2
  go_loopw [5] (fun i wr => ∃ k : Nat, k ≤ n ∧ i = .int .i64 k ∧ w.grownBy wr none) (fun i _ => n - (intOf i).toNat)
  case atStart => exact ⟨0, Nat.zero_le _, rfl, World.grownBy.refl _ _⟩
  case round =>
    obtain ⟨k, hk, rfl, hgk⟩ := hrel
    by_cases hlt : k < n
    · obtain ⟨b, off, rfl, hc⟩ := (unhide HX) k hlt
      obtain ⟨b', off', rfl, hd⟩ := (unhide HY) k hlt
      have hc' := fun j hj => hgk.cell (hc j hj) (by simp)
      have hd' := fun j hj => hgk.cell (hd j hj) (by simp)
      have a0 := hc' 0 (by omega)
      have a1 := hc' 1 (by omega)
      have a2 := hc' 2 (by omega)
      have a3 := hc' 3 (by omega)
      have b0 := hd' 0 (by omega)
      have b1 := hd' 1 (by omega)
      have b2 := hd' 2 (by omega)
      have b3 := hd' 3 (by omega)
      rw [Nat.add_zero] at a0 b0
      clear hc hc' hd hd'
      generalize C k 0 = c0 at *
      generalize C k 1 = c1 at *
      generalize C k 2 = c2 at *
      generalize C k 3 = c3 at *
      have hik : (k : Int) < (n : Int) := by omega
      go_wp2
      go_region_with (go_at_call 78; refine (eqComp c0 c1 c2 c3 _).mono ?_; rintro e w2 ⟨rfl, g2⟩)
      all_goals
        go_wp2
        go_roundw
        case rel => exact ⟨k + 1, by omega, by go_num, grown_trans (grown_drew hgk) g2⟩
        case measure => simp [intOf]; omega
    · go_wp2
      go_ret
      exact ⟨rfl, hgk⟩

set_option maxHeartbeats 1600000 in
theorem eqFrame (p wd ht rs : Int) (ao bo : Option Addr) (n cap cap' : Nat) (C : Nat → Nat → Int) (w : World) (hx : RdC w ao n C) (hy : RdC w bo n C) (hn : n ≤ 4194304) :
    Calls Try.prog 24 #[.agg #[.int .i64 p, .int .i64 wd, .int .i64 ht, .int .i64 rs, .slice ao n cap], .agg #[.int .i64 p, .int .i64 wd, .int .i64 ht, .int .i64 rs, .slice bo n cap']] w fun e w' => e = .returned (.bool true) ∧ w.grownBy w' none := by
  have HX := hide hx
  have HY := hide hy
  clear hx hy
  have h0 : (p != p) = false := by simp
  have h1 : (wd != wd) = false := by simp
  have h2 : (ht != ht) = false := by simp
  have h3 : (rs != rs) = false := by simp
  have G : Hid (w.grownBy ((w.alloc (.cells #[.int .i64 p, .int .i64 wd, .int .i64 ht, .int .i64 rs, .slice ao n cap] 26)).alloc (.cells #[.int .i64 p, .int .i64 wd, .int .i64 ht, .int .i64 rs, .slice bo n cap'] 26)) none) := grown_alloc (grown_alloc (World.grownBy.refl _ _) _) _
  go_enter Try.func24, Try.ntmps24
  go_wp2_with fail
  refine (eqCompS ao bo n cap cap' C _ ((unhide HX).grown (unhide G)) ((unhide HY).grown (unhide G)) hn).mono ?_
  rintro e w1 ⟨rfl, g1⟩
  go_wp2
  go_ret
  exact ⟨rfl, grown_trans (unhide G) g1⟩

end Go.Proofs.Ytnjcmlmgjoaeeaa

namespace Go.Proofs.Ytnjcmlmgjoaeeaa
open Go.RowKit

theorem frameCells {w : World} {g : Nat} {a b c d v : Value} {t : TypeId} (hb : w.heap[g]? = some (.cells #[a, b, c, d, v] t (0, 0))) :
    w.cell? ⟨g, 0, none⟩ = some a ∧ w.cell? ⟨g, 1, none⟩ = some b ∧ w.cell? ⟨g, 2, none⟩ = some c ∧ w.cell? ⟨g, 3, none⟩ = some d ∧ w.cell? ⟨g, 4, none⟩ = some v :=
  ⟨by rw [cell_of_row w _ 0 _ _ (0, 0) hb]; rfl, by rw [cell_of_row w _ 1 _ _ (0, 0) hb]; rfl, by rw [cell_of_row w _ 2 _ _ (0, 0) hb]; rfl, by rw [cell_of_row w _ 3 _ _ (0, 0) hb]; rfl, by rw [cell_of_row w _ 4 _ _ (0, 0) hb]; rfl⟩

set_option maxHeartbeats 1600000 in
theorem toFrame (p wd ht rs : Int) (ao : Option Addr) (n cap : Nat) (C : Nat → Nat → Int) (w : World) (hr : RdC w ao n C) (hn : n ≤ 4194304) :
    Calls Try.prog 21 #[.agg #[.int .i64 p, .int .i64 wd, .int .i64 ht, .int .i64 rs, .slice ao n cap]] w fun e w' => ∃ g, e = .returned (.agg #[.int .i64 p, .int .i64 wd, .int .i64 ht, .int .i64 rs, .slice (some ⟨g, 0, none⟩) n n]) ∧
      w'.ownsRow w.heap.size 68 4 (.slice (some ⟨g, 0, none⟩) n n) n (rowsK n 4 (compCells C)) ∧ w.grownBy w' none := by
  have HR := hide hr
  clear hr
  obtain ⟨W3, hW3⟩ : ∃ W3, (((w.alloc (.cells #[.int .i64 p, .int .i64 wd, .int .i64 ht, .int .i64 rs, .slice ao n cap] 42)).alloc (.cells #[.int .i64 0, .int .i64 0, .int .i64 0, .int .i64 0, .slice none 0 0] 26)).alloc (.cells #[.int .i64 p, .int .i64 wd, .int .i64 ht, .int .i64 rs, .slice none 0 0] 26)) = W3 := ⟨_, rfl⟩
  have G0 : w.grownBy W3 none := by rw [← hW3]; exact grown_alloc (grown_alloc (grown_alloc (World.grownBy.refl _ _) _) _) _
  have b1 : W3.heap[w.heap.size + 1]? = some (.cells #[.int .i64 0, .int .i64 0, .int .i64 0, .int .i64 0, .slice none 0 0] 26 (0, 0)) := by
    rw [← hW3, Below.heap_alloc _ _ _ (by simp)]
    have := heap_alloc_new (w.alloc (.cells #[.int .i64 p, .int .i64 wd, .int .i64 ht, .int .i64 rs, .slice ao n cap] 42)) (.cells #[.int .i64 0, .int .i64 0, .int .i64 0, .int .i64 0, .slice none 0 0] 26)
    simpa using this
  have b2 : W3.heap[w.heap.size + 1 + 1]? = some (.cells #[.int .i64 p, .int .i64 wd, .int .i64 ht, .int .i64 rs, .slice none 0 0] 26 (0, 0)) := by
    rw [← hW3]
    have := heap_alloc_new ((w.alloc (.cells #[.int .i64 p, .int .i64 wd, .int .i64 ht, .int .i64 rs, .slice ao n cap] 42)).alloc (.cells #[.int .i64 0, .int .i64 0, .int .i64 0, .int .i64 0, .slice none 0 0] 26)) (.cells #[.int .i64 p, .int .i64 wd, .int .i64 ht, .int .i64 rs, .slice none 0 0] 26)
    simpa using this
  have hsz : W3.heap.size = w.heap.size + 3 := by rw [← hW3]; simp
  have HW := hide hW3
  have B1 := hide b1
  have B2 := hide b2
  have HSZ := hide hsz
  have HG0 := hide G0
  clear hW3 b1 b2 hsz G0
  go_enter Try.func21, Try.ntmps21
  go_wp2_with fail
  rw [unhide HW]
  refine (toCompS ao n cap C W3 ((unhide HR).grown (unhide HG0)) hn).mono ?_
  rintro e w1 ⟨rfl, o1, g1⟩
  have G1 := grown_trans (unhide HG0) g1
  have hz := unhide HSZ
  have e1 := (g1.block (w.heap.size + 1) (by omega) (by simp)).trans (unhide B1)
  have e2 := (g1.block (w.heap.size + 1 + 1) (by omega) (by simp)).trans (unhide B2)
  have hge : w.heap.size + 3 ≤ W3.heap.size := by omega
  have O1 := hide (own_base o1 (show w.heap.size ≤ W3.heap.size by omega))
  have HG1 := hide G1
  clear HW hz HSZ B1 B2 HG0 HR G1 o1 g1
  generalize W3.heap.size = gx at *
  have c0 : w1.cell? ⟨w.heap.size + 1 + 1, 0, none⟩ = some (.int .i64 p) := by rw [cell_of_row w1 _ 0 _ _ (0, 0) e2]; rfl
  have c1 : w1.cell? ⟨w.heap.size + 1 + 1, 1, none⟩ = some (.int .i64 wd) := by rw [cell_of_row w1 _ 1 _ _ (0, 0) e2]; rfl
  have c2 : w1.cell? ⟨w.heap.size + 1 + 1, 2, none⟩ = some (.int .i64 ht) := by rw [cell_of_row w1 _ 2 _ _ (0, 0) e2]; rfl
  have c3 : w1.cell? ⟨w.heap.size + 1 + 1, 3, none⟩ = some (.int .i64 rs) := by rw [cell_of_row w1 _ 3 _ _ (0, 0) e2]; rfl
  have c4 : w1.cell? ⟨w.heap.size + 1 + 1, 4, none⟩ = some (.slice none 0 0) := by rw [cell_of_row w1 _ 4 _ _ (0, 0) e2]; rfl
  have f4 : w1.frozen? ⟨w.heap.size + 1 + 1, 4, none⟩ = false := frozen_of_row w1 _ 4 _ _ e2
  have d0 : w1.cell? ⟨w.heap.size + 1, 0, none⟩ = some (.int .i64 0) := by rw [cell_of_row w1 _ 0 _ _ (0, 0) e1]; rfl
  have d1 : w1.cell? ⟨w.heap.size + 1, 1, none⟩ = some (.int .i64 0) := by rw [cell_of_row w1 _ 1 _ _ (0, 0) e1]; rfl
  have d2 : w1.cell? ⟨w.heap.size + 1, 2, none⟩ = some (.int .i64 0) := by rw [cell_of_row w1 _ 2 _ _ (0, 0) e1]; rfl
  have d3 : w1.cell? ⟨w.heap.size + 1, 3, none⟩ = some (.int .i64 0) := by rw [cell_of_row w1 _ 3 _ _ (0, 0) e1]; rfl
  have d4 : w1.cell? ⟨w.heap.size + 1, 4, none⟩ = some (.slice none 0 0) := by rw [cell_of_row w1 _ 4 _ _ (0, 0) e1]; rfl
  have k0 : w1.frozen? ⟨w.heap.size + 1, 0, none⟩ = false := frozen_of_row w1 _ 0 _ _ e1
  have k1 : w1.frozen? ⟨w.heap.size + 1, 1, none⟩ = false := frozen_of_row w1 _ 1 _ _ e1
  have k2 : w1.frozen? ⟨w.heap.size + 1, 2, none⟩ = false := frozen_of_row w1 _ 2 _ _ e1
  have k3 : w1.frozen? ⟨w.heap.size + 1, 3, none⟩ = false := frozen_of_row w1 _ 3 _ _ e1
  have k4 : w1.frozen? ⟨w.heap.size + 1, 4, none⟩ = false := frozen_of_row w1 _ 4 _ _ e1
  clear e1 e2
  go_wp2
  have hk : ∀ (W : World), W.ownsRow w.heap.size 68 4 (.slice (some ⟨gx, 0, none⟩) n n) n (rowsK n 4 (compCells C)) → ∀ (b j : Nat) (u : Value), b < gx → (W.setCell ⟨b, j, none⟩ u).ownsRow w.heap.size 68 4 (.slice (some ⟨gx, 0, none⟩) n n) n (rowsK n 4 (compCells C)) :=
    fun W h b j u hb => own_sameAt h (fun g e => by simp [Value.ownBlock] at e; subst e; exact Below.heap_setCell _ _ _ _ (by show gx ≠ b; omega))
  have hq : ∀ (W : World) (b j : Nat) (u : Value), w.grownBy W none → w.heap.size ≤ b → w.grownBy (W.setCell ⟨b, j, none⟩ u) none := fun W b j u h hb => grown_new h (grown_set W b j u) (fun g e => by simp at e; omega)
  refine bodyPost_ret (v := .agg #[.int .i64 p, .int .i64 wd, .int .i64 ht, .int .i64 rs, .slice (some ⟨gx, 0, none⟩) n n]) (by simp [results, Try.results21, go_sem, d0, d1, d2, d3, d4]) rfl ⟨gx, rfl, ?_, ?_⟩
  · exact hk _ (hk _ (hk _ (hk _ (hk _ (hk _ (unhide O1) _ _ _ (by omega)) _ _ _ (by omega)) _ _ _ (by omega)) _ _ _ (by omega)) _ _ _ (by omega)) _ _ _ (by omega)
  · exact hq _ _ _ _ (hq _ _ _ _ (hq _ _ _ _ (hq _ _ _ _ (hq _ _ _ _ (hq _ _ _ _ (unhide HG1) (by omega)) (by omega)) (by omega)) (by omega)) (by omega)) (by omega)

end Go.Proofs.Ytnjcmlmgjoaeeaa

namespace Go.Proofs.Ytnjcmlmgjoaeeaa
open Go.RowKit

/-- Components that are marked all over, from k0 on. -/
def markedC (k0 : Int) : Nat → Nat → Int := fun i j => k0 + 4 * (i : Int) + (j : Int)
theorem markPart_set (C : Nat → Nat → Int) (k0 : Int) (n k : Nat) (q : Int) (hq : k0 + 4 * (k : Int) = q) :
    ((((rowsK n 4 (compCells (fun i j => if i < k then markedC k0 i j else C i j))).set (k * 4) (.int .i64 q)).set (k * 4 + 1) (.int .i64 (q + 1))).set (k * 4 + 2) (.int .i64 (q + 1 + 1))).set (k * 4 + 3) (.int .i64 (q + 1 + 1 + 1)) = rowsK n 4 (compCells (fun i j => if i < k + 1 then markedC k0 i j else C i j)) := by
  have e0 := rowsK_set n 4 (compCells (fun i j => if i < k then markedC k0 i j else C i j)) k 0 (.int .i64 q) (by omega)
  rw [Nat.add_zero] at e0
  rw [e0, rowsK_set _ _ _ k 1 _ (by omega), rowsK_set _ _ _ k 2 _ (by omega), rowsK_set _ _ _ k 3 _ (by omega)]
  apply rowsK_congr
  intro i j _ hj
  have hj4 : j = 0 ∨ j = 1 ∨ j = 2 ∨ j = 3 := by omega
  by_cases e1 : i = k
  · subst e1
    rcases hj4 with rfl | rfl | rfl | rfl <;> simp [compCells, markedC, hq] <;> omega
  · by_cases e2 : i < k
    · rcases hj4 with rfl | rfl | rfl | rfl <;> simp [compCells, e1, e2, show i < k + 1 by omega]
    · rcases hj4 with rfl | rfl | rfl | rfl <;> simp [compCells, e1, e2, show ¬ i < k + 1 by omega]

set_option maxHeartbeats 1600000 in
theorem markCompS (ao : Option Addr) (n cap base : Nat) (C : Nat → Nat → Int) (k0 : Int) (w : World) (ho : w.ownsRow base 68 4 (.slice ao n cap) n (rowsK n 4 (compCells C))) (hn : n ≤ 4194304) (h0 : 0 ≤ k0) (h1 : k0 ≤ 1073741824) :
    Calls Try.prog 61 #[.slice ao n cap, .int .i64 k0] w fun e w' => e = .returned (.int .i64 (k0 + 4 * n)) ∧
      w'.ownsRow base 68 4 (.slice ao n cap) n (rowsK n 4 (compCells (markedC k0))) ∧ w.grownBy w' (Value.slice ao n cap).ownBlock := by
  have ho' : w.ownsRow base 68 4 (.slice ao n cap) n (rowsK n 4 (compCells (fun i j => if i < 0 then markedC k0 i j else C i j))) := by
    have e : rowsK n 4 (compCells (fun i j => if i < 0 then markedC k0 i j else C i j)) = rowsK n 4 (compCells C) := rowsK_congr (fun i j _ _ => by simp [compCells])
    rw [e]; exact ho
  clear ho
  have HO := hide ho'
  clear ho'
  go_enter Try.func61, Try.ntmps61
  go_wp2
  go_loopw [1, 5] (fun c i wr => ∃ k : Nat, k ≤ n ∧ i = .int .i64 k ∧ c = .int .i64 (k0 + 4 * k) ∧ wr.ownsRow base 68 4 (.slice ao n cap) n (rowsK n 4 (compCells (fun i j => if i < k then markedC k0 i j else C i j))) ∧ w.grownBy wr (Value.slice ao n cap).ownBlock) (fun _ i _ => n - (intOf i).toNat)
  case atStart => exact ⟨0, Nat.zero_le _, rfl, by go_num, unhide HO, World.grownBy.refl _ _⟩
  case round =>
    obtain ⟨k, hk, rfl, rfl, hok, hgk⟩ := hrel
    by_cases hlt : k < n
    · obtain ⟨g, rfl, _, _⟩ := own_at hok (by omega)
      obtain ⟨q, hq⟩ : ∃ q, k0 + 4 * (k : Int) = q := ⟨_, rfl⟩
      have HSET := hide (markPart_set C k0 n k q hq)
      have hqb : 0 ≤ q ∧ q ≤ 2000000000 := by omega
      have HQ := hide hq
      rw [hq]
      clear hq
      have f0 := hok.frozenAt (k * 4)
      have f1 := hok.frozenAt (k * 4 + 1)
      have f2 := hok.frozenAt (k * 4 + 2)
      have f3 := hok.frozenAt (k * 4 + 3)
      have hold : ∀ j, j < n * 4 → ∃ u, wr.cell? ⟨g, j, none⟩ = some u := fun j hj => by rw [hok.cellAt j hj]; exact ⟨_, List.getElem?_eq_getElem (by rw [hok.1]; omega)⟩
      obtain ⟨v0, hv0⟩ := hold (k * 4) (by omega)
      obtain ⟨v1, hv1⟩ := hold (k * 4 + 1) (by omega)
      obtain ⟨v2, hv2⟩ := hold (k * 4 + 2) (by omega)
      obtain ⟨v3, hv3⟩ := hold (k * 4 + 3) (by omega)
      have s0 := hok.stored (k * 4) (.int .i64 q)
      have s1 := s0.1.stored (k * 4 + 1) (.int .i64 (q + 1))
      have s2 := s1.1.stored (k * 4 + 2) (.int .i64 (q + 1 + 1))
      have s3 := s2.1.stored (k * 4 + 3) (.int .i64 (q + 1 + 1 + 1))
      have HG := hide (grown_trans hgk (grown_trans (grown_trans (grown_trans s0.2 s1.2) s2.2) s3.2))
      have HS := hide s3.1
      rw [unhide HSET] at HS
      clear s0 s1 s2 s3 hok hgk hold HSET
      go_wp2
      go_roundw
      case rel => exact ⟨k + 1, by omega, by go_num, by have := unhide HQ; congr 1; omega, unhide HS, unhide HG⟩
      case measure => simp [intOf]; omega
    · have hkn : k = n := by omega
      subst hkn
      go_wp2
      go_ret
      refine ⟨rfl, ?_, hgk⟩
      have e : rowsK k 4 (compCells (markedC k0)) = rowsK k 4 (compCells (fun i j => if i < k then markedC k0 i j else C i j)) := rowsK_congr (fun i j hi' _ => by simp [compCells, hi'])
      rw [e]; exact hok

set_option maxHeartbeats 1600000 in
theorem markFrame (p wd ht rs : Int) (ao : Option Addr) (n cap base : Nat) (C : Nat → Nat → Int) (k0 : Int) (w : World) (ho : w.ownsRow base 68 4 (.slice ao n cap) n (rowsK n 4 (compCells C))) (hn : n ≤ 4194304) (h0 : 0 ≤ k0) (h1 : k0 ≤ 1073741824) :
    Calls Try.prog 30 #[.agg #[.int .i64 p, .int .i64 wd, .int .i64 ht, .int .i64 rs, .slice ao n cap], .int .i64 k0] w fun e w' => e = .returned (.int .i64 (k0 + 4 * n)) ∧
      w'.ownsRow base 68 4 (.slice ao n cap) n (rowsK n 4 (compCells (markedC k0))) ∧ w.grownBy w' (Value.slice ao n cap).ownBlock := by
  have HO := hide (own_grown ho (grown_alloc (World.grownBy.refl w none) (.cells #[.int .i64 p, .int .i64 wd, .int .i64 ht, .int .i64 rs, .slice ao n cap] 26)))
  have G : Hid (w.grownBy (w.alloc (.cells #[.int .i64 p, .int .i64 wd, .int .i64 ht, .int .i64 rs, .slice ao n cap] 26)) (Value.slice ao n cap).ownBlock) := grown_any (grown_alloc (World.grownBy.refl _ _) _)
  clear ho
  go_enter Try.func30, Try.ntmps30
  go_wp2_with fail
  refine (markCompS ao n cap base C k0 _ (unhide HO) hn h0 h1).mono ?_
  rintro e w1 ⟨rfl, o1, g1⟩
  have O1 := hide o1
  have G1 := hide (grown_trans (unhide G) g1)
  clear o1 g1
  go_wp2
  go_ret
  exact ⟨rfl, unhide O1, unhide G1⟩

end Go.Proofs.Ytnjcmlmgjoaeeaa

namespace Go.Proofs.Ytnjcmlmgjoaeeaa
open Go.RowKit

/-- A frame that is owned, in a box. -/
structure Bf (W : World) (b : Nat) (p wd ht rs : Int) (q n base : Nat) (C : Nat → Nat → Int) : Prop where
  box : W.heap[b]? = some (.cells #[.int .i64 p, .int .i64 wd, .int .i64 ht, .int .i64 rs, .slice (some ⟨q, 0, none⟩) n n] 26 (0, 0))
  own : W.ownsRow base 68 4 (.slice (some ⟨q, 0, none⟩) n n) n (rowsK n 4 (compCells C))
section
variable {W W' : World} {b q n base : Nat} {p wd ht rs : Int} {C : Nat → Nat → Int}
theorem Bf.lt (h : Bf W b p wd ht rs q n base C) : b < W.heap.size := (Array.getElem?_eq_some_iff.1 h.box).1
theorem Bf.keep (h : Bf W b p wd ht rs q n base C) (g : W.grownBy W' none) : Bf W' b p wd ht rs q n base C := ⟨(g.block b h.lt (by simp)).trans h.box, own_grown h.own g⟩
theorem Bf.new (h : W.ownsRow base 68 4 (.slice (some ⟨q, 0, none⟩) n n) n (rowsK n 4 (compCells C))) (p wd ht rs : Int) : Bf (W.alloc (.cells #[.int .i64 p, .int .i64 wd, .int .i64 ht, .int .i64 rs, .slice (some ⟨q, 0, none⟩) n n] 26)) W.heap.size p wd ht rs q n base C :=
  ⟨heap_alloc_new W _, own_grown h (World.grownBy_alloc _ _ _)⟩
theorem Bf.rd (h : Bf W b p wd ht rs q n base C) : RdC W (some ⟨q, 0, none⟩) n C := own_rdC h.own
end
theorem Bf.wr {W W' : World} {b q n base : Nat} {p wd ht rs : Int} {C : Nat → Nat → Int} {F : List Nat} (h : Bf W b p wd ht rs q n base C) (g : Wr F W W') (hb : b ∉ F) (hq : q ∉ F) : Bf W' b p wd ht rs q n base C :=
  ⟨(g.block b h.lt hb).trans h.box, own_sameAt h.own (fun x hx => by have e9 : q = x := Option.some.inj hx; subst e9; exact g.block q (h.own.lt q rfl).2 hq)⟩

end Go.Proofs.Ytnjcmlmgjoaeeaa

namespace Go.Proofs.Ytnjcmlmgjoaeeaa
open Go.RowKit

set_option maxRecDepth 20000 in
set_option maxHeartbeats 1600000 in
theorem toScanC : ToC 22 RdSc OwSc szSc := by
  intro w u a hq hs
  obtain ⟨v, rfl, hv⟩ := hq
  obtain ⟨cs, fr, to, hi, lo⟩ := a
  obtain ⟨vo, vc, rfl, hr⟩ := id hv
  clear hr
  dsimp only at hv ⊢
  obtain ⟨vn, HVN⟩ : ∃ vn, Hid (cs.length = vn) := ⟨_, rfl⟩
  rw [unhide HVN] at hv ⊢
  obtain ⟨W3, HW3⟩ : ∃ W3, Hid (((w.alloc (.cells #[.slice vo vn vc, .int .i64 fr, .int .i64 to, .int .i64 hi, .int .i64 lo] 43)).alloc (.cells #[.slice none 0 0, .int .i64 0, .int .i64 0, .int .i64 0, .int .i64 0] 38)).alloc (.cells #[.slice none 0 0, .int .i64 0, .int .i64 0, .int .i64 0, .int .i64 0] 38) = W3) := ⟨_, rfl⟩
  have G0 : w.grownBy W3 none := by rw [← unhide HW3]; exact grown_alloc (grown_alloc (grown_alloc (World.grownBy.refl _ _) _) _) _
  have B0 : W3.heap[w.heap.size]? = some (.cells #[.slice vo vn vc, .int .i64 fr, .int .i64 to, .int .i64 hi, .int .i64 lo] 43 (0, 0)) := by
    rw [← unhide HW3]
    exact at_rowS (World.grownBy_alloc _ _ none) (at_rowS (World.grownBy_alloc _ _ none) (heap_alloc_new w _) (by simp)) (by simp)
  have B1 : W3.heap[w.heap.size + 1]? = some (.cells #[.slice none 0 0, .int .i64 0, .int .i64 0, .int .i64 0, .int .i64 0] 38 (0, 0)) := by
    rw [← unhide HW3]
    refine at_rowS (World.grownBy_alloc _ _ none) ?_ (by simp)
    have := heap_alloc_new (w.alloc (.cells #[.slice vo vn vc, .int .i64 fr, .int .i64 to, .int .i64 hi, .int .i64 lo] 43)) (.cells #[.slice none 0 0, .int .i64 0, .int .i64 0, .int .i64 0, .int .i64 0] 38)
    simpa using this
  have B2 : W3.heap[w.heap.size + 1 + 1]? = some (.cells #[.slice none 0 0, .int .i64 0, .int .i64 0, .int .i64 0, .int .i64 0] 38 (0, 0)) := by
    rw [← unhide HW3]
    have := heap_alloc_new ((w.alloc (.cells #[.slice vo vn vc, .int .i64 fr, .int .i64 to, .int .i64 hi, .int .i64 lo] 43)).alloc (.cells #[.slice none 0 0, .int .i64 0, .int .i64 0, .int .i64 0, .int .i64 0] 38)) (.cells #[.slice none 0 0, .int .i64 0, .int .i64 0, .int .i64 0, .int .i64 0] 38)
    simpa using this
  have HTO := hide (toIntSC W3 (.slice vo vn vc) cs (RdI.st .i64 _ _ _ _ hv G0) hs)
  have HB0 := hide B0
  have HB1 := hide B1
  have HB2 := hide B2
  have HG0 := hide G0
  rw [← unhide HW3] at B0
  obtain ⟨c0, c1, c2, c3, c4⟩ := scanCells B0
  clear hv hs G0 B0 B1 B2
  unfold scV
  dsimp only
  go_enter Try.func22, Try.ntmps22
  go_wp2_with fail
  rw [unhide HW3]
  clear HW3 c0 c1 c2 c3 c4
  refine (unhide HTO).mono ?_
  rintro e w4 ⟨u4, F4, rfl, o4, n4, l4, g4⟩
  obtain ⟨o4', rfl⟩ := o4
  obtain ⟨uo, uc, rfl⟩ := own_form o4'
  rw [unhide HVN] at o4' l4 n4 ⊢
  have B0 := at_rowS g4 (unhide HB0) (by simp)
  have B1 := at_rowS g4 (unhide HB1) (by simp)
  have B2 := at_rowS g4 (unhide HB2) (by simp)
  have HS3 : Hid (w.heap.size + 3 ≤ W3.heap.size) := by have := (Array.getElem?_eq_some_iff.1 (unhide HB2)).1; unfold Hid; omega
  have HB1' := hide B1
  have HB2' := hide B2
  obtain ⟨c0, c1, c2, c3, c4⟩ := scanCells B0
  obtain ⟨d0, d1, d2, d3, d4⟩ := scanCells B1
  obtain ⟨e0, e1, e2, e3, e4⟩ := scanCells B2
  have fd : ∀ j, w4.frozen? ⟨w.heap.size + 1, j, none⟩ = false := fun j => frozen_of_row w4 _ j _ _ B1
  have fe : ∀ j, w4.frozen? ⟨w.heap.size + 1 + 1, j, none⟩ = false := fun j => frozen_of_row w4 _ j _ _ B2
  have q0 := fd 0
  have q1 := fd 1
  have q2 := fd 2
  have q3 := fd 3
  have q4 := fd 4
  have r0 := fe 0
  have r1 := fe 1
  have r2 := fe 2
  have r3 := fe 3
  have r4 := fe 4
  have HO4 := hide o4'
  have HL4 := hide l4
  have HN4 := hide n4
  have HG4 := hide (grown_trans (unhide HG0) g4)
  have HS4 := hide g4.size
  clear B0 B1 B2 o4' l4 n4 g4 fd fe HB0 HB1 HB2 HG0 HTO
  go_wp2
  have G5 := grown_trans (grown_trans (grown_trans (grown_trans (grown_set w4 (w.heap.size + 1 + 1) 0 (.slice uo vn uc)) (grown_set _ (w.heap.size + 1 + 1) 1 (.int .i64 fr))) (grown_set _ (w.heap.size + 1 + 1) 2 (.int .i64 to))) (grown_set _ (w.heap.size + 1 + 1) 3 (.int .i64 hi))) (grown_set _ (w.heap.size + 1 + 1) 4 (.int .i64 lo))
  obtain ⟨X5, hX5⟩ : ∃ X5, ((((w4.setCell ⟨w.heap.size + 1 + 1, 0, none⟩ (.slice uo vn uc)).setCell ⟨w.heap.size + 1 + 1, 1, none⟩ (.int .i64 fr)).setCell ⟨w.heap.size + 1 + 1, 2, none⟩ (.int .i64 to)).setCell ⟨w.heap.size + 1 + 1, 3, none⟩ (.int .i64 hi)).setCell ⟨w.heap.size + 1 + 1, 4, none⟩ (.int .i64 lo) = X5 := ⟨_, rfl⟩
  rw [hX5] at G5 ⊢
  have E1 := at_rowS G5 (unhide HB1') (by simp)
  have D0 := heap_setCell_same X5 (w.heap.size + 1) 0 _ _ (.slice uo vn uc) E1
  have D1 := heap_setCell_same _ (w.heap.size + 1) 1 _ _ (.int .i64 fr) D0
  have D2 := heap_setCell_same _ (w.heap.size + 1) 2 _ _ (.int .i64 to) D1
  have D3 := heap_setCell_same _ (w.heap.size + 1) 3 _ _ (.int .i64 hi) D2
  have D4 := heap_setCell_same _ (w.heap.size + 1) 4 _ _ (.int .i64 lo) D3
  simp only [List.setIfInBounds_toArray, List.set_cons_zero, List.set_cons_succ] at D4
  have G10 := grown_trans (grown_trans (grown_trans (grown_trans (grown_set X5 (w.heap.size + 1) 0 (.slice uo vn uc)) (grown_set _ (w.heap.size + 1) 1 (.int .i64 fr))) (grown_set _ (w.heap.size + 1) 2 (.int .i64 to))) (grown_set _ (w.heap.size + 1) 3 (.int .i64 hi))) (grown_set _ (w.heap.size + 1) 4 (.int .i64 lo))
  obtain ⟨X10, hX10⟩ : ∃ X10, ((((X5.setCell ⟨w.heap.size + 1, 0, none⟩ (.slice uo vn uc)).setCell ⟨w.heap.size + 1, 1, none⟩ (.int .i64 fr)).setCell ⟨w.heap.size + 1, 2, none⟩ (.int .i64 to)).setCell ⟨w.heap.size + 1, 3, none⟩ (.int .i64 hi)).setCell ⟨w.heap.size + 1, 4, none⟩ (.int .i64 lo) = X10 := ⟨_, rfl⟩
  rw [hX10] at D4 G10 ⊢
  obtain ⟨s0, s1, s2, s3, s4⟩ := scanCells D4
  clear hX5 hX10 D0 D1 D2 D3 E1
  have hb := fun g e => ((unhide HO4).lt g e).1
  have hbl : ∀ g, (Value.slice uo vn uc).ownBlock = some g → W3.heap.size ≤ g := fun g e => unhide HL4 g (mem_blk.2 e)
  have o5 := own_beneath (unhide HO4) G5 (fun a b h1 h2 => by have := hbl a h1; have := unhide HS3; simp at h2; omega)
  have o10 := own_beneath o5 G10 (fun a b h1 h2 => by have := hbl a h1; have := unhide HS3; simp at h2; omega)
  refine bodyPost_ret (v := .agg #[.slice uo vn uc, .int .i64 fr, .int .i64 to, .int .i64 hi, .int .i64 lo]) (by simp [results, Try.results22, go_sem, s0, s1, s2, s3, s4]) rfl ?_
  refine ⟨_, _, rfl, ⟨_, rfl, ?_, rfl⟩, blk_nodup _, fun g hg => ?_, grown_new (grown_new (unhide HG4) G5 (fun k e => by simp at e; omega)) G10 (fun k e => by simp at e; omega)⟩
  · rw [unhide HVN]; exact own_base o10 (Nat.zero_le _)
  · have := hbl g (mem_blk.1 hg); have := unhide HS3; omega

theorem info_scan : (Try.prog.info? 38).map (fun i => (i.zero, i.size, i.bytes)) = some (some (.agg #[.slice none 0 0, .int .i64 0, .int .i64 0, .int .i64 0, .int .i64 0]), 5, 56) := by kernel_rfl

def five (v a b c d : Value) (q : Nat) : Value := if q = 0 then v else if q = 1 then a else if q = 2 then b else if q = 3 then c else d
theorem own5 {w : World} {g cap n base : Nat} {e : TypeId} {U : Nat → Nat → Value} (h : w.ownsRow base e 5 (.slice (some ⟨g, 0, none⟩) n cap) n (rowsK n 5 U)) (i : Nat) (v a b c d : Value) :
    (((((w.setCell ⟨g, i * 5, none⟩ v).setCell ⟨g, i * 5 + 1, none⟩ a).setCell ⟨g, i * 5 + 2, none⟩ b).setCell ⟨g, i * 5 + 3, none⟩ c).setCell ⟨g, i * 5 + 4, none⟩ d).ownsRow base e 5 (.slice (some ⟨g, 0, none⟩) n cap) n (rowsK n 5 (fun p q => if p = i then five v a b c d q else U p q)) := by
  have s0 := (h.stored (i * 5 + 0) v).1
  rw [rowsK_set n 5 U i 0 v (by omega)] at s0
  have s1 := (s0.stored (i * 5 + 1) a).1
  rw [rowsK_set n 5 _ i 1 a (by omega)] at s1
  have s2 := (s1.stored (i * 5 + 2) b).1
  rw [rowsK_set n 5 _ i 2 b (by omega)] at s2
  have s3 := (s2.stored (i * 5 + 3) c).1
  rw [rowsK_set n 5 _ i 3 c (by omega)] at s3
  have s4 := (s3.stored (i * 5 + 4) d).1
  rw [rowsK_set n 5 _ i 4 d (by omega)] at s4
  rw [Nat.add_zero] at s4
  have e9 : rowsK n 5 (fun p q => if p = i then five v a b c d q else U p q) = rowsK n 5 (fun p q => if p = i ∧ q = 4 then d else if p = i ∧ q = 3 then c else if p = i ∧ q = 2 then b else if p = i ∧ q = 1 then a else if p = i ∧ q = 0 then v else U p q) := by
    apply rowsK_congr
    intro p q _ hq
    by_cases ep : p = i
    · subst ep
      have : q = 0 ∨ q = 1 ∨ q = 2 ∨ q = 3 ∨ q = 4 := by omega
      rcases this with rfl | rfl | rfl | rfl | rfl <;> simp [five]
    · simp [ep]
  rw [e9]
  exact s4
theorem fillZ {α : Type} (z : α) (a : List α) (i : Nat) (h : i < a.length) : (a.take i ++ List.replicate (a.length - i) z).set i a[i] = a.take (i + 1) ++ List.replicate (a.length - (i + 1)) z := by
  rw [List.set_append_right _ _ (by simp; omega)]
  have e1 : i - (a.take i).length = 0 := by simp; omega
  rw [e1, show a.length - i = (a.length - (i + 1)) + 1 by omega, List.replicate_succ, List.set_cons_zero, List.take_succ_eq_append_getElem h, List.append_assoc]
  rfl

set_option maxRecDepth 20000 in
set_option maxHeartbeats 3200000 in
theorem toScanSC : ToC 27 RdSs OwSs (szR szSc) := by
  intro w u a hq hs
  obtain ⟨ao, cap, rfl, hel⟩ := hq
  obtain ⟨i0, hi, hz0, hz1, hz2⟩ := info_parts info_scan
  have HEL := hide hel
  have hlen := szR_len szSc a
  have HSE := hide (fun i h => (szR_el szSc a i h).2)
  obtain ⟨n, HN⟩ : ∃ n, Hid (a.length = n) := ⟨_, rfl⟩
  have hn : n ≤ 1048576 := by have := unhide HN; omega
  have HS := hide hs
  rw [unhide HN]
  clear hel hs hlen
  go_enter Try.func27, Try.ntmps27
  go_wp2_with (at_make; refine wpList_make_full _ rfl _ _ 27 rfl w.heap.size 38 i0 _ 5 Try.underlying27 hi hz0 hz1 .i64 .i64 _ _ n rfl rfl rfl rfl (by rw [hz2]; omega) (by unfold maxLen; omega) (Nat.le_refl _) ?_)
  intro w1 hown hgrow
  have em : (madeCells (#[Value.slice none 0 0, .int .i64 0, .int .i64 0, .int .i64 0, .int .i64 0] : Array Value) (n * 5)).toList = rowsK n 5 (fun _ b => (#[Value.slice none 0 0, .int .i64 0, .int .i64 0, .int .i64 0, .int .i64 0] : Array Value).getD b default) := madeK #[Value.slice none 0 0, .int .i64 0, .int .i64 0, .int .i64 0, .int .i64 0] n (by decide)
  have hown2 : w1.ownsRow w.heap.size 38 5 (.slice (some ⟨w.heap.size, 0, none⟩) n n) n (rowsK n 5 (fun _ b => (#[Value.slice none 0 0, .int .i64 0, .int .i64 0, .int .i64 0, .int .i64 0] : Array Value).getD b default)) := by rw [← em]; exact hown
  have HO1 : Hid (OwSs w1 (.slice (some ⟨w.heap.size, 0, none⟩) n n) (a.take 0 ++ List.replicate (a.length - 0) Scn.zero) (blk (.slice (some ⟨w.heap.size, 0, none⟩) n n))) := by
    rw [List.take_zero, List.nil_append, Nat.sub_zero, unhide HN]
    exact OwG.made (zc := fun b => (#[Value.slice none 0 0, .int .i64 0, .int .i64 0, .int .i64 0, .int .i64 0] : Array Value).getD b default) (fun w => ⟨⟨rfl, rfl, rfl, rfl⟩, OwI.nil .i64 3 w⟩) hown2
  have HG1 := hide hgrow
  have HF1 : Hid (∀ g ∈ blk (.slice (some ⟨w.heap.size, 0, none⟩) n n), w.heap.size ≤ g) := fun g hg => by have : w.heap.size = g := Option.some.inj (mem_blk.1 hg); omega
  clear hown hown2 hgrow hi hz0 hz1 hz2 em
  go_wp2
  go_loopw [4] (fun iv wr => ∃ (i : Nat) (F : List Nat), i ≤ n ∧ iv = .int .i64 i ∧ Hid (OwSs wr (.slice (some ⟨w.heap.size, 0, none⟩) n n) (a.take i ++ List.replicate (a.length - i) Scn.zero) F) ∧ Hid F.Nodup ∧ Hid (∀ g ∈ F, w.heap.size ≤ g) ∧ Hid (w.grownBy wr none)) (fun iv _ => n - (intOf iv).toNat)
  case atStart => exact ⟨0, _, Nat.zero_le _, rfl, HO1, blk_nodup _, HF1, HG1⟩
  case round =>
    clear HO1 HG1 HF1
    obtain ⟨i, F, hin, rfl, ho, hnd, hF, hg⟩ := hrel
    by_cases hlt : i < n
    · have hia : i < a.length := by rw [unhide HN]; exact hlt
      obtain ⟨b, off, c, rfl, k0, k1, q0⟩ := unhide HEL i hia
      obtain ⟨d0, d1, d2, d3, d4⟩ := rowScan (fun j hj => (unhide hg).cell (k0 j hj) (by simp)) k1
      have HT := hide (toScanC wr (scV (c 0) a[i]) a[i] ⟨_, rfl, RdI.st .i64 _ _ _ _ q0 (unhide hg)⟩ (Nat.le_trans (unhide HSE i hia) (unhide HS)))
      obtain ⟨vo, vc, ev, -⟩ := q0
      rw [ev] at HT d0
      unfold scV at HT
      have hiI : (i : Int) < (n : Int) := by omega
      obtain ⟨A, HAA⟩ : ∃ A, Hid (a[i] = A) := ⟨_, hide rfl⟩
      rw [unhide HAA] at HT d0 d1 d2 d3 d4
      clear k0 k1 ev
      go_wp2_with fail
      refine (unhide HT).mono ?_
      rintro e w2 ⟨u', F', rfl, ⟨v2, rfl, p2⟩, n2, b2, g2⟩
      obtain ⟨p3, rfl⟩ := p2
      obtain ⟨uo, uc, rfl⟩ := own_form p3
      have ho2 := OwSs.ok.keep (unhide ho) g2
      have hll : i < (a.take i ++ List.replicate (a.length - i) Scn.zero).length := by simp; omega
      have ell : (a.take i ++ List.replicate (a.length - i) Scn.zero).length = n := by have := unhide HN; simp; omega
      obtain ⟨g0, cap0, c2, Fi, e0, hg0, hg0n, cc, ff, hpi, hni, hsi, -, hback⟩ := OwG.turn OwScE.ok ho2 (unhide hnd) i hll
      obtain ⟨e1, -, -⟩ := Value.slice.inj e0
      obtain rfl : w.heap.size = g0 := by simpa using e1
      have x0 := cc 0 (by omega)
      have x1 := cc 1 (by omega)
      have x2 := cc 2 (by omega)
      have x3 := cc 3 (by omega)
      have x4 := cc 4 (by omega)
      rw [Nat.add_zero] at x0
      have y0 := ff (i * 5)
      have y1 := ff (i * 5 + 1)
      have y2 := ff (i * 5 + 2)
      have y3 := ff (i * 5 + 3)
      have y4 := ff (i * 5 + 4)
      obtain ⟨vn, HVN⟩ : ∃ vn, Hid (A.cs.length = vn) := ⟨_, rfl⟩
      rw [unhide HVN] at p3 b2 ⊢
      have hsz := (unhide hg).size
      have hgW : w.heap.size < wr.heap.size := OwSs.ok.lt _ _ _ _ (unhide ho) _ hg0
      have hblk : ∀ x, (Value.slice uo vn uc).ownBlock = some x → wr.heap.size ≤ x := fun x hx => b2 x (mem_blk.2 hx)
      have GS := grown_trans (grown_trans (grown_trans (grown_trans (grown_set w2 w.heap.size (i * 5) (.slice uo vn uc)) (grown_set _ w.heap.size (i * 5 + 1) (.int .i64 A.fr))) (grown_set _ w.heap.size (i * 5 + 2) (.int .i64 A.to))) (grown_set _ w.heap.size (i * 5 + 3) (.int .i64 A.hi))) (grown_set _ w.heap.size (i * 5 + 4) (.int .i64 A.lo))
      obtain ⟨F3, o3, n3, m3⟩ := hback _ (five (.slice uo vn uc) (.int .i64 A.fr) (.int .i64 A.to) (.int .i64 A.hi) (.int .i64 A.lo)) A (blk (.slice uo vn uc)) (Wr.ofRow GS (fun x e => by have : w.heap.size = x := Option.some.inj e; simp [this])) (fun U h => by rw [ell] at h ⊢; exact own5 h i _ _ _ _ _) ⟨⟨rfl, rfl, rfl, rfl⟩, by
          show _ ∧ _
          refine ⟨?_, rfl⟩
          rw [unhide HVN]
          exact own_beneath p3 GS (fun p q h1 h2 => by have := hblk p h1; have : w.heap.size = q := Option.some.inj h2; omega)⟩ (blk_nodup _) (fun x hx => .inr (fun hx2 => by
        have h1 := hblk x (mem_blk.1 hx)
        have h2 := OwSs.ok.lt _ _ _ _ (unhide ho) x hx2
        omega))
      rw [← unhide HAA, fillZ Scn.zero a i hia, unhide HAA] at o3
      have HO3 := hide o3
      have HF3 : Hid (∀ g ∈ F3, w.heap.size ≤ g) := fun g hg3 => by
        rcases m3 g hg3 with h | h
        · exact unhide hF g h
        · have := hblk g (mem_blk.1 h); omega
      have HG3 := hide (grown_new (grown_trans (unhide hg) g2) GS (fun k e => by have : w.heap.size = k := Option.some.inj e; omega))
      have HN3 := hide n3
      clear ho2 o3 n3 m3 p3 n2 b2 g2 HT ho hnd hF hg e0 e1 hback hpi hni hsi cc ff hblk GS hg0 hg0n d0 d1 d2 d3 d4
      unfold scV
      go_wp2
      go_roundw
      case rel => exact ⟨i + 1, F3, by omega, by go_num, HO3, HN3, HF3, HG3⟩
      case measure => simp [intOf]; omega
    · obtain rfl : i = n := by omega
      have HO4 : Hid (OwSs wr (.slice (some ⟨w.heap.size, 0, none⟩) i i) a F) := by
        have h := unhide ho
        rw [← unhide HN, List.take_length, Nat.sub_self, List.replicate_zero, List.append_nil, unhide HN] at h
        exact h
      clear ho
      go_wp2
      go_ret
      exact ⟨_, F, rfl, unhide HO4, unhide hnd, unhide hF, unhide hg⟩

end Go.Proofs.Ytnjcmlmgjoaeeaa

namespace Go.Proofs.Ytnjcmlmgjoaeeaa
open Go.RowKit

def cntSc (a : Scn) : Nat := lenI a.cs + 4
def mkSc (a : Scn) (k : Int) : Scn := ⟨mkI a.cs k, k + lenI a.cs, k + lenI a.cs + 1, k + lenI a.cs + 2, k + lenI a.cs + 3⟩

set_option maxRecDepth 20000 in
set_option maxHeartbeats 3200000 in
theorem heldScanSC : HeldC 35 RdSs (mkR mkSc cntSc) (cntR cntSc) (szR szSc) := by
  intro w u a k hq hs hk0 hk1
  obtain ⟨ao, cap, rfl, hel⟩ := hq
  have HEL := hide hel
  have hlen := szR_len szSc a
  have HSE := hide (fun i h => (szR_el szSc a i h).2)
  rw [mkR_len]
  obtain ⟨n, HN⟩ : ∃ n, Hid (a.length = n) := ⟨_, rfl⟩
  have hn : n ≤ 1048576 := by have := unhide HN; omega
  have HS := hide hs
  obtain ⟨tot, HTOT⟩ : ∃ tot, Hid (cntR cntSc a = tot) := ⟨_, rfl⟩
  rw [unhide HTOT] at hk1 ⊢
  rw [unhide HN]
  clear hel hs hlen
  go_enter Try.func35, Try.ntmps35
  go_wp2
  go_loopw [1, 5] (fun kv iv wr => ∃ (i c : Nat), i ≤ n ∧ iv = .int .i64 i ∧ kv = .int .i64 (k + (c : Int)) ∧ Hid (cntR cntSc (a.take i) = c) ∧ Hid (w.grownBy wr none)) (fun _ iv _ => n - (intOf iv).toNat)
  case atStart => exact ⟨0, 0, Nat.zero_le _, rfl, by simp, rfl, World.grownBy.refl _ _⟩
  case round =>
    obtain ⟨i, c, hin, rfl, rfl, hc, hg⟩ := hrel
    by_cases hlt : i < n
    · have hia : i < a.length := by rw [unhide HN]; exact hlt
      have hnx := cntR_next cntSc a i hia
      have hle := cntR_le cntSc a (i + 1)
      rw [unhide hc] at hnx
      rw [hnx, unhide HTOT] at hle
      obtain ⟨b, off, cf, rfl, k0, k1, q0⟩ := unhide HEL i (by rw [mkR_len]; exact hia)
      rw [mkR_at mkSc cntSc a k i hia, unhide hc] at k1 q0
      obtain ⟨d0, d1, d2, d3, d4⟩ := rowScan k0 k1
      have hsz : lenI a[i].cs ≤ 1048576 := Nat.le_trans (unhide HSE i hia) (unhide HS)
      have HT := hide (heldIntSC wr (cf 0) a[i].cs (k + (c : Int)) (RdI.st .i64 _ _ _ _ q0 (unhide hg)) hsz (by omega) (by unfold cntSc at hle; omega))
      obtain ⟨le, HLE⟩ : ∃ le, Hid (lenI a[i].cs = le) := ⟨_, hide rfl⟩
      obtain ⟨vo, vc, ev, -⟩ := q0
      obtain ⟨vn, HVN⟩ : ∃ vn, Hid ((mkSc a[i] (k + (c : Int))).cs.length = vn) := ⟨_, hide rfl⟩
      rw [unhide HVN] at ev
      have f1 : (mkSc a[i] (k + (c : Int))).fr = k + (c : Int) + (le : Int) := by rw [← unhide HLE]; rfl
      have f2 : (mkSc a[i] (k + (c : Int))).to = k + (c : Int) + (le : Int) + 1 := by rw [← unhide HLE]; rfl
      have f3 : (mkSc a[i] (k + (c : Int))).hi = k + (c : Int) + (le : Int) + 2 := by rw [← unhide HLE]; rfl
      have f4 : (mkSc a[i] (k + (c : Int))).lo = k + (c : Int) + (le : Int) + 3 := by rw [← unhide HLE]; rfl
      have f5 : cntSc a[i] = le + 4 := by rw [← unhide HLE]; rfl
      rw [f1] at d1
      rw [f2] at d2
      rw [f3] at d3
      rw [f4] at d4
      rw [f5] at hnx hle
      rw [ev] at d0 HT
      rw [unhide HLE] at HT
      have HNX := hide hnx
      have hiI : (i : Int) < (n : Int) := by omega
      obtain ⟨m, hm⟩ : ∃ m : Int, k + (c : Int) + (le : Int) = m := ⟨_, rfl⟩
      rw [hm] at d1 d2 d3 d4 HT
      have hm0 : 0 ≤ m ∧ m + 4 ≤ 16777216 := by omega
      have HM := hide hm
      have g0 := (unhide hg).cell d0 (by simp)
      have HDD := hide (And.intro d1 (And.intro d2 (And.intro d3 d4)))
      clear k0 k1 hnx f1 f2 f3 f4 f5 ev d0 d1 d2 d3 d4 hm
      go_wp2_with fail
      refine (unhide HT).mono ?_
      rintro e w2 ⟨rfl, g2⟩
      have G2 := grown_trans (unhide hg) g2
      have d1 := G2.cell (unhide HDD).1 (by simp)
      have d2 := G2.cell (unhide HDD).2.1 (by simp)
      have d3 := G2.cell (unhide HDD).2.2.1 (by simp)
      have d4 := G2.cell (unhide HDD).2.2.2 (by simp)
      have HG2 := hide G2
      clear G2 g2 HT hg g0 HDD
      have hneg : decide (m < 0) = false := decide_eq_false (by omega)
      have e1 := i64_in (m + 1) (by omega)
      have e2 := i64_in (m + 2) (by omega)
      have e3 := i64_in (m + 3) (by omega)
      have e4 := i64_in (m + 4) (by omega)
      have s1 : m + 1 + 1 = m + 2 := by omega
      have s2 : m + 2 + 1 = m + 3 := by omega
      have s3 : m + 3 + 1 = m + 4 := by omega
      have n0 : (m != m) = false := by simp
      have n1 : (m + 1 != m + 1) = false := by simp
      have n2 : (m + 2 != m + 2) = false := by simp
      have n3 : (m + 3 != m + 3) = false := by simp
      go_wp2
      go_roundw
      case rel => exact ⟨i + 1, c + (le + 4), by omega, by go_num, by congr 1; have := unhide HM; omega, HNX, HG2⟩
      case measure => simp [intOf]; omega
    · obtain rfl : i = n := by omega
      have hct : c = tot := by rw [← unhide hc, ← unhide HN, cntR_all]; exact unhide HTOT
      subst hct
      go_wp2
      go_ret
      exact ⟨rfl, unhide hg⟩

theorem own4 {w : World} {g cap n base : Nat} {e : TypeId} {U : Nat → Nat → Value} (h : w.ownsRow base e 5 (.slice (some ⟨g, 0, none⟩) n cap) n (rowsK n 5 U)) (i : Nat) (v a b c d : Value) (hv : U i 0 = v) :
    ((((w.setCell ⟨g, i * 5 + 1, none⟩ a).setCell ⟨g, i * 5 + 2, none⟩ b).setCell ⟨g, i * 5 + 3, none⟩ c).setCell ⟨g, i * 5 + 4, none⟩ d).ownsRow base e 5 (.slice (some ⟨g, 0, none⟩) n cap) n (rowsK n 5 (fun p q => if p = i then five v a b c d q else U p q)) := by
  have s1 := (h.stored (i * 5 + 1) a).1
  rw [rowsK_set n 5 _ i 1 a (by omega)] at s1
  have s2 := (s1.stored (i * 5 + 2) b).1
  rw [rowsK_set n 5 _ i 2 b (by omega)] at s2
  have s3 := (s2.stored (i * 5 + 3) c).1
  rw [rowsK_set n 5 _ i 3 c (by omega)] at s3
  have s4 := (s3.stored (i * 5 + 4) d).1
  rw [rowsK_set n 5 _ i 4 d (by omega)] at s4
  have e9 : rowsK n 5 (fun p q => if p = i then five v a b c d q else U p q) = rowsK n 5 (fun p q => if p = i ∧ q = 4 then d else if p = i ∧ q = 3 then c else if p = i ∧ q = 2 then b else if p = i ∧ q = 1 then a else U p q) := by
    apply rowsK_congr
    intro p q _ hq
    by_cases ep : p = i
    · subst ep
      have : q = 0 ∨ q = 1 ∨ q = 2 ∨ q = 3 ∨ q = 4 := by omega
      rcases this with rfl | rfl | rfl | rfl | rfl <;> simp [five, hv]
    · simp [ep]
  rw [e9]
  exact s4

set_option maxRecDepth 20000 in
set_option maxHeartbeats 3200000 in
theorem markScanSC : MarkC 31 OwSs (mkR mkSc cntSc) (cntR cntSc) (szR szSc) := by
  intro w u a F k hp hnd hs hk0 hk1
  obtain ⟨ao, cap, rfl⟩ := hp.form
  have HND := hide hnd
  have hlen := szR_len szSc a
  have HSE := hide (fun i h => (szR_el szSc a i h).2)
  have H0 : Hid (OwSs w (.slice ao a.length cap) (overR mkSc cntSc a k 0) F) := hp
  obtain ⟨n, HN⟩ : ∃ n, Hid (a.length = n) := ⟨_, rfl⟩
  have hn : n ≤ 1048576 := by have := unhide HN; omega
  have HS := hide hs
  obtain ⟨tot, HTOT⟩ : ∃ tot, Hid (cntR cntSc a = tot) := ⟨_, rfl⟩
  rw [unhide HTOT] at hk1 ⊢
  rw [unhide HN] at H0 ⊢
  obtain ⟨A2, HA2⟩ : ∃ A2, Hid (mkR mkSc cntSc a k = A2) := ⟨_, rfl⟩
  rw [unhide HA2]
  clear hp hs hlen hnd
  go_enter Try.func31, Try.ntmps31
  go_wp2
  go_loopw [1, 5] (fun kv iv wr => ∃ (i c : Nat), i ≤ n ∧ iv = .int .i64 i ∧ kv = .int .i64 (k + (c : Int)) ∧ Hid (cntR cntSc (a.take i) = c) ∧ Hid (OwSs wr (.slice ao n cap) (overR mkSc cntSc a k i) F) ∧ Hid (Wr F w wr)) (fun _ iv _ => n - (intOf iv).toNat)
  case atStart => exact ⟨0, 0, Nat.zero_le _, rfl, by simp, rfl, H0, Wr.refl _ _⟩
  case round =>
    clear H0
    obtain ⟨i, c, hin, rfl, rfl, hc, ho, hw⟩ := hrel
    by_cases hlt : i < n
    · have hia : i < a.length := by rw [unhide HN]; exact hlt
      have ell : (overR mkSc cntSc a k i).length = n := by rw [overR_len _ _ _ _ _ (by omega)]; exact unhide HN
      have hol : i < (overR mkSc cntSc a k i).length := by omega
      have hnx := cntR_next cntSc a i hia
      have hle := cntR_le cntSc a (i + 1)
      rw [unhide hc] at hnx
      rw [hnx, unhide HTOT] at hle
      obtain ⟨g, cap0, cf, Fi, e0, hgF, hgn, hcf, p0, nd0, sub0, back⟩ := OwG.at OwScE.ok (unhide ho) (unhide HND) i hol
      rw [overR_at mkSc cntSc a k i hia] at p0
      obtain ⟨rfl, rfl⟩ : ao = some ⟨g, 0, none⟩ ∧ cap = cap0 := by simp at e0; exact ⟨e0.1, e0.2.2⟩
      obtain ⟨k1, p1⟩ := p0
      have hsz : lenI a[i].cs ≤ 1048576 := Nat.le_trans (unhide HSE i hia) (unhide HS)
      have HT := hide (markIntSC wr (cf 0) a[i].cs Fi (k + (c : Int)) p1 nd0 hsz (by omega) (by unfold cntSc at hle; omega))
      obtain ⟨vo, vc, ev⟩ := own_form p1.1
      obtain ⟨le, HLE⟩ : ∃ le, Hid (lenI a[i].cs = le) := ⟨_, hide rfl⟩
      obtain ⟨vn, HVN⟩ : ∃ vn, Hid (a[i].cs.length = vn) := ⟨_, hide rfl⟩
      have f5 : cntSc a[i] = le + 4 := by rw [← unhide HLE]; rfl
      rw [f5] at hnx hle
      rw [unhide HVN] at ev
      have x0 := (hcf wr (Wr.refl _ _)).1 0 (by omega)
      rw [Nat.add_zero, ev] at x0
      rw [ev, unhide HLE] at HT
      have HNX := hide hnx
      have hiI : (i : Int) < (n : Int) := by omega
      obtain ⟨m, hm⟩ : ∃ m : Int, k + (c : Int) + (le : Int) = m := ⟨_, rfl⟩
      rw [hm] at HT
      have hm0 : 0 ≤ m ∧ m + 4 ≤ 16777216 := by omega
      have HM := hide hm
      have HBK := hide back
      have HSB := hide sub0
      have HCF := hide hcf
      have HEV := hide ev
      clear p1 nd0 back sub0 e0 hnx k1 f5 hm hcf ev
      go_wp2_with fail
      refine (unhide HT).mono ?_
      rintro e w2 ⟨rfl, p2, g2⟩
      obtain ⟨hcc, hff⟩ := unhide HCF w2 g2
      have x1 := hcc 1 (by omega)
      have x2 := hcc 2 (by omega)
      have x3 := hcc 3 (by omega)
      have x4 := hcc 4 (by omega)
      have y1 := hff (i * 5 + 1)
      have y2 := hff (i * 5 + 2)
      have y3 := hff (i * 5 + 3)
      have y4 := hff (i * 5 + 4)
      have GS := grown_trans (grown_trans (grown_trans (grown_set w2 g (i * 5 + 1) (.int .i64 m)) (grown_set _ g (i * 5 + 2) (.int .i64 (m + 1)))) (grown_set _ g (i * 5 + 3) (.int .i64 (m + 2)))) (grown_set _ g (i * 5 + 4) (.int .i64 (m + 3)))
      have hWG : Wr [g] w2 ((((w2.setCell ⟨g, i * 5 + 1, none⟩ (.int .i64 m)).setCell ⟨g, i * 5 + 2, none⟩ (.int .i64 (m + 1))).setCell ⟨g, i * 5 + 3, none⟩ (.int .i64 (m + 2))).setCell ⟨g, i * 5 + 4, none⟩ (.int .i64 (m + 3))) := Wr.ofRow GS (fun x e => by have : g = x := Option.some.inj e; simp [this])
      have h2 := unhide HBK w2 _ (five (.slice vo vn vc) (.int .i64 m) (.int .i64 (m + 1)) (.int .i64 (m + 2)) (.int .i64 (m + 3))) (mkSc a[i] (k + (c : Int))) g2 hWG (fun U h hU => by
        rw [ell] at h ⊢
        exact own4 h i _ _ _ _ _ (by rw [hU 0 (by omega)]; exact unhide HEV)) ⟨by
          have e1 : (mkSc a[i] (k + (c : Int))).fr = m := by rw [← unhide HM, ← unhide HLE]; rfl
          have e2 : (mkSc a[i] (k + (c : Int))).to = m + 1 := by rw [← unhide HM, ← unhide HLE]; rfl
          have e3 : (mkSc a[i] (k + (c : Int))).hi = m + 2 := by rw [← unhide HM, ← unhide HLE]; rfl
          have e4 : (mkSc a[i] (k + (c : Int))).lo = m + 3 := by rw [← unhide HM, ← unhide HLE]; rfl
          unfold scC
          rw [e1, e2, e3, e4]
          exact ⟨rfl, rfl, rfl, rfl⟩, ok1.wr p2 hWG (fun x hx e => by simp at e; subst e; exact hgn hx)⟩
      rw [← unhide hc, overR_set mkSc cntSc a k i hia] at h2
      have HO2 := hide h2
      have HW2 := hide (((unhide hw).trans (g2.mono (unhide HSB))).trans (hWG.mono (fun x hx => by simp at hx; subst hx; exact hgF)))
      have e1 := i64_in (m + 1) (by omega)
      have e2 := i64_in (m + 2) (by omega)
      have e3 := i64_in (m + 3) (by omega)
      have e4 := i64_in (m + 4) (by omega)
      have s1 : m + 1 + 1 = m + 2 := by omega
      have s2 : m + 2 + 1 = m + 3 := by omega
      have s3 : m + 3 + 1 = m + 4 := by omega
      clear p2 g2 h2 HT HBK HSB ho hw hcc hff GS hWG HCF hgF hgn x0
      go_wp2
      go_roundw
      case rel => exact ⟨i + 1, c + (le + 4), by omega, by go_num, by congr 1; have := unhide HM; omega, HNX, HO2, HW2⟩
      case measure => simp [intOf]; omega
    · obtain rfl : i = n := by omega
      have HO4 : Hid (OwSs wr (.slice ao i cap) A2 F) := by
        have h := unhide ho
        have e9 : overR mkSc cntSc a k i = A2 := by rw [← unhide HN, overR_all]; exact unhide HA2
        rw [e9] at h
        exact h
      have hct : c = tot := by rw [← unhide hc, ← unhide HN, cntR_all]; exact unhide HTOT
      subst hct
      clear ho hc
      go_wp2
      go_ret
      exact ⟨rfl, unhide HO4, unhide hw⟩

end Go.Proofs.Ytnjcmlmgjoaeeaa

namespace Go.Proofs.Ytnjcmlmgjoaeeaa
open Go.RowKit

def RdScZ (w : World) (u : Value) (a : Scn) : Prop := ∃ v, u = scV v a ∧ RdZ (RdI .i64) w v a.cs
def RdScEZ (w : World) (c : Nat → Value) (a : Scn) : Prop := scC c a ∧ RdZ (RdI .i64) w (c 0) a.cs
abbrev RdSsZ := RdZ (RdG 5 RdScEZ)
theorem RdSsZ.rd {w : World} {v : Value} {L : List Scn} (h : RdSsZ w v L) : RdSs w v L := by
  obtain ⟨⟨ao, cap, e, hel⟩, _⟩ := h
  exact ⟨ao, cap, e, fun i hi => by obtain ⟨b, off, c, e1, h1, h2, h3, _⟩ := hel i hi; exact ⟨b, off, c, e1, h1, h2, h3⟩⟩

set_option maxHeartbeats 800000 in
theorem szScanC (w : World) (u : Value) (a : Scn) (left : Nat) (hq : RdScZ w u a) (hl : left ≤ 1048576) (r : Int) (HR : Hid ((if szSc a ≤ left then (left : Int) - szSc a else -1) = r)) :
    Calls Try.prog 19 #[u, .int .i64 left] w fun e w' => e = .returned (.int .i64 r) ∧ w.grownBy w' none := by
  obtain ⟨v, rfl, hv⟩ := hq
  obtain ⟨cs, fr, to, hi, lo⟩ := a
  obtain ⟨⟨vo, vc, rfl, hr⟩, hm⟩ := id hv
  clear hr hm
  dsimp only at hv ⊢
  obtain ⟨vn, HVN⟩ : ∃ vn, Hid (cs.length = vn) := ⟨_, rfl⟩
  rw [unhide HVN] at hv ⊢
  have G0 : w.grownBy (w.alloc (.cells #[.slice vo vn vc, .int .i64 fr, .int .i64 to, .int .i64 hi, .int .i64 lo] 43)) none := World.grownBy_alloc _ _ _
  obtain ⟨c0, -, -, -, -⟩ := scanCells (heap_alloc_new w (.cells #[.slice vo vn vc, .int .i64 fr, .int .i64 to, .int .i64 hi, .int .i64 lo] 43))
  have HT := hide (szIntSC _ (.slice vo vn vc) cs left ⟨RdI.st .i64 _ _ _ _ hv.1 G0, hv.2⟩ hl)
  have e1 : (if lenI cs ≤ left then (left : Int) - lenI cs else -1) = r := unhide HR
  rw [e1] at HT
  have hrr : r = -1 ∨ (0 ≤ r ∧ r ≤ 1048576) := by
    rw [← e1]
    split
    · right; omega
    · left; rfl
  have HG0 := hide G0
  clear hv G0 e1 HR
  unfold scV
  dsimp only
  go_enter Try.func19, Try.ntmps19
  go_wp2_with fail
  refine (unhide HT).mono ?_
  rintro e w1 ⟨rfl, rfl⟩
  rcases hrr with rfl | h
  · go_wp2
    go_ret
    exact ⟨rfl, unhide HG0⟩
  · have hd : decide (r < 0) = false := decide_eq_false (by omega)
    go_wp2
    go_ret
    exact ⟨rfl, unhide HG0⟩

set_option maxRecDepth 20000 in
set_option maxHeartbeats 1600000 in
theorem szScanSC (w : World) (u : Value) (a : List Scn) (left : Nat) (hq : RdSsZ w u a) (hl : left ≤ 1048576) (res : Int) (HRES : Hid ((if szR szSc a ≤ left then (left : Int) - szR szSc a else -1) = res)) :
    Calls Try.prog 26 #[u, .int .i64 left] w fun e w' => e = .returned (.int .i64 res) ∧ w.grownBy w' none := by
  obtain ⟨⟨ao, cap, rfl, hel⟩, hmx⟩ := hq
  unfold maxLen at hmx
  have HEL := hide hel
  obtain ⟨n, HN⟩ : ∃ n, Hid (a.length = n) := ⟨_, rfl⟩
  have HSZ : Hid (szR szSc a = n + cntR szSc a) := by unfold Hid szR; rw [unhide HN]; rfl
  rw [unhide HN] at hmx ⊢
  have e1 := i64_in ((left : Int) - (n : Int)) (by omega)
  clear hel
  by_cases hnl : n ≤ left
  · have hd : decide ((left : Int) - (n : Int) < 0) = false := decide_eq_false (by omega)
    go_enter Try.func26, Try.ntmps26
    go_wp2
    go_loopw [1, 5] (fun kv iv wr => ∃ (i c : Nat), i ≤ n ∧ iv = .int .i64 i ∧ kv = .int .i64 ((left : Int) - (n : Int) - (c : Int)) ∧ n + c ≤ left ∧ Hid (cntR szSc (a.take i) = c) ∧ Hid (w.grownBy wr none)) (fun _ iv _ => n - (intOf iv).toNat)
    case atStart => exact ⟨0, 0, Nat.zero_le _, rfl, by simp, by omega, rfl, World.grownBy.refl _ _⟩
    case round =>
      obtain ⟨i, c, hin, rfl, rfl, hcl, hc, hg⟩ := hrel
      by_cases hlt : i < n
      · have hia : i < a.length := by rw [unhide HN]; exact hlt
        have hnx := cntR_next szSc a i hia
        have hle := cntR_le szSc a (i + 1)
        rw [unhide hc] at hnx
        obtain ⟨b, off, cf, rfl, k0, k1, q0⟩ := unhide HEL i hia
        obtain ⟨d0, d1, d2, d3, d4⟩ := rowScan (fun j hj => (unhide hg).cell (k0 j hj) (by simp)) k1
        obtain ⟨lf, hlf⟩ : ∃ lf : Nat, left - n - c = lf := ⟨_, rfl⟩
        have e2 : (left : Int) - (n : Int) - (c : Int) = (lf : Int) := by omega
        obtain ⟨ce, HCE⟩ : ∃ ce, Hid (szSc a[i] = ce) := ⟨_, hide rfl⟩
        obtain ⟨rr, HRR⟩ : ∃ rr : Int, Hid ((if szSc a[i] ≤ lf then (lf : Int) - szSc a[i] else -1) = rr) := ⟨_, hide rfl⟩
        have HT := hide (szScanC wr (scV (cf 0) a[i]) a[i] lf ⟨_, rfl, RdI.st .i64 _ _ _ _ q0.1 (unhide hg), q0.2⟩ (by omega) rr HRR)
        obtain ⟨⟨vo, vc, ev, -⟩, -⟩ := q0
        rw [ev] at HT d0
        unfold scV at HT
        have hrr := unhide HRR
        rw [unhide HCE] at hnx hrr
        have hiI : (i : Int) < (n : Int) := by omega
        obtain ⟨A, HAA⟩ : ∃ A, Hid (a[i] = A) := ⟨_, hide rfl⟩
        rw [unhide HAA] at HT d0 d1 d2 d3 d4
        obtain ⟨vn, HVN⟩ : ∃ vn, Hid (A.cs.length = vn) := ⟨_, rfl⟩
        rw [unhide HVN] at HT d0
        rw [e2]
        clear k0 k1 ev HCE HRR
        by_cases hce : ce ≤ lf
        · rw [if_pos hce] at hrr
          have hneg : decide (rr < 0) = false := decide_eq_false (by omega)
          have HNX := hide hnx
          have HRQ : Hid (rr = (left : Int) - (n : Int) - ((c + ce : Nat) : Int)) := by unfold Hid; omega
          clear hnx hle hrr
          go_wp2_with fail
          refine (unhide HT).mono ?_
          rintro e w2 ⟨rfl, g2⟩
          have HG2 := hide (grown_trans (unhide hg) g2)
          clear HT g2 hg d0 d1 d2 d3 d4
          go_wp2
          go_roundw
          case rel => exact ⟨i + 1, c + ce, by omega, by go_num, by rw [unhide HRQ], by omega, HNX, HG2⟩
          case measure => simp [intOf]; omega
        · rw [if_neg hce] at hrr
          have hres : res = -1 := by
            rw [← unhide HRES, if_neg]
            rw [unhide HSZ]
            omega
          subst hres
          subst hrr
          clear hnx hle
          go_wp2_with fail
          refine (unhide HT).mono ?_
          rintro e w2 ⟨rfl, g2⟩
          have HG2 := hide (grown_trans (unhide hg) g2)
          clear HT g2 hg d0 d1 d2 d3 d4
          go_wp2
          go_ret
          exact ⟨rfl, unhide HG2⟩
      · obtain rfl : i = n := by omega
        have hct : cntR szSc a = c := by rw [← unhide hc, ← unhide HN, cntR_all]
        have hres : res = (left : Int) - (i : Int) - (c : Int) := by
          rw [← unhide HRES, unhide HSZ, hct, if_pos (by omega)]
          omega
        subst hres
        clear hc hct
        go_wp2
        go_ret
        exact ⟨rfl, unhide hg⟩
  · have hd : decide ((left : Int) - (n : Int) < 0) = true := decide_eq_true (by omega)
    have hres : res = -1 := by
      rw [← unhide HRES, if_neg]
      rw [unhide HSZ]
      omega
    subst hres
    go_enter Try.func26, Try.ntmps26
    go_wp2
    go_ret
    exact ⟨rfl, World.grownBy.refl _ _⟩

end Go.Proofs.Ytnjcmlmgjoaeeaa

namespace Go.Proofs.Ytnjcmlmgjoaeeaa
open Go.RowKit

theorem infoIntSS : (Try.prog.info? 36).map (fun i => (i.zero, i.size, i.bytes)) = some (some (.slice none 0 0), 1, 24) := by kernel_rfl

theorem fillIntSS (a : List (List Int)) (i : Nat) (h : i < a.length) : (a.take i ++ List.replicate (a.length - i) []).set i a[i] = a.take (i + 1) ++ List.replicate (a.length - (i + 1)) [] := by
  have hl : (a.take i).length = i := by rw [List.length_take]; omega
  rw [List.set_append_right _ _ (by omega), hl, Nat.sub_self, show a.length - i = (a.length - (i + 1)) + 1 by omega, List.replicate_succ, List.set_cons_zero, List.take_succ_eq_append_getElem h, List.append_assoc]
  rfl

set_option maxRecDepth 20000 in
set_option maxHeartbeats 1600000 in
theorem eqIntSSD (HE : EqC 60 (RdI .i64) (lenI)) (hQ : StR (RdI .i64)) : EqC 28 (RdR (RdI .i64)) (szR (lenI)) := by
  intro w u u' a hq hq' hs
  obtain ⟨ao, cap, rfl, hel⟩ := hq
  obtain ⟨bo, cap', rfl, hel'⟩ := hq'
  have HEL := hide hel
  have HEM := hide hel'
  have HEE := hide HE
  have hlen := szR_len (lenI) a
  have HSE := hide (fun i h => (szR_el (lenI) a i h).2)
  obtain ⟨n, HN⟩ : ∃ n, Hid (a.length = n) := ⟨_, rfl⟩
  have hn : n ≤ 1048576 := by have := unhide HN; omega
  have HS := hide hs
  rw [unhide HN]
  have hne : ((n : Int) != n) = false := by simp
  clear hel hel' HE hs hlen
  go_enter Try.func28, Try.ntmps28
  go_wp2
  go_loopw [5] (fun iv wr => ∃ i : Nat, i ≤ n ∧ iv = .int .i64 i ∧ Hid (w.grownBy wr none)) (fun iv _ => n - (intOf iv).toNat)
  case atStart => exact ⟨0, Nat.zero_le _, rfl, World.grownBy.refl _ _⟩
  case round =>
    obtain ⟨i, hin, rfl, hg⟩ := hrel
    by_cases hlt : i < n
    · have hia : i < a.length := by rw [unhide HN]; exact hlt
      obtain ⟨b, off, u, rfl, c0, q0⟩ := unhide HEL i hia
      obtain ⟨b', off', u', rfl, c0', q0'⟩ := unhide HEM i hia
      have d0 := (unhide hg).cell c0 (by simp)
      have d1 := (unhide hg).cell c0' (by simp)
      have HD := hide (And.intro d0 d1)
      have HT : Hid (∀ W, wr.grownBy W none → Calls Try.prog 60 #[u, u'] W fun e w' => e = .returned (.bool true) ∧ W.grownBy w' none) := fun W gW => unhide HEE W u u' a[i] (hQ _ _ _ _ q0 (grown_trans (unhide hg) gW)) (hQ _ _ _ _ q0' (grown_trans (unhide hg) gW)) (Nat.le_trans (unhide HSE i hia) (unhide HS))
      have hiI : (i : Int) < (n : Int) := by omega
      clear c0 q0 c0' q0'
      go_wp2
      refine wp_region_noPanic ?_
      refine wp_region_tailL 20 (fun w' => w'.cell? ⟨b, off + i, none⟩ = some u ∧ w'.cell? ⟨b', off' + i, none⟩ = some u') [true, true, true, true, true, true, true, true, false, false] (by kernel_rfl) (fun _ _ _ _ _ h => h) rfl (by decide) (by kernel_rfl) (unhide HD) ?_
      iterate 8
        refine heldF_take (v := ?_) (Or.inl ⟨by rfl, ?_⟩) ?_
        rotate_left 1
        · intro w' hSw
          try dsimp only at hSw
          obtain ⟨z0, z1⟩ := hSw
          go_simp
          try with_reducible rfl
        simp only [Act.put, List.setIfInBounds_toArray, List.set_cons_zero, List.set_cons_succ]
      iterate 2 refine heldF_skip ?_
      refine heldF_nil ?_
      iterate 8 refine tailL_skip ?_
      refine tailL_step (fun K hK => ?_)
      go_simp
      refine (unhide HT _ (grown_drew (World.grownBy.refl _ _))).mono ?_
      rintro e w2 ⟨rfl, g2⟩
      have g3 := grown_trans (grown_drew (World.grownBy.refl wr none)) g2
      have HD2 := hide (And.intro (g3.cell d0 (by simp)) (g3.cell d1 (by simp)))
      have HG3 := hide (grown_trans (unhide hg) g3)
      clear g2 g3 hg HT d0 d1 HD
      go_simp
      refine hK.out _ _ (.inr (unhide HD2)) ?_
      clear hK K
      refine tailL_step (fun K hK => ?_)
      go_simp
      refine hK.out _ _ (.inl rfl) ?_
      clear hK K HD2
      refine tailL_nil (NoPanic.normal ?_)
      go_wp2
      go_roundw
      case rel => exact ⟨i + 1, by omega, by go_num, HG3⟩
      case measure => simp [intOf]; omega
    · obtain rfl : i = n := by omega
      go_wp2
      go_ret
      exact ⟨rfl, unhide hg⟩

set_option maxRecDepth 20000 in
set_option maxHeartbeats 1600000 in
theorem markIntSSD (HE : MarkC 62 (OwI .i64 3) (mkI) (lenI) (lenI)) (hP : OwOk (OwI .i64 3)) : MarkC 32 (OwR 36 (OwI .i64 3)) (mkR (mkI) (lenI)) (cntR (lenI)) (szR (lenI)) := by
  intro w u a F k hp hnd hs hk0 hk1
  obtain ⟨ao, cap, rfl⟩ := hp.form
  have HEE := hide HE
  have HND := hide hnd
  have hlen := szR_len (lenI) a
  have HSE := hide (fun i h => (szR_el (lenI) a i h).2)
  have H0 : Hid (OwR 36 (OwI .i64 3) w (.slice ao a.length cap) (overR (mkI) (lenI) a k 0) F) := hp
  obtain ⟨n, HN⟩ : ∃ n, Hid (a.length = n) := ⟨_, rfl⟩
  have hn : n ≤ 1048576 := by have := unhide HN; omega
  have HS := hide hs
  obtain ⟨tot, HTOT⟩ : ∃ tot, Hid (cntR (lenI) a = tot) := ⟨_, rfl⟩
  rw [unhide HTOT] at hk1 ⊢
  rw [unhide HN] at H0 ⊢
  obtain ⟨A2, HA2⟩ : ∃ A2, Hid (mkR (mkI) (lenI) a k = A2) := ⟨_, rfl⟩
  rw [unhide HA2]
  clear hp HE hs hlen hnd
  go_enter Try.func32, Try.ntmps32
  go_wp2
  go_loopw [1, 5] (fun kv iv wr => ∃ (i c : Nat), i ≤ n ∧ iv = .int .i64 i ∧ kv = .int .i64 (k + (c : Int)) ∧ Hid (cntR (lenI) (a.take i) = c) ∧ Hid (OwR 36 (OwI .i64 3) wr (.slice ao n cap) (overR (mkI) (lenI) a k i) F) ∧ Hid (Wr F w wr)) (fun _ iv _ => n - (intOf iv).toNat)
  case atStart => exact ⟨0, 0, Nat.zero_le _, rfl, by simp, rfl, H0, Wr.refl _ _⟩
  case round =>
    clear H0
    obtain ⟨i, c, hin, rfl, rfl, hc, ho, hw⟩ := hrel
    by_cases hlt : i < n
    · have hia : i < a.length := by rw [unhide HN]; exact hlt
      have hol : i < (overR (mkI) (lenI) a k i).length := by rw [overR_len _ _ _ _ _ (by omega)]; exact hia
      have hnx := cntR_next (lenI) a i hia
      have hle := cntR_le (lenI) a (i + 1)
      rw [unhide hc] at hnx
      rw [hnx, unhide HTOT] at hle
      obtain ⟨g, cap0, u, Fi, e0, hgF, c0, p0, nd0, _, sub0, back⟩ := (unhide ho).at hP (unhide HND) i hol
      rw [overR_at (mkI) (lenI) a k i hia] at p0
      obtain ⟨rfl, rfl⟩ : ao = some ⟨g, 0, none⟩ ∧ cap = cap0 := by simp at e0; exact ⟨e0.1, e0.2.2⟩
      have HT := hide (unhide HEE wr u a[i] Fi (k + (c : Int)) p0 nd0 (Nat.le_trans (unhide HSE i hia) (unhide HS)) (by omega) (by omega))
      obtain ⟨ce, HCE⟩ : ∃ ce, Hid ((lenI) a[i] = ce) := ⟨_, hide rfl⟩
      rw [unhide HCE] at HT hnx hle
      have HBK := hide back
      have HSB := hide sub0
      have HNX := hide hnx
      have hiI : (i : Int) < (n : Int) := by omega
      clear p0 nd0 back sub0 e0 hgF hnx
      go_wp2_with fail
      refine (unhide HT).mono ?_
      rintro e w2 ⟨rfl, p2, g2⟩
      have h2 := unhide HBK w2 _ g2 p2
      rw [← unhide hc, overR_set (mkI) (lenI) a k i hia] at h2
      have HO2 := hide h2
      have HW2 := hide ((unhide hw).trans (g2.mono (unhide HSB)))
      clear p2 g2 h2 HT HBK HSB ho hw c0
      have e5 : k + (c : Int) + (ce : Int) = k + ((c + ce : Nat) : Int) := by omega
      rw [e5]
      go_wp2
      go_roundw
      case rel => exact ⟨i + 1, c + ce, by omega, by go_num, rfl, HNX, HO2, HW2⟩
      case measure => simp [intOf]; omega
    · obtain rfl : i = n := by omega
      have HO4 : Hid (OwR 36 (OwI .i64 3) wr (.slice ao i cap) A2 F) := by
        have h := unhide ho
        have e9 : overR (mkI) (lenI) a k i = A2 := by rw [← unhide HN, overR_all]; exact unhide HA2
        rw [e9] at h
        exact h
      have hct : c = tot := by rw [← unhide hc, ← unhide HN, cntR_all]; exact unhide HTOT
      subst hct
      clear ho hc
      go_wp2
      go_ret
      exact ⟨rfl, unhide HO4, unhide hw⟩

set_option maxRecDepth 20000 in
set_option maxHeartbeats 1600000 in
theorem heldIntSSD (HE : HeldC 63 (RdI .i64) (mkI) (lenI) (lenI)) (hQ : StR (RdI .i64)) : HeldC 33 (RdR (RdI .i64)) (mkR (mkI) (lenI)) (cntR (lenI)) (szR (lenI)) := by
  intro w u a k hq hs hk0 hk1
  obtain ⟨ao, cap, rfl, hel⟩ := hq
  have HEL := hide hel
  have HEE := hide HE
  have hlen := szR_len (lenI) a
  have HSE := hide (fun i h => (szR_el (lenI) a i h).2)
  rw [mkR_len]
  obtain ⟨n, HN⟩ : ∃ n, Hid (a.length = n) := ⟨_, rfl⟩
  have hn : n ≤ 1048576 := by have := unhide HN; omega
  have HS := hide hs
  obtain ⟨tot, HTOT⟩ : ∃ tot, Hid (cntR (lenI) a = tot) := ⟨_, rfl⟩
  rw [unhide HTOT] at hk1 ⊢
  rw [unhide HN]
  clear hel HE hs hlen
  go_enter Try.func33, Try.ntmps33
  go_wp2
  go_loopw [1, 5] (fun kv iv wr => ∃ (i c : Nat), i ≤ n ∧ iv = .int .i64 i ∧ kv = .int .i64 (k + (c : Int)) ∧ Hid (cntR (lenI) (a.take i) = c) ∧ Hid (w.grownBy wr none)) (fun _ iv _ => n - (intOf iv).toNat)
  case atStart => exact ⟨0, 0, Nat.zero_le _, rfl, by simp, rfl, World.grownBy.refl _ _⟩
  case round =>
    obtain ⟨i, c, hin, rfl, rfl, hc, hg⟩ := hrel
    by_cases hlt : i < n
    · have hia : i < a.length := by rw [unhide HN]; exact hlt
      have hnx := cntR_next (lenI) a i hia
      have hle := cntR_le (lenI) a (i + 1)
      rw [unhide hc] at hnx
      rw [hnx, unhide HTOT] at hle
      obtain ⟨b, off, u, rfl, c0, q0⟩ := unhide HEL i (by rw [mkR_len]; exact hia)
      rw [mkR_at (mkI) (lenI) a k i hia, unhide hc] at q0
      have c1 := (unhide hg).cell c0 (by simp)
      have HT := hide (unhide HEE wr u a[i] (k + (c : Int)) (hQ _ _ _ _ q0 (unhide hg)) (Nat.le_trans (unhide HSE i hia) (unhide HS)) (by omega) (by omega))
      obtain ⟨ce, HCE⟩ : ∃ ce, Hid ((lenI) a[i] = ce) := ⟨_, hide rfl⟩
      rw [unhide HCE] at HT hnx hle
      have HNX := hide hnx
      have hiI : (i : Int) < (n : Int) := by omega
      clear c0 q0 hnx
      go_wp2_with fail
      refine (unhide HT).mono ?_
      rintro e w2 ⟨rfl, g2⟩
      have HG2 := hide (grown_trans (unhide hg) g2)
      clear g2 HT hg c1
      have e5 : k + (c : Int) + (ce : Int) = k + ((c + ce : Nat) : Int) := by omega
      rw [e5]
      have hneg : decide (k + ((c + ce : Nat) : Int) < 0) = false := decide_eq_false (by omega)
      obtain ⟨kk, HKK⟩ : ∃ kk : Int, Hid (k + ((c + ce : Nat) : Int) = kk) := ⟨_, hide rfl⟩
      rw [unhide HKK] at hneg ⊢
      go_wp2
      go_roundw
      case rel => exact ⟨i + 1, c + ce, by omega, by go_num, by rw [unhide HKK], HNX, HG2⟩
      case measure => simp [intOf]; omega
    · obtain rfl : i = n := by omega
      have hct : c = tot := by rw [← unhide hc, ← unhide HN, cntR_all]; exact unhide HTOT
      subst hct
      clear hc
      go_wp2
      go_ret
      exact ⟨rfl, unhide hg⟩

end Go.Proofs.Ytnjcmlmgjoaeeaa

namespace Go.Proofs.Ytnjcmlmgjoaeeaa
open Go.RowKit

abbrev Rd2 := RdR (RdI .i64)

abbrev Ow2 := OwR 36 (OwI .i64 3)

theorem st2 : StR Rd2 := RdR.st (RdI.st .i64)

theorem ok2 : OwOk Ow2 := OwR.ok ok1

theorem Ow2.rd {w : World} {v : Value} {L : List (List Int)} {F : List Nat} (h : Ow2 w v L F) : Rd2 w v L := OwR.rd (fun _ _ _ _ h => OwI.rd h) h

theorem eqIntSSC : EqC 28 Rd2 (szR lenI) := eqIntSSD eqIntSC (RdI.st .i64)

theorem markIntSSC : MarkC 32 Ow2 (mkR mkI lenI) (cntR lenI) (szR lenI) := markIntSSD markIntSC ok1

theorem heldIntSSC : HeldC 33 Rd2 (mkR mkI lenI) (cntR lenI) (szR lenI) := heldIntSSD heldIntSC (RdI.st .i64)

end Go.Proofs.Ytnjcmlmgjoaeeaa

namespace Go.Proofs.Ytnjcmlmgjoaeeaa
open Go.RowKit

theorem sumN_in {α : Type} (f : α → Nat) : ∀ (L : List α) (a : α), a ∈ L → f a ≤ sumN (L.map f)
  | [], a, h => by simp at h
  | b :: L, a, h => by
    simp only [List.map_cons, sumN]
    rcases List.mem_cons.1 h with rfl | h
    · omega
    · have := sumN_in f L a h
      omega
/-- Each scan of a script that is not too great. -/
theorem sz_scan {S : List Scn} {b : Nat} (h : szR szSc S ≤ b) : ∀ a ∈ S, a.cs.length ≤ b := fun a ha => by
  have h1 := sumN_in szSc S a ha
  unfold szR at h
  have h2 : szSc a = a.cs.length := rfl
  omega
theorem sumN_top {α : Type} (f : α → Nat) (b : Nat) : ∀ L : List α, (∀ a ∈ L, f a ≤ b) → sumN (L.map f) ≤ L.length * b
  | [], _ => by simp [sumN]
  | a :: r, h => by
    have h1 := h a (by simp)
    have h2 := sumN_top f b r (fun x hx => h x (by simp [hx]))
    simp only [List.map_cons, sumN, List.length_cons, Nat.add_mul, Nat.one_mul]
    omega
theorem sz_left {fb : Bool} {n : Nat} {S : List Scn} {C : Nat → Nat → Int} {p wd ht rs : Int} (HFB : frameB p wd ht rs n C = fb) : szR lenI (leftG fb n S) ≤ 1000 := by
  have h : (leftG fb n S).length ≤ 4 ∧ ∀ r ∈ leftG fb n S, lenI r ≤ 64 := by
    unfold leftG
    cases h : leftO fb n S with
    | none => exact ⟨by simp, fun r hr => by simp at hr⟩
    | some X =>
      have h64 := leftO_rows h
      have hfb : fb = true := by
        unfold leftO at h
        cases fb with
        | true => rfl
        | false => simp at h
      subst hfb
      refine ⟨by show X.length ≤ 4; rw [h64.1]; exact (geo_of HFB).n4, fun r hr => ?_⟩
      obtain ⟨c, hc, rfl⟩ := List.mem_iff_getElem.1 (show r ∈ X from hr)
      have e : X.getD c [] = X[c] := by simp [hc]
      have := h64.2 c (by rw [← h64.1]; exact hc)
      rw [e] at this
      show X[c].length ≤ 64
      omega
  have h1 := sumN_top lenI 64 (leftG fb n S) h.2
  have h2 := h.1
  unfold szR
  omega
theorem cnt_szR {α : Type} (f g : α → Nat) (h : ∀ a, f a ≤ g a) : ∀ L : List α, sumN (L.map f) ≤ sumN (L.map g)
  | [] => Nat.le_refl _
  | a :: r => by simp only [List.map_cons, sumN]; have := h a; have := cnt_szR f g h r; omega
theorem sz_script {fb : Bool} {n : Nat} {kind : Int} {C : Nat → Nat → Int} {p wd ht rs : Int} (HFB : frameB p wd ht rs n C = fb) : szR szSc (scriptG fb n kind) ≤ 1000 := by
  cases fb with
  | false => exact Nat.zero_le _
  | true =>
    have h4 := (geo_of HFB).n4
    have hn : n = 0 ∨ n = 1 ∨ n = 2 ∨ n = 3 ∨ n = 4 := by omega
    by_cases h0 : kind = 0
    · subst h0; rcases hn with rfl | rfl | rfl | rfl | rfl <;> decide
    · by_cases h1 : kind = 1
      · subst h1; rcases hn with rfl | rfl | rfl | rfl | rfl <;> decide
      · by_cases h2 : kind = 2
        · subst h2; rcases hn with rfl | rfl | rfl | rfl | rfl <;> decide
        · have e : scriptG true n kind = [] := by unfold scriptG; rw [if_pos rfl, if_neg h0, if_neg h1, if_neg h2]
          rw [e]
          exact Nat.zero_le _

theorem cnt_scans (S : List Scn) : cntR cntSc S ≤ 4 * szR szSc S := by
  have h : ∀ L : List Scn, sumN (L.map cntSc) ≤ 4 * (sumN (L.map szSc) + L.length) := fun L => by
    induction L with
    | nil => simp [sumN]
    | cons a r ih =>
      simp only [List.map_cons, sumN, List.length_cons]
      have e : cntSc a = szSc a + 4 := rfl
      omega
  have := h S
  unfold cntR szR
  omega
theorem RdSsZ.st {w w' : World} {v : Value} {L : List Scn} (h : RdSsZ w v L) (g : w.grownBy w' none) : RdSsZ w' v L :=
  ⟨RdG.st (fun _ _ _ _ h g => ⟨h.1, RdI.st .i64 _ _ _ _ h.2.1 g, h.2.2⟩) _ _ _ _ h.1 g, h.2⟩

def ImplScanOk : Prop := ∀ (p wd ht rs : Int) (fo : Option Addr) (n fc : Nat) (C : Nat → Nat → Int) (vo : Option Addr) (vn vc : Nat) (a : Scn) (w : World), RdC w fo n C → n ≤ 4194304 → Rd .i64 w vo vn a.cs → vn ≤ 1048576 → ∀ (fb t : Bool), Hid (frameB p wd ht rs n C = fb) → Hid (scanB fb n a = t) →
    Calls Try.prog 23 #[.agg #[.int .i64 p, .int .i64 wd, .int .i64 ht, .int .i64 rs, .slice fo n fc], .agg #[.slice vo vn vc, .int .i64 a.fr, .int .i64 a.to, .int .i64 a.hi, .int .i64 a.lo]] w fun e w' => e = .returned (.bool t) ∧ w.grownBy w' none

def ImplLeft : Prop := ∀ (p wd ht rs : Int) (fo : Option Addr) (n fc : Nat) (C : Nat → Nat → Int) (v : Value) (S : List Scn) (w : World), RdC w fo n C → n ≤ 4194304 → RdSs w v S → szR szSc S ≤ 1048576 → ∀ (fb : Bool), Hid (frameB p wd ht rs n C = fb) → ∀ (L : List (List Int)), Hid (leftG fb n S = L) →
    Calls Try.prog 15 #[.agg #[.int .i64 p, .int .i64 wd, .int .i64 ht, .int .i64 rs, .slice fo n fc], v] w fun e w' => ∃ u F, e = .returned u ∧ Ow2 w' u L F ∧ F.Nodup ∧ (∀ g ∈ F, w.heap.size ≤ g) ∧ w.grownBy w' none

def ImplScriptOk : Prop := ∀ (p wd ht rs : Int) (fo : Option Addr) (n fc : Nat) (C : Nat → Nat → Int) (v : Value) (S : List Scn) (w : World), RdC w fo n C → n ≤ 4194304 → RdSs w v S → szR szSc S ≤ 1048576 → ∀ (fb t : Bool), Hid (frameB p wd ht rs n C = fb) → Hid (scriptB fb n S = t) →
    Calls Try.prog 14 #[.agg #[.int .i64 p, .int .i64 wd, .int .i64 ht, .int .i64 rs, .slice fo n fc], v] w fun e w' => e = .returned (.bool t) ∧ w.grownBy w' none

def ImplScript : Prop := ∀ (p wd ht rs : Int) (fo : Option Addr) (n fc : Nat) (C : Nat → Nat → Int) (kind : Int) (w : World), RdC w fo n C → n ≤ 4194304 → ∀ (fb : Bool), Hid (frameB p wd ht rs n C = fb) → ∀ (L : List Scn), Hid (scriptG fb n kind = L) →
    Calls Try.prog 10 #[.agg #[.int .i64 p, .int .i64 wd, .int .i64 ht, .int .i64 rs, .slice fo n fc], .int .i64 kind] w fun e w' => ∃ u F, e = .returned u ∧ OwSs w' u L F ∧ F.Nodup ∧ (∀ g ∈ F, w.heap.size ≤ g) ∧ w.grownBy w' none

/-- A frame that came in, in its box. -/
structure In1 (w W : World) (bs : Array Value) : Prop where
  fb : W.heap[w.heap.size]? = some (.cells bs 42 (0, 0))
  grown : w.grownBy W none
theorem In1.new {w W W' : World} {bs : Array Value} (h : In1 w W bs) (g : W.grownBy W' none) : In1 w W' bs := ⟨grown_atT g h.fb (by simp), grown_trans h.grown g⟩
theorem In1.size {w W : World} {bs : Array Value} (h : In1 w W bs) : w.heap.size + 1 ≤ W.heap.size := (Array.getElem?_eq_some_iff.1 h.fb).1
theorem In1.wr {w W W' : World} {bs : Array Value} {F : List Nat} (h : In1 w W bs) (g : Wr F W W') (hF : ∀ x ∈ F, w.heap.size + 1 ≤ x) : In1 w W' bs :=
  ⟨(g.block _ h.size (fun e => by have := hF _ e; omega)).trans h.fb, Wr.new h.grown g (fun x hx => by have := hF x hx; omega)⟩
theorem In1.start (w : World) (bs : Array Value) : In1 w (w.alloc (.cells bs 42)) bs := ⟨heap_alloc_new w _, World.grownBy_alloc _ _ _⟩

end Go.Proofs.Ytnjcmlmgjoaeeaa

namespace Go.Proofs.Ytnjcmlmgjoaeeaa
open Go.RowKit

theorem rowsK_append (n m k : Nat) (hk : 0 < k) (U V : Nat → Nat → Value) : rowsK n k U ++ rowsK m k V = rowsK (n + m) k (fun i j => if i < n then U i j else V (i - n) j) := by
  apply List.ext_getElem?
  intro c
  by_cases h1 : c < n * k
  · rw [List.getElem?_append_left (by rw [rowsK_len]; exact h1)]
    have hi' : c / k < n := Nat.div_lt_of_lt_mul (by rw [Nat.mul_comm]; exact h1)
    have hm : c % k < k := Nat.mod_lt _ hk
    have hd : c = (c / k) * k + c % k := by have := Nat.div_add_mod c k; rw [Nat.mul_comm] at this; omega
    rw [hd, rowsK_get n k U _ _ hi' hm, rowsK_get (n + m) k _ _ _ (by omega) hm, if_pos hi']
  · obtain ⟨d, rfl⟩ : ∃ d, c = n * k + d := ⟨c - n * k, by omega⟩
    rw [List.getElem?_append_right (by rw [rowsK_len]; omega), rowsK_len, Nat.add_sub_cancel_left]
    have hd : d = (d / k) * k + d % k := by have := Nat.div_add_mod d k; rw [Nat.mul_comm] at this; omega
    have hm : d % k < k := Nat.mod_lt _ hk
    have hc : n * k + d = (n + d / k) * k + d % k := by rw [Nat.add_mul]; omega
    by_cases h2 : d < m * k
    · have hi' : d / k < m := Nat.div_lt_of_lt_mul (by rw [Nat.mul_comm]; exact h2)
      rw [hc, rowsK_get (n + m) k _ _ _ (Nat.add_lt_add_left hi' n) hm, if_neg (Nat.not_lt.2 (Nat.le_add_right _ _)), Nat.add_sub_cancel_left]
      have e9 := rowsK_get m k V (d / k) (d % k) hi' hm
      rw [← hd] at e9
      exact e9
    · rw [List.getElem?_eq_none (by rw [rowsK_len]; omega), List.getElem?_eq_none (by rw [rowsK_len, Nat.add_mul]; omega)]

theorem append_rowsG {α : Type} {P : World → (Nat → Value) → α → List Nat → Prop} (hP : OkG P) {e T : TypeId} {sz bytes : Nat} {z : Value} (hT : Try.prog.underlying T = some (.slice e)) (hI : (Try.prog.info? e).map (fun i => (i.zero, i.size, i.bytes)) = some (some z, sz, bytes)) (hzs : z.cells.size = sz) (hsz : 0 < sz) (hbt : bytes ≤ 1000)
    {w : World} {ops : Array Oper} {rest : List Oper} {o : Oper} {a : Act} {Q : Exit → Act → World → Prop} (hgd : o.guard = none) (s x : Operand)
    (ho : o.op = .call { callee := .builtin .append, args := #[s, x], argTypes := #[T, T] })
    (v : Value) (L : List α) (F : List Nat) (hs : a.eval s = v) (hown : OwG e sz P w v L F) (hF : F.Nodup)
    (cs : Array Value) (m : Nat) (V : Nat → Nat → Value) (hcs : cs.toList = rowsK m sz V) (M : List α) (hM : M.length = m) (Gs : List (List Nat)) (hGs : Gs.length = m) (hu : ∀ i (h : i < M.length), P w (V i) M[i] (Gs.getD i [])) (hG : Gs.flatten.Nodup) (hd : ∀ x ∈ Gs.flatten, x ∉ F) (h1c : ∀ u ∈ cs.toList, u.oneCell' = true)
    (H : Nat) (hH : w.heap.size = H) (hx : a.eval x = .slice (some ⟨H, 0, none⟩) m m) (hb : L.length + m ≤ 1000000) (R : List α) (hR : L ++ M = R)
    (h : ∀ v' w' F', OwG e sz P w' v' R F' → F'.Nodup → (∀ x ∈ F', x ∈ F ∨ x ∈ Gs.flatten ∨ w.heap.size ≤ x) → Wr (blk v) w w' → wpList Try.prog ops Q rest (a.put o.dst v') w') :
    wpList Try.prog ops Q (o :: rest) a (w.alloc (.cells cs e)) := by
  subst hR
  subst hH
  obtain ⟨i0, hi, hz0, hz1, hz2⟩ := info_parts hI
  obtain ⟨U, Fs, l2, o1, els, rfl⟩ := hown
  have hn := List.nodup_append.1 hF
  have hbb : (L.length + m) * bytes ≤ 1000000 * 1000 := Nat.mul_le_mul hb hbt
  refine wpList_append_own_at _ hgd s x T ho 0 e i0 _ sz bytes hT hi hz0 hz1 hz2 hzs hsz v L.length _ hs (o1.alloc _) ⟨w.heap.size, 0, none⟩ m m cs.toList hx (by rw [hcs, rowsK_len]) (World.news_of_block (cs := cs) (t := e) (fr := (0, 0)) (heap_alloc_new w _)) h1c (by unfold maxLen; omega) (by omega) (Nat.zero_le _) ?_
  intro v' w' h1 h2 _ h4
  have hga : w.grownBy w' v.ownBlock := ⟨h2.os, h2.tape, h2.output, by have h := h2.size; simp at h; omega, fun k hk hr => (h2.block k (by simp; omega) hr).trans (Below.heap_alloc _ _ _ hk)⟩
  have hw : Wr (blk v) w w' := Wr.ofRow hga (fun g e => mem_blk.2 e)
  have hvb : ∀ y, y ∈ blk v' → y ∈ blk v ∨ w.heap.size ≤ y := fun y hy => by
    rcases h4 with h4 | h4
    · exact .inl (mem_blk.2 (by rw [← h4]; exact mem_blk.1 hy))
    · have e1 := mem_blk.1 hy
      rw [h4] at e1
      have e2 : (w.alloc (.cells cs e)).heap.size = y := Option.some.inj e1
      exact .inr (by simp at e2; omega)
  have hfl : (Fs ++ Gs).flatten = Fs.flatten ++ Gs.flatten := by simp
  have hlt : ∀ y ∈ Fs.flatten, y < w.heap.size := fun y hy => by
    obtain ⟨l, hl, hyl⟩ := List.mem_flatten.1 hy
    obtain ⟨i, hi, rfl⟩ := List.mem_iff_getElem.1 hl
    exact hP.lt w _ _ _ (els i (by omega)) y (by simpa [hi] using hyl)
  have hltG : ∀ y ∈ Gs.flatten, y < w.heap.size := fun y hy => by
    obtain ⟨l, hl, hyl⟩ := List.mem_flatten.1 hy
    obtain ⟨i, hi, rfl⟩ := List.mem_iff_getElem.1 hl
    exact hP.lt w _ _ _ (hu i (by omega)) y (by simpa [hi] using hyl)
  refine h v' w' (blk v' ++ (Fs ++ Gs).flatten) ⟨fun i j => if i < L.length then U i j else V (i - L.length) j, Fs ++ Gs, by simp [l2, hGs, hM], ?_, fun i hi => ?_, rfl⟩ ?_ ?_ hw
  · rw [List.length_append, hM, ← rowsK_append L.length m sz hsz, ← hcs]; exact h1
  · by_cases hil : i < L.length
    · have e1 : (fun j => if i < L.length then U i j else V (i - L.length) j) = U i := by funext j; rw [if_pos hil]
      have e2 : (Fs ++ Gs).getD i [] = Fs.getD i [] := by simp [List.getElem?_append_left (show i < Fs.length by omega)]
      dsimp only
      rw [e1, e2, List.getElem_append_left hil]
      exact hP.wr (els i hil) hw (fun y hy hy2 => hn.2.2 y hy2 y (flat_in (by omega) y hy) rfl)
    · have him : i - L.length < M.length := by rw [List.length_append] at hi; omega
      have e1 : (fun j => if i < L.length then U i j else V (i - L.length) j) = V (i - L.length) := by funext j; rw [if_neg hil]
      have e2 : (Fs ++ Gs).getD i [] = Gs.getD (i - L.length) [] := by simp [List.getElem?_append_right (show Fs.length ≤ i by omega), l2]
      dsimp only
      rw [e1, e2, List.getElem_append_right (by omega)]
      exact hP.wr (hu (i - L.length) him) hw (fun y hy hy2 => hd y (flat_in (by omega) y hy) (by simp [hy2]))
  · rw [hfl]
    refine List.nodup_append.2 ⟨blk_nodup v', List.nodup_append.2 ⟨hn.2.1, hG, fun y hy z hz => ?_⟩, fun y hy z hz => ?_⟩
    · rintro rfl
      exact hd y hz (by simp [hy])
    · rintro rfl
      rcases List.mem_append.1 hz with hz | hz
      · rcases hvb y hy with h5 | h5
        · exact hn.2.2 y h5 y hz rfl
        · have := hlt y hz; omega
      · rcases hvb y hy with h5 | h5
        · exact hd y hz (by simp [h5])
        · have := hltG y hz; omega
  · intro y hy
    rw [hfl] at hy
    rcases List.mem_append.1 hy with hy | hy
    · rcases hvb y hy with h5 | h5
      · exact .inl (by simp [h5])
      · exact .inr (.inr h5)
    · rcases List.mem_append.1 hy with hy | hy
      · exact .inl (by simp [hy])
      · exact .inr (.inl hy)

end Go.Proofs.Ytnjcmlmgjoaeeaa

namespace Go.Proofs.Ytnjcmlmgjoaeeaa
open Go.RowKit

theorem info_iS : (Try.prog.info? 3).map (fun i => (i.zero, i.size, i.bytes)) = some (some (.int .i64 0), 1, 8) := by kernel_rfl
theorem append_intS {w : World} {ops : Array Oper} {rest : List Oper} {o : Oper} {a : Act} {Q : Exit → Act → World → Prop} (hgd : o.guard = none) (s x : Operand)
    (ho : o.op = .call { callee := .builtin .append, args := #[s, x], argTypes := #[36, 36] })
    (base : Nat) (v : Value) (L : List Int) (hs : a.eval s = v) (hown : w.ownsRow base 3 1 v L.length (L.map (Value.int .i64))) (t : Int) (hx : a.eval x = .slice (some ⟨w.heap.size, 0, none⟩) 1 1) (hb : L.length ≤ 2000000) (hbase : base ≤ w.heap.size) (R : List Int) (hR : L ++ [t] = R)
    (hK : ∀ v' w', w'.ownsRow base 3 1 v' R.length (R.map (Value.int .i64)) → w.grownBy w' v.ownBlock → (v'.ownBlock = v.ownBlock ∨ ∀ g, v'.ownBlock = some g → w.heap.size ≤ g) → wpList Try.prog ops Q rest (a.put o.dst v') w') :
    wpList Try.prog ops Q (o :: rest) a (w.alloc (.cells #[.int .i64 t] 3)) := by
  subst hR
  obtain ⟨i0, hi, hz0, hz1, hz2⟩ := info_parts info_iS
  refine wpList_append_own_at _ hgd s x 36 ho base 3 i0 _ 1 8 Try.underlying36 hi hz0 hz1 hz2 rfl (by decide) v L.length _ hs (hown.alloc _) ⟨w.heap.size, 0, none⟩ 1 1 [.int .i64 t] hx rfl (World.news_of_block (cs := #[.int .i64 t]) (t := 3) (fr := (0, 0)) (heap_alloc_new w _)) (by intro u hu; simp at hu; subst hu; rfl) (by unfold maxLen; omega) (by omega) (by simp; omega) ?_
  intro v' w' h1 h2 _ h4
  refine hK v' w' ?_ ⟨h2.os, h2.tape, h2.output, by have h := h2.size; simp at h; omega, fun k hk hr => (h2.block k (by simp; omega) hr).trans (Below.heap_alloc _ _ _ hk)⟩ ?_
  · rw [List.map_append, List.length_append]; exact h1
  · rcases h4 with h4 | h4
    · exact .inl h4
    · refine .inr fun g e => ?_
      rw [h4] at e
      have e2 : (w.alloc (.cells #[.int .i64 t] 3)).heap.size = g := Option.some.inj e
      simp at e2; omega

end Go.Proofs.Ytnjcmlmgjoaeeaa
