/-
  What reading segments gives, as lists; one more segment behind those that are owned; parts of what is read.
-/
import Derived.Test.YticecjodbhhcfaaDoorSegOkSpec
import Derived.Test.YticecjodbhhcfaaDoorUnstuff
import Derived.Test.YticecjodbhhcfaaDoorSegLaws
namespace Go.Proofs.YticecjodbhhcfaaDoor
open Go.RowKit

/-- What comes next at a place: a fault, the end, or a segment and the place behind it. -/
inductive Nx where
  | fault (code : Int) (at_ : Nat)
  | fin (at_ : Nat)
  | seg (mark : Int) (data : List Int) (next : Nat)
/-- The number that two bytes tell. -/
def cnt2 (zs : List Int) (at_ : Nat) : Nat := (256 * zs.getD (at_ + 2) 0 + zs.getD (at_ + 3) 0).toNat
def isRun (zs : List Int) (at_ : Nat) : Prop := zs.getD at_ 0 ≠ 255 ∨ (at_ + 1 < zs.length ∧ zs.getD (at_ + 1) 0 = 0)
instance (zs : List Int) (at_ : Nat) : Decidable (isRun zs at_) := by unfold isRun; exact inferInstance
/-- What comes next, run data. -/
def nextRun (zs : List Int) (at_ : Nat) (was : Int) (many : Bool) : Nx :=
  if fitsK was 3 = false then .fault 4 at_
  else if many = true then .fault 6 at_
  else if 20000 < (unst (zs.drop at_)).1.length then .fault 5 at_
  else .seg 0 (unst (zs.drop at_)).1 (at_ + (unst (zs.drop at_)).2)
/-- What comes next, a part whose mark was told. -/
def nextPart (zs : List Int) (at_ : Nat) : Nx :=
  if zs.length < at_ + 4 then .fault 3 zs.length
  else if 20000 < cnt2 zs at_ then .fault 5 at_
  else if zs.length < at_ + 4 + cnt2 zs at_ then .fault 3 zs.length
  else .seg (zs.getD (at_ + 1) 0) ((zs.drop (at_ + 4)).take (cnt2 zs at_)) (at_ + 4 + cnt2 zs at_)
/-- What comes next behind 255 and a mark. -/
def nextMk (zs : List Int) (at_ : Nat) (was : Int) (many : Bool) : Nx :=
  if kindOf (zs.getD (at_ + 1) 0) = 0 ∨ fitsK was (kindOf (zs.getD (at_ + 1) 0)) = false then .fault 4 at_
  else if many = true then .fault 6 at_
  else if kindOf (zs.getD (at_ + 1) 0) = 2 then .seg (zs.getD (at_ + 1) 0) [] (at_ + 2)
  else nextPart zs at_
def nextS (zs : List Int) (at_ : Nat) (was : Int) (many : Bool) : Nx :=
  if zs.length ≤ at_ then .fault 3 zs.length
  else if isRun zs at_ then nextRun zs at_ was many
  else if zs.length ≤ at_ + 1 then .fault 3 zs.length
  else if zs.getD (at_ + 1) 0 = 254 then .fin (at_ + 2)
  else nextMk zs at_ was many

/-- Reading goes on from a place; so many rounds at most. -/
def readFrom : Nat → List Int → Nat → Int → List (Int × List Int) → List (Int × List Int) × Int × Nat
  | 0, _, _, _, _ => ([], 0, 0)
  | f + 1, zs, at_, was, acc => match nextS zs at_ was (decide (acc.length = 300)) with
    | .fault c a => ([], c, a)
    | .fin a => if a < zs.length then ([], 7, a) else (acc, 0, 0)
    | .seg m d nx => readFrom f zs nx (kindOf m) (acc ++ [(m, d)])
def begins (zs : List Int) : Prop := 2 ≤ zs.length ∧ zs.getD 0 0 = 84 ∧ zs.getD 1 0 = 83
instance (zs : List Int) : Decidable (begins zs) := by unfold begins; exact inferInstance
/-- What ReadSegs answers: the segments, the fault's code and place. -/
def readS (zs : List Int) : List (Int × List Int) × Int × Nat :=
  if 60000 < zs.length then ([], 1, 0) else if begins zs then readFrom (zs.length + 1) zs 2 0 [] else ([], 2, 0)

theorem unst_pos (x : Int) (r : List Int) (h : x ≠ 255) : 0 < (unst (x :: r)).2 := by rw [unst_other x r h]; simp
theorem run_next {zs : List Int} {k : Nat} (hk : k < zs.length) (h : isRun zs k) : 0 < (unst (zs.drop k)).2 ∧ k + (unst (zs.drop k)).2 ≤ zs.length := by
  have hl := (unst_len (zs.drop k)).2
  rw [List.length_drop] at hl
  refine ⟨?_, by omega⟩
  rw [drop_at zs k hk]
  by_cases hx : zs.getD k 0 = 255
  · rcases h with h | ⟨h1, h2⟩
    · exact absurd hx h
    · rw [drop_at zs (k + 1) h1, hx, h2, unst, if_pos rfl, if_pos rfl]; simp
  · exact unst_pos _ _ hx
/-- A segment that comes next ends farther on, and within the bytes. -/
theorem next_bounds {zs : List Int} {k : Nat} {was : Int} {many : Bool} {m : Int} {d : List Int} {nx : Nat} (h : nextS zs k was many = .seg m d nx) : k < nx ∧ nx ≤ zs.length ∧ d.length ≤ 20000 ∧ many = false := by
  unfold nextS at h
  split at h
  · cases h
  · rename_i h0
    split at h
    · rename_i h1
      have hr := run_next (by omega) h1
      unfold nextRun at h
      repeat' split at h
      all_goals cases h
      rename_i h3 h4
      exact ⟨by omega, hr.2, by omega, by simpa using h3⟩
    · split at h
      · cases h
      · split at h
        · cases h
        · unfold nextMk nextPart at h
          repeat' split at h
          all_goals cases h
          · rename_i h3 h4
            exact ⟨by omega, by omega, by simp, by simpa using h3⟩
          · rename_i h3 _ _ _ _
            refine ⟨by omega, by omega, ?_, by simpa using h3⟩
            have := List.length_take_le (cnt2 zs k) (zs.drop (k + 4))
            omega
theorem fin_bounds {zs : List Int} {k a : Nat} {was : Int} {many : Bool} (h : nextS zs k was many = .fin a) : a = k + 2 ∧ k + 1 < zs.length := by
  unfold nextS at h
  split at h
  · cases h
  · split at h
    · unfold nextRun at h
      repeat' split at h
      all_goals cases h
    · split at h
      · cases h
      · split at h
        · cases h; exact ⟨rfl, by omega⟩
        · unfold nextMk nextPart at h
          repeat' split at h
          all_goals cases h

/-- A part of what is read. -/
theorem rd_sub {w : World} {ao : Option Addr} {n : Nat} {zs : List Int} (h : Rd .u8 w ao n zs) (k m : Nat) (hk : k + m ≤ n) (b off : Nat) (he : ao = some ⟨b, off, none⟩) : Rd .u8 w (some ⟨b, off + k, none⟩) m ((zs.drop k).take m) := by
  subst he
  refine ⟨by have := h.1; simp; omega, fun i hi => ?_⟩
  obtain ⟨b', off', e, hc⟩ := h.2 (k + i) (by omega)
  simp only [Option.some.injEq, Addr.mk.injEq] at e
  have ea := e.1
  have eb := e.2.1
  subst ea; subst eb
  refine ⟨b, off + k, rfl, ?_⟩
  rw [Nat.add_assoc, hc]
  have e1 : ((zs.drop k).take m).getD i 0 = zs.getD (k + i) 0 := by
    rw [List.getD_eq_getElem?_getD, List.getElem?_take, if_pos hi, List.getElem?_drop, ← List.getD_eq_getElem?_getD]
  rw [e1]
theorem rd_tail {w : World} {ao : Option Addr} {n : Nat} {zs : List Int} (h : Rd .u8 w ao n zs) (k : Nat) (hk : k ≤ n) (b off : Nat) (he : ao = some ⟨b, off, none⟩) : Rd .u8 w (some ⟨b, off + k, none⟩) (n - k) (zs.drop k) := by
  have h1 := rd_sub h k (n - k) (by omega) b off he
  rwa [List.take_of_length_le (by have := h.1; simp; omega)] at h1

theorem rowsK_snoc (n k : Nat) (f g : Nat → Nat → Value) (xs : List Value) (hx : xs.length = k) (hfg : ∀ i j, i < n → j < k → f i j = g i j) (hg : ∀ j, j < k → xs[j]? = some (g n j)) : rowsK n k f ++ xs = rowsK (n + 1) k g := by
  apply List.ext_getElem?
  intro c
  by_cases h1 : c < n * k
  · rw [List.getElem?_append_left (by rw [rowsK_len]; exact h1)]
    have hk : 0 < k := by rcases Nat.eq_zero_or_pos k with e | e; subst e; omega; exact e
    have hi' : c / k < n := Nat.div_lt_of_lt_mul (by rw [Nat.mul_comm]; exact h1)
    have hm : c % k < k := Nat.mod_lt _ hk
    have hd : c = (c / k) * k + c % k := by have := Nat.div_add_mod c k; rw [Nat.mul_comm] at this; omega
    rw [hd, rowsK_get n k f _ _ hi' hm, rowsK_get (n + 1) k g _ _ (by omega) hm, hfg _ _ hi' hm]
  · rw [List.getElem?_append_right (by rw [rowsK_len]; omega), rowsK_len]
    by_cases h2 : c < (n + 1) * k
    · have e : (n + 1) * k = n * k + k := by rw [Nat.add_mul, Nat.one_mul]
      have hj : c - n * k < k := by omega
      rw [hg _ hj]
      have := rowsK_get (n + 1) k g n (c - n * k) (by omega) hj
      rw [show n * k + (c - n * k) = c by omega] at this
      exact this.symm
    · have e : (n + 1) * k = n * k + k := by rw [Nat.add_mul, Nat.one_mul]
      rw [List.getElem?_eq_none (by omega), List.getElem?_eq_none (by rw [rowsK_len]; omega)]

/-- Segments owned, the data of one more, and the row into which it is appended. -/
theorem OwnS.push {w2 w3 : World} {lo hi : Nat} {v v' dv : Value} {ss : List (Int × List Int)} {d : Nat → Value} {m : Int} {zs : List Int} {base : Nat}
    (h1 : w2.ownsRow lo 41 2 v ss.length (rowsK ss.length 2 (segCells ss d))) (h3 : Dat w2 lo hi (fun i => (ss.getD i (0, [])).2) d ss.length) (hhi : hi ≤ w2.heap.size) (hlo : lo ≤ base) (hb : hi ≤ base)
    (hd : w2.ownsRow base 5 1 dv zs.length (zs.map (Value.int .u8)))
    (ho : w3.ownsRow lo 41 2 v' (ss.length + 1) (rowsK ss.length 2 (segCells ss d) ++ [.int .i64 m, dv])) (hg : w2.grownBy w3 v.ownBlock) : OwnS w3 lo w3.heap.size v' (ss ++ [(m, zs)]) := by
  have e1 : (ss ++ [(m, zs)]).length = ss.length + 1 := by simp
  have hget : ∀ i, i < ss.length → (ss ++ [(m, zs)]).getD i (0, []) = ss.getD i (0, []) := fun i hi => by
    rw [List.getD_eq_getElem?_getD, List.getElem?_append_left hi, ← List.getD_eq_getElem?_getD]
  have hlast : (ss ++ [(m, zs)]).getD ss.length (0, []) = (m, zs) := by simp
  refine ⟨fun i => if i = ss.length then dv else d i, ?_, fun g e => (ho.lt g e).2, ?_⟩
  · rw [e1]
    have e2 : rowsK ss.length 2 (segCells ss d) ++ [.int .i64 m, dv] = rowsK (ss.length + 1) 2 (segCells (ss ++ [(m, zs)]) (fun i => if i = ss.length then dv else d i)) := by
      refine rowsK_snoc _ _ _ _ _ rfl (fun i j hi hj => ?_) (fun j hj => ?_)
      · unfold segCells
        rw [hget i hi]
        dsimp only
        rw [if_neg (show ¬ i = ss.length by omega)]
      · have : j = 0 ∨ j = 1 := by omega
        rcases this with rfl | rfl
        · unfold segCells; rw [hlast]; rfl
        · unfold segCells; simp
    rw [← e2]; exact ho
  · rw [e1]
    have hd3 : w3.ownsRow base 5 1 dv zs.length (zs.map (Value.int .u8)) := own_beneath hd hg (fun g g' ha hb' => Ne.symm (own_types h1 hd (by decide) g' g hb' ha))
    intro i hi'
    by_cases e : i = ss.length
    · subst e
      simp only [if_true]
      rw [hlast]
      refine ⟨own_base hd3 hlo, fun g hg' => ⟨(hd3.lt g hg').2, fun j hj => ?_⟩⟩
      rw [if_neg (by omega)]
      intro hc
      have a1 := (h3 j hj).2 g hc
      have a2 := (hd3.lt g hg').1
      omega
    · have hi2 : i < ss.length := by omega
      obtain ⟨a1, a2⟩ := h3 i hi2
      simp only [if_neg e]
      rw [hget i hi2]
      refine ⟨own_beneath a1 hg (fun g g' ha hb' => Ne.symm (own_types h1 a1 (by decide) g' g hb' ha)), fun g hg' => ⟨?_, fun j hj => ?_⟩⟩
      · have := (a2 g hg').1; have := hg.size; omega
      · rw [if_neg (by omega)]
        exact (a2 g hg').2 j hj

end Go.Proofs.YticecjodbhhcfaaDoor
