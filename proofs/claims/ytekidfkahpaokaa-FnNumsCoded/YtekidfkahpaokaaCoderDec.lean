/-
  DecodeBins in the specification.
-/
import Derived.Test.YtekidfkahpaokaaCoderBit
import Derived.Test.YtekidfkahpaokaaCoderEnc2
import Derived.Test.YtekidfkahpaokaaRowsK
namespace Go.Proofs.Ytekidfkahpaokaa
open Go.RowKit

def ctxB (x : Int) : Bool := decide (0 ≤ x ∧ x ≤ 399)
def ctxsB (cs : List Int) : Bool := decide (cs.length ≤ 200000) && cs.all ctxB
def ctxsN (cs : List Int) : List Nat := cs.map Int.toNat
def decN (bz cs : List Int) : List Nat := bitsD (byteS bz) like0 ⟨prefV (byteS bz) 4, 4294967295, 4⟩ (ctxsN cs)
def decG (bz cs : List Int) : List Int := if ctxsB cs then (decN bz cs).map (fun x : Nat => (x : Int)) else []
theorem pCells_ints (O : List Nat) : pCells O = (O.map (fun x : Nat => (x : Int))).map (Value.int .i64) := by simp [pCells]
theorem all_takeC {f : Int → Bool} {xs : List Int} {k : Nat} (hk : k < xs.length) : (xs.take (k + 1)).all f = ((xs.take k).all f && f (xs.getD k 0)) := by
  rw [List.take_succ_eq_append_getElem hk, List.all_append]
  simp [hk]
theorem all_noC {f : Int → Bool} {xs : List Int} {k : Nat} (hk : k < xs.length) (h : f (xs.getD k 0) = false) : xs.all f = false := by
  cases hx : xs.all f with
  | false => rfl
  | true =>
    have e : xs.getD k 0 = xs[k] := by simp [hk]
    rw [e, List.all_eq_true.1 hx _ (List.getElem_mem hk)] at h
    exact h
theorem all_ctxs {cs : List Int} (h : cs.all ctxB = true) (i : Nat) (hi : i < cs.length) : 0 ≤ cs.getD i 0 ∧ cs.getD i 0 ≤ 399 := by
  have e : cs.getD i 0 = cs[i] := by simp [hi]
  have h1 := List.all_eq_true.1 h _ (List.getElem_mem hi)
  rw [← e] at h1
  exact of_decide_eq_true h1
theorem ctxs_drop {cs : List Int} {i : Nat} (hi : i < cs.length) : ctxsN (cs.drop i) = (cs.getD i 0).toNat :: ctxsN (cs.drop (i + 1)) := by
  have e : cs.getD i 0 = cs[i] := by simp [hi]
  rw [List.drop_eq_getElem_cons hi, e]
  rfl
theorem startD_ok {bz : List Int} (hb : ∀ i, 0 ≤ bz.getD i 0 ∧ bz.getD i 0 ≤ 255) : OkD ⟨prefV (byteS bz) 4, 4294967295, 4⟩ := ⟨by dsimp only; decide, by dsimp only; decide, by have := pref_bound (byteS_le hb) 4; exact this⟩

/-- The row that is told, beside the reader. -/
structure To (B : World) (xb rb : Nat) (w : World) (v o : Value) (L : List Nat) : Prop where
  own : w.ownsRow B.heap.size 3 1 o L.length (pCells L)
  n1 : o.ownBlock ≠ some xb
  n2 : o.ownBlock ≠ some rb
  n3 : ∀ k, v.ownBlock = some k → o.ownBlock ≠ some k
theorem To.kept {B W w : World} {xb rb : Nat} {v o bs : Value} {L P : List Nat} {s : De} (h : To B xb rb W v o L) (hi : Iw B W xb rb w v bs P s) : To B xb rb w v o L :=
  ⟨own_sameAt h.own (fun g e => hi.fr g (h.own.lt g e).2 (fun e2 => h.n1 (by rw [e, e2])) (fun e2 => h.n2 (by rw [e, e2])) (fun e2 => h.n3 g e2 e)), h.n1, h.n2, h.n3⟩
theorem To.push {B W w w' : World} {xb rb : Nat} {v o bs : Value} {L P : List Nat} {s : De} {g cap n1 x : Nat} (h : To B xb rb w v o L) (hi : Iw B W xb rb w v bs P s) (hn1 : n1 = L.length + 1) (o1 : w'.ownsRow B.heap.size 3 1 (.slice (some ⟨g, 0, none⟩) n1 cap) n1 (pCells (L ++ [x]))) (g1 : w.grownBy w' o.ownBlock) (hat : o.ownBlock = some g ∨ w.heap.size ≤ g) :
    To B xb rb w' v (.slice (some ⟨g, 0, none⟩) n1 cap) (L ++ [x]) ∧ Iw B w' xb rb w' v bs P s := by
  subst hn1
  have hlt : rb < w.heap.size := (Array.getElem?_eq_some_iff.1 hi.box).1
  have hxl := hi.lk.lt
  have e : (L ++ [x]).length = L.length + 1 := by simp
  refine ⟨⟨by rw [e]; exact o1, fun e2 => ?_, fun e2 => ?_, fun k e1 e2 => ?_⟩, hi.aside g1 h.n1 h.n2 (fun k e => h.n3 k e) (fun k e => (h.own.lt k e).1)⟩
  · have e3 : g = xb := Option.some.inj e2
    rcases hat with e4 | e4
    · rw [e3] at e4; exact h.n1 e4
    · omega
  · have e3 : g = rb := Option.some.inj e2
    rcases hat with e4 | e4
    · rw [e3] at e4; exact h.n2 e4
    · omega
  · have e3 : g = k := Option.some.inj e2
    rcases hat with e4 | e4
    · rw [e3] at e4; exact h.n3 k e1 e4
    · have := (hi.lk.own.lt k e1).2; omega
theorem Iw.below {B B0 W w : World} {xb rb : Nat} {v bs : Value} {P : List Nat} {s : De} (h : Iw B W xb rb w v bs P s) (g : B0.grownBy B none) : Iw B0 W xb rb w v bs P s :=
  ⟨⟨own_base h.lk.own g.size, h.lk.box, h.lk.ne, grown_trans g h.lk.grown, Nat.le_trans g.size h.lk.base⟩, h.box, h.n1, h.n4, Nat.le_trans g.size h.base, h.sz, h.fr⟩

end Go.Proofs.Ytekidfkahpaokaa
