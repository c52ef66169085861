/-
  Spots, SpotNum, RangeStop, LevelFix, AppRdI, CoefAt, CoefGive, GridRows, GridImpl, CoefEmpty, CoefCopy, GridLists, TreeGS, PlaneRows, PlanesImpl.
-/
import Derived.RangeFuncNested
import Derived.RangeFuncBound
import Derived.RangeFuncCalls
import Derived.RangeFuncLeaves
import Derived.Shelf.Abstract
import Derived.Shelf.RegionOpen
import Derived.WalkKit
import Derived.OwnWalkIn
import Derived.TacticsInMore
import Derived.LoopNIn
import Derived.LoopIn
import Derived.OrdersIn
import Derived.Test.YtjkokbijnaodnaaGreatRows
import Derived.Laws.AppendOwnNone
import Derived.Maps.AppendAt
import Derived.Deep.AppendLies
import Derived.Test.YtjkokbijnaodnaaGreatMAg

namespace Go.Proofs.YtjkokbijnaodnaaGreat
open Go.RowKit Go.Shelf

attribute [local go_sem] Oper.semAt_some

/-- The first k columns of a row. -/
def sCol (r : Nat) : Nat → List (Nat × Nat)
  | 0 => []
  | k + 1 => sCol r k ++ [(r, k)]
/-- The first r rows of W columns. -/
def sTo (W : Nat) : Nat → List (Nat × Nat)
  | 0 => []
  | r + 1 => sTo W r ++ sCol r W
theorem sCol_len (r : Nat) : ∀ k, (sCol r k).length = k
  | 0 => rfl
  | k + 1 => by simp [sCol, sCol_len r k]
theorem sTo_len (W : Nat) : ∀ r, (sTo W r).length = r * W
  | 0 => by simp [sTo]
  | r + 1 => by simp [sTo, sTo_len W r, sCol_len, Nat.succ_mul]
theorem sCol_pre (r : Nat) {k m : Nat} (h : k ≤ m) : sCol r k <+: sCol r m := by
  induction m with
  | zero => obtain rfl : k = 0 := by omega
            exact List.prefix_refl _
  | succ m ih =>
    by_cases e : k = m + 1
    · subst e; exact List.prefix_refl _
    · exact (ih (by omega)).trans (List.prefix_append _ _)
theorem sTo_pre (W : Nat) {k m : Nat} (h : k ≤ m) : sTo W k <+: sTo W m := by
  induction m with
  | zero => obtain rfl : k = 0 := by omega
            exact List.prefix_refl _
  | succ m ih =>
    by_cases e : k = m + 1
    · subst e; exact List.prefix_refl _
    · exact (ih (by omega)).trans (List.prefix_append _ _)
/-- Where a row is not at its end, what has come and one more is a beginning of all. -/
theorem spot_pre {W H r k : Nat} (hr : r < H) (hk : k < W) : sTo W r ++ sCol r k ++ [(r, k)] <+: sTo W H := by
  have h1 : sTo W r ++ sCol r (k + 1) <+: sTo W (r + 1) := (List.prefix_append_right_inj _).2 (sCol_pre r (by omega))
  rw [List.append_assoc]
  exact h1.trans (sTo_pre W (by omega))

theorem sCol_mem {r k : Nat} {x : Nat × Nat} : x ∈ sCol r k → x.1 = r ∧ x.2 < k := by
  induction k with
  | zero => intro h; simp [sCol] at h
  | succ k ih =>
    intro h
    simp only [sCol, List.mem_append, List.mem_singleton] at h
    rcases h with h | h
    · have := ih h; omega
    · subst h; simp
theorem sTo_mem {W r : Nat} {x : Nat × Nat} : x ∈ sTo W r → x.1 < r ∧ x.2 < W := by
  induction r with
  | zero => intro h; simp [sTo] at h
  | succ r ih =>
    intro h
    simp only [sTo, List.mem_append] at h
    rcases h with h | h
    · have := ih h; omega
    · have := sCol_mem h; omega

set_option maxRecDepth 100000 in
set_option maxHeartbeats 1600000 in
theorem spots1_in (F : Fence) (n : Nat) (hf : F.fn 110) (hro : F.round = none) (hn : 1 ≤ n) (l Bn wd ht : Nat) (hwd : wd ≤ 4096) (hht : ht ≤ 4096) (J Jx : List (Nat × Nat) → World → Prop)
    (hY : ∀ pre (x : Nat × Nat) W, J pre W → pre ++ [x] <+: sTo wd ht → YieldAt F (n - 1) Tryz.prog l #[.int .i64 (x.1 : Int), .int .i64 (x.2 : Int)] W fun e W' =>
      (e = .returned (.bool true) ∧ J (pre ++ [x]) W' ∧ W'.heap[Bn]? = W.heap[Bn]?) ∨ (e = .returned (.bool false) ∧ Jx (pre ++ [x]) W'))
    (W : World) (hBn : W.heap[Bn]? = some (.cells #[.int .i64 (wd : Int), .int .i64 (ht : Int)] 128 (0, 0))) (h0 : J [] W) :
    CallsIn F n Tryz.prog 110 #[.func (.yield l) #[] #[], .pointer (some ⟨Bn, 0, none⟩)] W fun e W' => (∃ v, e = .returned v) ∧
      ((∃ ys, ys = sTo wd ht ∧ J ys W') ∨ (∃ pre, pre <+: sTo wd ht ∧ Jx pre W')) := by
  refine callsIn_of_wp Tryz.func110 rfl hf ?_ hro
  simp only [Tryz.ntmps110, List.size_toArray, List.length_cons, List.length_nil, Nat.reduceAdd, Nat.reduceSub, Array.replicate_succ, Array.replicate_zero, List.push_toArray, List.append_toArray, List.nil_append, List.cons_append]
  have cb := areaCells hBn
  gi_wp2
  gi_loopw [7] (fun i wr => ∃ r : Nat, r ≤ ht ∧ i = .int .i64 r ∧ J (sTo wd r) wr ∧ wr.heap[Bn]? = some (.cells #[.int .i64 (wd : Int), .int .i64 (ht : Int)] 128 (0, 0))) (fun i _ => ht - (intOf i).toNat)
  case atStart => exact ⟨0, Nat.zero_le _, rfl, h0, hBn⟩
  case round =>
    obtain ⟨r, hr, rfl, hJr, hbr⟩ := hrel
    by_cases hlt : r < ht
    · have cr := areaCells hbr
      gi_wp2
      gi_loopw [12] (fun i wr => ∃ k : Nat, k ≤ wd ∧ i = .int .i64 k ∧ J (sTo wd r ++ sCol r k) wr ∧ wr.heap[Bn]? = some (.cells #[.int .i64 (wd : Int), .int .i64 (ht : Int)] 128 (0, 0))) (fun i _ => wd - (intOf i).toNat)
      case atStart => exact ⟨0, Nat.zero_le _, rfl, by rw [sCol, List.append_nil]; exact hJr, hbr⟩
      case round =>
        obtain ⟨k, hk, rfl, hJk, hbk⟩ := hrel
        by_cases hltk : k < wd
        · have hlen := spot_pre (W := wd) (H := ht) hlt hltk
          obtain ⟨fn, tmps, assign, body, hy, hR⟩ := hY (sTo wd r ++ sCol r k) (r, k) wr hJk hlen
          dsimp only at hy
          gi_wp2
          refine hR.mono ?_
          rintro e W3 (⟨rfl, hJ3, hk3⟩ | ⟨rfl, hJx3⟩)
          · have hb3 : W3.heap[Bn]? = some (.cells #[.int .i64 (wd : Int), .int .i64 (ht : Int)] 128 (0, 0)) := hk3.trans hbk
            gi_wp2
            go_roundw
            case rel => exact ⟨k + 1, by omega, by go_num, by rw [sCol, ← List.append_assoc]; exact hJ3, hb3⟩
            case measure => simp [intOf]; omega
          · gi_wp2
            refine bodyPost_ret (results_none rfl _ _ _) rfl ?_
            exact ⟨⟨_, rfl⟩, .inr ⟨_, spot_pre hlt hltk, hJx3⟩⟩
        · obtain rfl : k = wd := by omega
          gi_wp2
          go_roundw
          case rel => exact ⟨r + 1, by omega, by go_num, by rw [sTo]; exact hJk, hbk⟩
          case measure => simp [intOf]; omega
    · obtain rfl : r = ht := by omega
      gi_wp2
      go_end0
      exact ⟨⟨_, rfl⟩, .inl ⟨_, rfl, hJr⟩⟩

/-- The spots of an area, given to a loop whose body always goes on. -/
theorem spots_gives (Bn wd ht : Nat) (hwd : wd ≤ 4096) (hht : ht ≤ 4096) (O : Nat → Prop) (w : World) (hBn : w.heap[Bn]? = some (.cells #[.int .i64 (wd : Int), .int .i64 (ht : Int)] 128 (0, 0))) (hOB : ¬ O Bn) :
    Gives Tryz.prog 110 #[.pointer (some ⟨Bn, 0, none⟩)] (fun x : Nat × Nat => #[.int .i64 (x.1 : Int), .int .i64 (x.2 : Int)]) (sTo wd ht) O w := by
  intro n l J W hW _ hl hOl hwl hJ hY h0
  have hlt : Bn < w.heap.size := (Array.getElem?_eq_some_iff.1 hBn).1
  have hBW : W.heap[Bn]? = some (.cells #[.int .i64 (wd : Int), .int .i64 (ht : Int)] 128 (0, 0)) := (hW.block Bn hlt hOB).trans hBn
  have hltW : Bn < W.heap.size := (Array.getElem?_eq_some_iff.1 hBW).1
  have hn1 : ∀ m, CallsIn Fence.wide m Tryz.prog 110 (#[.func (.yield l) #[] #[]] ++ #[.pointer (some ⟨Bn, 0, none⟩)]) W (fun e W' => (∃ v, e = .returned v) ∧ J (sTo wd ht) W' ∧ But (fun k => O k ∨ k = l) W W') → CallsIn Fence.wide n Tryz.prog 110 (#[.func (.yield l) #[] #[]] ++ #[.pointer (some ⟨Bn, 0, none⟩)]) W (fun e W' => (∃ v, e = .returned v) ∧ J (sTo wd ht) W' ∧ But (fun k => O k ∨ k = l) W W') := fun m h => callsIn_wide.2 (callsIn_wide.1 h)
  refine hn1 1 ?_
  refine (spots1_in Fence.wide 1 trivial rfl (Nat.le_refl _) l Bn wd ht hwd hht (fun pre W1 => J pre W1 ∧ But (fun k => O k ∨ k = l) W W1) (fun _ _ => False) ?_ W hBW ⟨h0, But.refl _ _⟩).mono ?_
  · rintro pre x W1 ⟨hj, hb⟩ hlen
    obtain ⟨fn, tmps, assign, body, hy, hR⟩ := hY pre x W1 (1 - 1) hj hb hlen
    refine ⟨fn, tmps, assign, body, hy, hR.mono ?_⟩
    rintro e W' ⟨rfl, hj', hb'⟩
    exact .inl ⟨rfl, ⟨hj', hb.trans hb'⟩, hb'.block Bn (Nat.lt_of_lt_of_le hltW hb.size) (fun e => by rcases e with e | e; exact hOB e; omega)⟩
  · rintro e W' ⟨hv, (⟨ys, rfl, hj, hb⟩ | ⟨pre, _, hf⟩)⟩
    · exact ⟨hv, hj, hb⟩
    · exact hf.elim

/-- What makes the function. -/
theorem spots_in (F : Fence) (n : Nat) (hf : F.fn 95) (hro : F.round = none) (a b : Int) (w : World) :
    CallsIn F n Tryz.prog 95 #[.agg #[.int .i64 a, .int .i64 b]] w fun e w' => e = .returned (.func (.func 110) #[] #[.pointer (some ⟨w.heap.size, 0, none⟩)]) ∧ w' = w.alloc (.cells #[.int .i64 a, .int .i64 b] 128) := by
  refine callsIn_of_wp Tryz.func95 rfl hf ?_ hro
  simp only [Tryz.ntmps95, List.size_toArray, List.length_cons, List.length_nil, Nat.reduceAdd, Nat.reduceSub, Array.replicate_succ, Array.replicate_zero, List.push_toArray, List.append_toArray, List.nil_append, List.cons_append]
  gi_wp2
  go_ret
  exact ⟨rfl, rfl⟩

end Go.Proofs.YtjkokbijnaodnaaGreat

namespace Go.Proofs.YtjkokbijnaodnaaGreat
open Go.RowKit Go.Shelf

theorem sCol_at (r : Nat) : ∀ (k j : Nat), j < k → (sCol r k)[j]? = some (r, j)
  | 0, j, h => by omega
  | k + 1, j, h => by
    rw [sCol]
    by_cases e : j < k
    · rw [List.getElem?_append_left (by rw [sCol_len]; exact e)]
      exact sCol_at r k j e
    · obtain rfl : j = k := by omega
      rw [List.getElem?_append_right (by rw [sCol_len]; exact Nat.le_refl _), sCol_len, Nat.sub_self]
      rfl
theorem sTo_at (W : Nat) : ∀ (H i : Nat) (x : Nat × Nat), (sTo W H)[i]? = some x → x.1 * W + x.2 = i ∧ x.1 < H ∧ x.2 < W
  | 0, i, x, h => by simp [sTo] at h
  | r + 1, i, x, h => by
    rw [sTo] at h
    by_cases e : i < r * W
    · rw [List.getElem?_append_left (by rw [sTo_len]; exact e)] at h
      obtain ⟨h1, h2, h3⟩ := sTo_at W r i x h
      exact ⟨h1, by omega, h3⟩
    · rw [List.getElem?_append_right (by rw [sTo_len]; omega), sTo_len] at h
      have hj : i - r * W < W := by
        have := (List.getElem?_eq_some_iff.1 h).1
        rwa [sCol_len] at this
      rw [sCol_at r W _ hj] at h
      have e2 : (r, i - r * W) = x := Option.some.inj h
      subst e2
      exact ⟨by show r * W + (i - r * W) = i; omega, by show r < r + 1; omega, hj⟩
theorem spot_num {W H : Nat} {pre : List (Nat × Nat)} {x : Nat × Nat} (h : pre ++ [x] <+: sTo W H) : x.1 * W + x.2 = pre.length ∧ x.1 < H ∧ x.2 < W := by
  obtain ⟨rest, e⟩ := h
  refine sTo_at W H pre.length x ?_
  rw [← e, List.append_assoc, List.getElem?_append_right (Nat.le_refl _), Nat.sub_self]
  rfl
theorem spot_less {W H : Nat} {pre : List (Nat × Nat)} {x : Nat × Nat} (h : pre ++ [x] <+: sTo W H) : pre.length < H * W := by
  have := h.length_le
  rw [sTo_len] at this
  simp at this
  omega

end Go.Proofs.YtjkokbijnaodnaaGreat

namespace Go.Proofs.YtjkokbijnaodnaaGreat
open Go.RowKit Go.Shelf

section
variable {P : Program} {ops : Array Oper} {md : Region.Mode} {Q : Exit → Act → World → Prop}

def noDefer : List Oper → Bool
  | [] => true
  | o :: r => (match o.op with | .defer _ => false | _ => true) && noDefer r
theorem noDefer_at : ∀ {l : List Oper}, noDefer l = true → ∀ (i : Nat) (o : Oper), l[i]? = some o → ∀ c, o.op ≠ .defer c
  | [], _, i, o, h, _ => by simp at h
  | x :: r, hn, i, o, h, c => by
    simp only [noDefer, Bool.and_eq_true] at hn
    cases i with
    | zero =>
      have e : x = o := by simpa using h
      subst e
      intro e2
      simp [e2] at hn
    | succ i => exact noDefer_at hn.2 i o (by simpa using h) c

theorem rows_round {row : String} {args : Array Value} {w : World} {R : Value → World → Prop} (l n : Nat) (h : Rows P row args w R) : RowsIn (Fence.wide.inRound l) n P row args w R := fun c cs _ => by
  obtain ⟨v, w', r, s⟩ := h c cs
  refine ⟨v, w', r, ?_⟩
  rw [fenced_inRound]
  exact stepsIn_wide.2 s

theorem wpOp_round {l n i : Nat} {K : Act → World → Prop} {a : Act} {w : World} (hnd : ∀ (i : Nat) (o : Oper), ops[i]? = some o → ∀ c, o.op ≠ .defer c) (hQ : ∀ a w, ¬ Q .outgrown a w) (h : wpOp P ops Q i K a w) : wpOpIn (Fence.wide.inRound l) n P ops Q i K a w := by
  unfold wpOp at h
  unfold wpOpIn
  cases ho : ops[i]? with
  | none => simp only [ho] at h; exact h
  | some o =>
    simp only [ho] at h
    by_cases hw : Region.wanted o (yielded ops a.tmps) = true
    · simp only [hw, if_true] at h ⊢
      rcases h with h | ⟨_, a0, w0, hq⟩
      · unfold Oper.wp at h
        refine ⟨fun _ _ => trivial, ?_⟩
        rw [Oper.semAt_eq _ _ _ (hnd i o ho)]
        generalize (execOp a.eval o).run P w = r at h ⊢
        cases r with
        | ok x w' =>
          cases x with
          | enter f args => exact ⟨fun e => by simp [Fence.wide, Fence.inRound] at e, CallsIn.inRound l (callsIn_wide.2 h)⟩
          | row rw' args => exact ⟨fun e => by simp [Fence.wide, Fence.inRound] at e, rows_round l _ h⟩
          | _ => first | exact h | exact h.elim
        | halt x w' => cases x <;> first | exact h | exact h.elim
      · exact (hQ _ _ hq).elim
    · simp only [hw, if_false, Bool.false_eq_true] at h ⊢
      exact ⟨fun _ _ => trivial, h⟩

theorem wpAny_round {l n : Nat} (hnd : ∀ (i : Nat) (o : Oper), ops[i]? = some o → ∀ c, o.op ≠ .defer c) (hQ : ∀ a w, ¬ Q .outgrown a w) : ∀ (fuel : Nat) (listed : Array Bool) (a : Act) (w : World), wpAny P md ops Q fuel listed a w → wpAnyIn (Fence.wide.inRound l) n P md ops Q fuel listed a w
  | 0, _, _, _, h => h
  | fuel + 1, _, _, _, h => ⟨h.1, fun i hi => wpOpIn_mono (fun a' w' h' => wpAny_round hnd hQ fuel _ a' w' h') (wpOp_round hnd hQ (h.2 i hi))⟩
end

/-- A region that draws its order, inside of a round. -/
theorem wpIn_raw {P : Program} {id l0 n : Nat} {Q : Exit → Act → World → Prop} {a : Act} {w : World} {l : List Oper} (S : World → Prop) (ms : List Bool) (hm : P.follows .mixedOrders = true) (hQo : ∀ a w, ¬ Q .outgrown a w) (hQ : ∀ c a d v w, Q (.panic c) (Act.put a d v) w → Q (.panic c) a w)
    (hl : l.length = ms.length) (hnd : noDefer l = true) (hB : (Region.noSelect l.toArray && lexRaw .any l.toArray ms 0 (Array.replicate l.length false)) = true)
    (hS : S w.drew) (h : heldF P l.toArray S (fun a' => wpAnyH P .any l.toArray Q S (leftF ms) (listedOf ms 0 (Array.replicate l.length false)) a' w.drew) l ms a) : (Code.region id l.toArray true).wpIn (Fence.wide.inRound l0) n P Q a w := by
  rw [Bool.and_eq_true] at hB
  have := anyH_raw (P := P) (ops := l.toArray) (md := .any) (S := S) (Q := Q) (leftF ms) hB.1 hQ l ms 0 (Array.replicate l.length false) a w.drew hl (fun j hj => by simp) hB.2 hS h
  rw [count_all ms, ← hl] at this
  refine wpIn_region_any hm (wpAny_round (fun i o ho c => noDefer_at hnd i o (by simpa using ho) c) hQo _ _ _ _ ?_)
  have h2 := wpAny_of_held _ _ _ _ this
  rw [List.size_toArray]
  exact h2

/-- What an iterator gives a loop whose body may also return: all of S, or a beginning of it. -/
def Stops {α : Type} (P : Program) (g : Nat) (lb : Array Value) (encs : α → Array Value) (S : List α) (O : Nat → Prop) (w : World) : Prop :=
  ∀ (n l : Nat) (J : List α → World → Prop) (Jx : World → Prop) (W : World), But O w W → (∀ k, O k → k < W.heap.size) → l < W.heap.size → ¬ O l → w.heap.size ≤ l → LocalJ (fun k => O k ∨ k = l) J →
    (∀ pre x W1 m, J pre W1 → But (fun k => O k ∨ k = l) W W1 → pre ++ [x] <+: S → YieldAt Fence.wide m P l (encs x) W1 fun e W' => ((e = .returned (.bool true) ∧ J (pre ++ [x]) W') ∨ (e = .returned (.bool false) ∧ Jx W')) ∧ But (fun k => O k ∨ k = l) W1 W') → J [] W →
    CallsIn Fence.wide n P g (#[.func (.yield l) #[] #[]] ++ lb) W fun e W' => (∃ v, e = .returned v) ∧ (J S W' ∨ Jx W') ∧ But (fun k => O k ∨ k = l) W W'

/-- How the body of a round is left. -/
def onOrRet (R Rx : World → Prop) : Exit → Act → World → Prop
  | .normal, _, W' => R W'
  | .ret, _, W' => Rx W'
  | _, _, _ => False

theorem rangeFunc_stops {α : Type} {n : Nat} {P : Program} {g : Operand} {ps : Array Tmp} {assign body : Code} {Q : Exit → Act → World → Prop} {a : Act} {w : World}
    {gf : Nat} {lb : Array Value} (hg : a.eval g = .func (.func gf) #[] lb) (eg : ∀ args w, (callFunc gf args).run P w = .ok (.enter gf args) w)
    {encs : α → Array Value} {S : List α} {O : Nat → Prop} (hO : ∀ k, O k → k < w.heap.size) (hG : Stops P gf lb encs S O w) (hps : ∀ x, (encs x).size = ps.size)
    (I : List α → World → Prop) (hI : LocalJ O I) (Ix : World → Prop) (hIx : ∀ W W', Ix W → (∀ k, O k → W'.heap[k]? = W.heap[k]?) → Ix W') (h0 : I [] w) (a₁ : α → Act)
    (hassign : ∀ (l m : Nat) (x : α) (W : World) (K : Act → World → Prop), K (a₁ x) W →
      assign.wpIn (Fence.wide.inRound l) m P (Exit.then K (fun _ _ _ => False)) { tmps := (ps.zip (encs x)).foldl (fun t (p, v) => t.setIfInBounds p v) a.tmps, defers := [] } W)
    (hbody : ∀ (l m : Nat) (pre : List α) (x : α) (W : World), I pre W → But O w W → pre ++ [x] <+: S → body.wpIn (Fence.wide.inRound l) m P (onOrRet (fun W' => I (pre ++ [x]) W' ∧ But O W W') (fun W' => Ix W' ∧ But O W W')) (a₁ x) W)
    (hdone : ∀ (D : Nat) (W : World), w.heap.size ≤ D → I S W → But O w W → W.heap[D]? = some (.deferred (some [])) → Q .normal { a with defers := { target := .collected D, args := #[] } :: a.defers } W)
    (hstop : ∀ (D : Nat) (W : World), w.heap.size ≤ D → Ix W → But O w W → W.heap[D]? = some (.deferred (some [])) → Q .ret { a with defers := { target := .collected D, args := #[] } :: a.defers } W) :
    (Code.rangeFunc g ps assign body).wpIn Fence.wide n P Q a w := by
  refine wpIn_rangeFunc ?_
  intro fn hfn
  obtain ⟨R, hR⟩ : ∃ R : LoopState → Option Code → Loop, R = fun st pe => { state := st, pending := pe, fn, tmps := a.tmps, params := ps, assign, body, defers := w.heap.size } := ⟨_, rfl⟩
  obtain ⟨l, hl⟩ : ∃ l, w.heap.size + 1 = l := ⟨_, rfl⟩
  obtain ⟨W1, hW1⟩ : ∃ W1, (w.alloc (.deferred (some []))).alloc (.loop (R .ready none)) = W1 := ⟨_, rfl⟩
  have hs1 : W1.heap.size = w.heap.size + 2 := by rw [← hW1]; simp
  have hOl : ¬ O l := fun e => by have := hO l e; omega
  have hOD : ¬ O w.heap.size := fun e => by have := hO _ e; omega
  have hL1 : W1.heap[l]? = some (.loop (R .ready none)) := by
    rw [← hW1, ← hl]; have := World.alloc_heap_new (w.alloc (.deferred (some []))) (.loop (R .ready none)); rwa [World.size_alloc] at this
  have hD1 : W1.heap[w.heap.size]? = some (.deferred (some [])) := by
    rw [← hW1]; exact (Below.heap_alloc _ _ _ (by simp)).trans (World.alloc_heap_new w _)
  have b1 : ∀ O', But O' w W1 := fun O' => by
    rw [← hW1]; exact But.of_grown (grown_alloc (grown_alloc (World.grownBy.refl w none) _) _) (fun g e => by cases e)
  have hI1 : I [] W1 := hI _ _ _ h0 (fun k hk => (b1 (fun _ => False)).block k (hO k hk) (fun e => e))
  refine ⟨l, [{ target := .collected w.heap.size, args := #[] }], W1, { target := .fn (.func gf) lb, args := #[.func (.yield l) #[] #[]] }, W1, gf, #[.func (.yield l) #[] #[]] ++ lb, W1, ?_, ?_, fun _ _ => trivial, ?_, (fun h => by simp [Fence.wide] at h), ?_⟩
  · rw [← hW1, ← hl, hR]; exact run_enterLoop_outer _ _ _ _ _
  · simp only [resolve, hg]
    simp [go_sem]
  · simp [invoke, go_sem, eg]
  · have loc : LocalJ (fun k => O k ∨ k = l) (fun pre W => I pre W ∧ W.heap[l]? = some (.loop (R .ready none))) := fun pre W W' h hk => ⟨hI _ _ _ h.1 (fun k ok => hk k (.inl ok)), (hk l (.inr rfl)).trans h.2⟩
    refine (hG (n - 1) l _ (fun W => Ix W ∧ W.heap[l]? = some (.loop (R .done (some .ret)))) W1 (b1 O) (fun k hk => by have := hO k hk; omega) (by omega) hOl (by omega) loc ?_ ⟨hI1, hL1⟩).mono ?_
    · rintro pre x W m ⟨hi, hlW⟩ bW hlen
      have hlt : l < W.heap.size := (Array.getElem?_eq_some_iff.1 hlW).1
      have hy := run_yield (P := P) (args := encs x) hlW (by rw [hR]; exact hps x)
      rw [hR] at hy
      refine ⟨fn, _, assign, body, hy, roundIn_of_wpIn hfn (hassign l m x W _ ⟨_, run_beginRound hlW (by rw [hR]), ?_⟩)⟩
      clear hy
      obtain ⟨W2, hW2⟩ : ∃ W2, W.putObj l (.loop { R .ready none with state := .busy }) = W2 := ⟨_, rfl⟩
      rw [hW2]
      have hl2 : W2.heap[l]? = some (.loop { R .ready none with state := .busy }) := by rw [← hW2]; exact World.putObj_heap_same hlt
      have b2 : But (fun k => O k ∨ k = l) W W2 := by rw [← hW2]; exact But.putObj W l _ (.inr rfl)
      have hi2 : I pre W2 := hI _ _ _ hi (fun k hk => by rw [← hW2]; exact World.putObj_heap_other (fun e => hOl (by rw [← e]; exact hk)))
      have bw2 : But O w W2 := by
        have h := bW.trans b2
        exact ⟨h.os.trans (b1 O).os, h.tape.trans (b1 O).tape, h.output.trans (b1 O).output, Nat.le_trans (b1 O).size h.size, fun k hk ho => (h.block k (by omega) (fun e => by rcases e with e | e; exact ho e; omega)).trans ((b1 O).block k hk ho)⟩
      refine wpIn_mono (hbody l m pre x W2 hi2 bw2 hlen) ?_
      rintro e a3 W3 hp
      cases e with
      | normal =>
        obtain ⟨hi3, b3⟩ := hp
        have hl3 : W3.heap[l]? = some (.loop { R .ready none with state := .busy }) := (b3.block l (Array.getElem?_eq_some_iff.1 hl2).1 hOl).trans hl2
        have hlt3 : l < W3.heap.size := (Array.getElem?_eq_some_iff.1 hl3).1
        have he := run_endRound (P := P) none hl3
        have hi4 : I (pre ++ [x]) (W3.putObj l (.loop (R .ready none))) := hI _ _ _ hi3 (fun k hk => World.putObj_heap_other (fun e => hOl (by rw [← e]; exact hk)))
        have hl4 : (W3.putObj l (.loop (R .ready none))).heap[l]? = some (.loop (R .ready none)) := World.putObj_heap_same hlt3
        refine ⟨_, _, ?_, .inl ⟨rfl, hi4, hl4⟩, (b2.trans (b3.mono (fun k hk => .inl hk))).trans (But.putObj W3 l _ (.inr rfl))⟩
        rw [hR] at he ⊢
        exact he
      | ret =>
        obtain ⟨hi3, b3⟩ := hp
        have hl3 : W3.heap[l]? = some (.loop { R .ready none with state := .busy }) := (b3.block l (Array.getElem?_eq_some_iff.1 hl2).1 hOl).trans hl2
        have hlt3 : l < W3.heap.size := (Array.getElem?_eq_some_iff.1 hl3).1
        have he := run_endRound (P := P) (some .ret) hl3
        have hi4 : Ix (W3.putObj l (.loop (R .done (some .ret)))) := hIx _ _ hi3 (fun k hk => World.putObj_heap_other (fun e => hOl (by rw [← e]; exact hk)))
        have hl4 : (W3.putObj l (.loop (R .done (some .ret)))).heap[l]? = some (.loop (R .done (some .ret))) := World.putObj_heap_same hlt3
        refine ⟨_, _, ?_, .inr ⟨rfl, hi4, hl4⟩, (b2.trans (b3.mono (fun k hk => .inl hk))).trans (But.putObj W3 l _ (.inr rfl))⟩
        rw [hR] at he ⊢
        exact he
      | exit id => exact hp.elim
      | goto t => exact hp.elim
      | panic ch => exact hp.elim
      | outgrown => exact hp.elim
    · rintro e W5 ⟨⟨v, rfl⟩, hor, b5⟩
      have hD5 : W5.heap[w.heap.size]? = some (.deferred (some [])) := (b5.block w.heap.size (by omega) (fun e => by rcases e with e | e; exact hOD e; omega)).trans hD1
      have b6 : ∀ o, But (fun k => O k ∨ k = l) W1 (W5.putObj l o) := fun o => b5.trans (But.putObj W5 l o (.inr rfl))
      have b7 : ∀ o, But O w (W5.putObj l o) := fun o => ⟨(b6 o).os.trans (b1 O).os, (b6 o).tape.trans (b1 O).tape, (b6 o).output.trans (b1 O).output, Nat.le_trans (b1 O).size (b6 o).size, fun k hk ho => ((b6 o).block k (by omega) (fun e => by rcases e with e | e; exact ho e; omega)).trans ((b1 O).block k hk ho)⟩
      rcases hor with ⟨hi5, hl5⟩ | ⟨hi5, hl5⟩
      · have he := run_endLoop (P := P) hl5 (by rw [hR]; simp)
        exact ⟨none, _, by rw [hR] at he; exact he, hdone w.heap.size _ (Nat.le_refl _) (hI _ _ _ hi5 (fun k hk => World.putObj_heap_other (fun e => hOl (by rw [← e]; exact hk)))) (b7 _) ((World.putObj_heap_other (by omega)).trans hD5)⟩
      · have he := run_endLoop (P := P) hl5 (by rw [hR]; simp)
        refine ⟨some .ret, _, by rw [hR] at he; exact he, ?_⟩
        refine wpIn_ret ?_
        exact hstop w.heap.size _ (Nat.le_refl _) (hIx _ _ hi5 (fun k hk => World.putObj_heap_other (fun e => hOl (by rw [← e]; exact hk)))) (b7 _) ((World.putObj_heap_other (by omega)).trans hD5)

end Go.Proofs.YtjkokbijnaodnaaGreat

namespace Go.Proofs.YtjkokbijnaodnaaGreat
open Go.RowKit Go.Shelf

theorem nearestLevel (n : Int) (w : World) :
    Calls Tryz.prog 111 #[.int .i64 n] w fun e w' => e = .returned (.int .i64 (min (max n (-16383)) 16383)) ∧ w = w' := by
  go_enter Tryz.func111, Tryz.ntmps111
  go_wp2
  all_goals
    go_ret
    refine ⟨ret_int ?_, rfl⟩
    first | omega | (split at * <;> omega)

set_option maxRecDepth 20000 in
set_option maxHeartbeats 400000 in
theorem fixLevels (ao : Option Addr) (n cap : Nat) (zs : List Int) (w : World) (hr : Rd .i64 w ao n zs) (b : Bool) (hb : Hid (levB (-16383) 16383 zs = b)) :
    Calls Tryz.prog 96 #[.slice ao n cap] w fun e w' => (∃ ys, e = .returned (.tuple #[.agg (sq ys), .bool b]) ∧ ys.length = 64 ∧ (n = 64 → ys = zs)) ∧ w.grownBy w' none := by
  by_cases h : n = 64
  · subst h
    obtain ⟨bb, off, rfl, _⟩ := hr.2 0 (by omega)
    have e : (zs == made (fun k => min (max (zs.getD k 0) (-16383)) 16383)) = b := by rw [clip_same (by omega) zs hr.1]; exact unhide hb
    have HZ := hide hr.1
    have HR := hide (hr.grown (World.grownBy_alloc w (.cells #[.int .i64 0, .int .i64 0, .int .i64 0, .int .i64 0, .int .i64 0, .int .i64 0, .int .i64 0, .int .i64 0, .int .i64 0, .int .i64 0, .int .i64 0, .int .i64 0, .int .i64 0, .int .i64 0, .int .i64 0, .int .i64 0, .int .i64 0, .int .i64 0, .int .i64 0, .int .i64 0, .int .i64 0, .int .i64 0, .int .i64 0, .int .i64 0, .int .i64 0, .int .i64 0, .int .i64 0, .int .i64 0, .int .i64 0, .int .i64 0, .int .i64 0, .int .i64 0, .int .i64 0, .int .i64 0, .int .i64 0, .int .i64 0, .int .i64 0, .int .i64 0, .int .i64 0, .int .i64 0, .int .i64 0, .int .i64 0, .int .i64 0, .int .i64 0, .int .i64 0, .int .i64 0, .int .i64 0, .int .i64 0, .int .i64 0, .int .i64 0, .int .i64 0, .int .i64 0, .int .i64 0, .int .i64 0, .int .i64 0, .int .i64 0, .int .i64 0, .int .i64 0, .int .i64 0, .int .i64 0, .int .i64 0, .int .i64 0, .int .i64 0, .int .i64 0] 116) none))
    clear hr
    go_enter Tryz.func96, Tryz.ntmps96
    go_wp2_with fail
    refine (fixSquare_yes bb off cap zs _ (unhide HR) (fun k => min (max (zs.getD k 0) (-16383)) 16383) 111 #[] (enters_of Tryz.func111 (by kernel_rfl) rfl) (fun k hk W hW => (nearestLevel (zs.getD k 0) W).mono ?_)).mono ?_
    · rintro e w' ⟨rfl, rfl⟩
      exact ⟨rfl, World.grownBy.refl _ _⟩
    · rintro e' w' ⟨rfl, g⟩
      rw [e]
      clear HR hb e
      have hB := (g.block w.heap.size (by simp) (by simp)).trans (heap_alloc_new w _)
      have HB := hide hB
      clear hB
      go_wp2_with (refine store_row rfl 116 _ _ rfl w.heap.size rfl (sq zs) rfl #[.int .i64 0, .int .i64 0, .int .i64 0, .int .i64 0, .int .i64 0, .int .i64 0, .int .i64 0, .int .i64 0, .int .i64 0, .int .i64 0, .int .i64 0, .int .i64 0, .int .i64 0, .int .i64 0, .int .i64 0, .int .i64 0, .int .i64 0, .int .i64 0, .int .i64 0, .int .i64 0, .int .i64 0, .int .i64 0, .int .i64 0, .int .i64 0, .int .i64 0, .int .i64 0, .int .i64 0, .int .i64 0, .int .i64 0, .int .i64 0, .int .i64 0, .int .i64 0, .int .i64 0, .int .i64 0, .int .i64 0, .int .i64 0, .int .i64 0, .int .i64 0, .int .i64 0, .int .i64 0, .int .i64 0, .int .i64 0, .int .i64 0, .int .i64 0, .int .i64 0, .int .i64 0, .int .i64 0, .int .i64 0, .int .i64 0, .int .i64 0, .int .i64 0, .int .i64 0, .int .i64 0, .int .i64 0, .int .i64 0, .int .i64 0, .int .i64 0, .int .i64 0, .int .i64 0, .int .i64 0, .int .i64 0, .int .i64 0, .int .i64 0, .int .i64 0] 116 (unhide HB) (by rw [sq_size, unhide HZ]; rfl) (by rw [sq_size, unhide HZ]; kernel_rfl) (sq_one _) ?_; intro w3 hB3 g3)
      refine bodyPost_ret (v := .tuple #[.agg (sq zs), .bool b]) ?_ rfl ⟨⟨_, rfl, (by first | exact unhide HZ | exact zs64_len), ?_⟩, ?_⟩
      · exact results_c2 (p := 2) (q := 3) (ty := 116) rfl _ _ _ w.heap.size rfl _ (run_loadVar_row w3 _ 116 116 _ (0, 0) _ hB3 Tryz.underlying116 rfl (by rw [sq_size, unhide HZ]; kernel_rfl))
      · intro hh; first | rfl | exact absurd hh h
      · exact grown_new (grown_new (World.grownBy_alloc _ _ _) g (fun g e => by simp at e)) g3 (fun g e => by simp at e; omega)
  · have hb' : b = false := by rw [← unhide hb]; simp [levB, hr.1, h]
    subst hb'
    clear hr hb
    go_enter Tryz.func96, Tryz.ntmps96
    go_wp2_with fail
    refine (fixSquare_no ao n cap _ _ h).mono ?_
    rintro e' w' ⟨rfl, g⟩
    have hB := (g.block w.heap.size (by simp) (by simp)).trans (heap_alloc_new w _)
    have HB := hide hB
    clear hB
    go_wp2_with (refine store_row rfl 116 _ _ rfl w.heap.size rfl (sq zs64) rfl #[.int .i64 0, .int .i64 0, .int .i64 0, .int .i64 0, .int .i64 0, .int .i64 0, .int .i64 0, .int .i64 0, .int .i64 0, .int .i64 0, .int .i64 0, .int .i64 0, .int .i64 0, .int .i64 0, .int .i64 0, .int .i64 0, .int .i64 0, .int .i64 0, .int .i64 0, .int .i64 0, .int .i64 0, .int .i64 0, .int .i64 0, .int .i64 0, .int .i64 0, .int .i64 0, .int .i64 0, .int .i64 0, .int .i64 0, .int .i64 0, .int .i64 0, .int .i64 0, .int .i64 0, .int .i64 0, .int .i64 0, .int .i64 0, .int .i64 0, .int .i64 0, .int .i64 0, .int .i64 0, .int .i64 0, .int .i64 0, .int .i64 0, .int .i64 0, .int .i64 0, .int .i64 0, .int .i64 0, .int .i64 0, .int .i64 0, .int .i64 0, .int .i64 0, .int .i64 0, .int .i64 0, .int .i64 0, .int .i64 0, .int .i64 0, .int .i64 0, .int .i64 0, .int .i64 0, .int .i64 0, .int .i64 0, .int .i64 0, .int .i64 0, .int .i64 0] 116 (unhide HB) (by rw [sq_size, zs64_len]; rfl) (by rw [sq_size, zs64_len]; kernel_rfl) (sq_one _) ?_; intro w3 hB3 g3)
    refine bodyPost_ret (v := .tuple #[.agg (sq zs64), .bool false]) ?_ rfl ⟨⟨_, rfl, (by first | exact unhide HZ | exact zs64_len), ?_⟩, ?_⟩
    · exact results_c2 (p := 2) (q := 3) (ty := 116) rfl _ _ _ w.heap.size rfl _ (run_loadVar_row w3 _ 116 116 _ (0, 0) _ hB3 Tryz.underlying116 rfl (by rw [sq_size, zs64_len]; kernel_rfl))
    · intro hh; first | rfl | exact absurd hh h
    · exact grown_new (grown_new (World.grownBy_alloc _ _ _) g (fun g e => by simp at e)) g3 (fun g e => by simp at e; omega)

end Go.Proofs.YtjkokbijnaodnaaGreat

namespace Go.Proofs.YtjkokbijnaodnaaGreat
open Go.RowKit

theorem info_i9 : (Tryz.prog.info? 3).map (fun i => (i.zero, i.size, i.bytes)) = some (some (.int .i64 0), 1, 8) := by kernel_rfl

theorem append_rdI {w : World} {ops : Array Oper} {rest : List Oper} {o : Oper} {a : Act} {Q : Exit → Act → World → Prop} (hgd : o.guard = none) (s x : Operand)
    (ho : o.op = .call { callee := .builtin .append, args := #[s, x], argTypes := #[64, 64] })
    (base : Nat) (v : Value) (xs : List Int) (hs : a.eval s = v) (hown : w.ownsRow base 3 1 v xs.length (xs.map (Value.int .i64)))
    (ad : Addr) (m c : Nat) (zs : List Int) (hx : a.eval x = .slice (some ad) m c) (hr : Rd .i64 w (some ad) m zs)
    (hb : xs.length + m ≤ 1000000) (hbase : base ≤ w.heap.size) (R : List Int) (hR : xs ++ zs = R)
    (h : ∀ v' w', w'.ownsRow base 3 1 v' R.length (R.map (Value.int .i64)) → w.grownBy w' v.ownBlock → wpList Tryz.prog ops Q rest (a.put o.dst v') w') :
    wpList Tryz.prog ops Q (o :: rest) a w := by
  subst hR
  obtain ⟨i0, hi, hz0, hz1, hz2⟩ := info_parts info_i9
  refine wpList_append_own _ hgd s x 64 ho base 3 i0 (.int .i64 0) 1 8 Tryz.underlying64 hi hz0 hz1 hz2 rfl (by decide) v xs.length _ hs hown ad m c (zs.map (Value.int .i64)) hx (by simp [hr.1]) (rd_newsI hr) ?_ (by unfold maxLen; omega) (by omega) hbase (fun v' w' h1 h2 _ => h v' w' (by rw [List.map_append, List.length_append, hr.1]; exact h1) h2)
  intro u hu
  obtain ⟨y, _, rfl⟩ := List.mem_map.1 hu
  rfl

end Go.Proofs.YtjkokbijnaodnaaGreat

namespace Go.Proofs.YtjkokbijnaodnaaGreat
open Go.RowKit

theorem ok_plane {wd ht : Int} {n : Nat} {C : Nat → Nat → Int} {X : List (List (List Int))} (h : coefsOkB wd ht n C X = true) (c : Nat) (hc : c < n) : ∃ hX : c < X.length, X[c].length = bwG wd n C c * bhG ht n C c ∧ ∀ k (hk : k < X[c].length), blockB (hidB (bwG wd n C c) (nwG wd n C c) (nhG ht n C c) k) X[c][k] = true := by
  unfold coefsOkB at h
  rw [Bool.and_eq_true] at h
  have hl : X.length = n := of_decide_eq_true h.1
  have hX : c < X.length := by omega
  have hp := List.all_eq_true.1 h.2 c (List.mem_range.2 hX)
  have e : X.getD c [] = X[c] := by simp [hX]
  rw [e] at hp
  unfold planeB at hp
  rw [Bool.and_eq_true] at hp
  refine ⟨hX, of_decide_eq_true hp.1, fun k hk => ?_⟩
  have hb := List.all_eq_true.1 hp.2 k (List.mem_range.2 hk)
  have e2 : X[c].getD k [] = X[c][k] := by simp [hk]
  rw [e2] at hb
  exact hb
theorem lev_len {lo hi : Int} {zs : List Int} (h : levB lo hi zs = true) : zs.length = 64 := by
  unfold levB at h
  rw [Bool.and_eq_true] at h
  exact of_decide_eq_true h.1
theorem block_len {hid : Bool} {zs : List Int} (h : blockB hid zs = true) : zs.length = 64 := by
  unfold blockB at h
  rw [Bool.and_eq_true] at h
  exact lev_len h.1
theorem place_in {wd ht : Int} {n : Nat} {C : Nat → Nat → Int} {co ro cl : Int} {k : Nat} (h : placeO wd ht n C co ro cl = some k) : ∃ c r l : Nat, co = (c : Int) ∧ ro = (r : Int) ∧ cl = (l : Int) ∧ c < n ∧ r < bhG ht n C c ∧ l < bwG wd n C c ∧ k = r * bwG wd n C c + l ∧ k < bwG wd n C c * bhG ht n C c := by
  unfold placeO at h
  split at h
  · rename_i h1
    obtain ⟨c, rfl⟩ := Int.eq_ofNat_of_zero_le h1.1
    rw [Int.toNat_natCast] at h
    split at h
    · rename_i h2
      obtain ⟨r, rfl⟩ := Int.eq_ofNat_of_zero_le h2.1.1
      obtain ⟨l, rfl⟩ := Int.eq_ofNat_of_zero_le h2.2.1
      rw [Int.toNat_natCast, Int.toNat_natCast] at h
      have hk : r * bwG wd n C c + l = k := Option.some.inj h
      have hr : r < bhG ht n C c := by omega
      have hl : l < bwG wd n C c := by omega
      refine ⟨c, r, l, rfl, rfl, rfl, by omega, hr, hl, hk.symm, ?_⟩
      have hm : (r + 1) * bwG wd n C c ≤ bhG ht n C c * bwG wd n C c := Nat.mul_le_mul_right _ hr
      rw [Nat.add_mul, Nat.one_mul] at hm
      rw [Nat.mul_comm (bwG wd n C c)]
      omega
    · cases h
  · cases h

end Go.Proofs.YtjkokbijnaodnaaGreat

namespace Go.Proofs.YtjkokbijnaodnaaGreat
open Go.RowKit

theorem sumN_le_coefgive {α : Type} (f : α → Nat) (b : Nat) : ∀ L : List α, (∀ a ∈ L, f a ≤ b) → sumN (L.map f) ≤ L.length * b
  | [], _ => by simp [sumN]
  | a :: r, h => by
    have h1 := h a (by simp)
    have h2 := sumN_le_coefgive f b r (fun x hx => h x (by simp [hx]))
    simp only [List.map_cons, sumN, List.length_cons, Nat.add_mul, Nat.one_mul]
    omega
theorem szR_le {α : Type} (sz : α → Nat) (b : Nat) (L : List α) (h : ∀ a ∈ L, sz a ≤ b) : szR sz L ≤ L.length * (b + 1) := by
  have := sumN_le_coefgive sz b L h
  unfold szR
  rw [Nat.mul_add, Nat.mul_one]
  omega
theorem sumN_mono {α : Type} {f g : α → Nat} (h : ∀ a, f a ≤ g a) : ∀ L : List α, sumN (L.map f) ≤ sumN (L.map g)
  | [] => Nat.le_refl _
  | a :: r => by simp only [List.map_cons, sumN]; have := h a; have := sumN_mono h r; omega
theorem cnt_sz (X : List (List (List Int))) : cntCo X ≤ szCo X := by
  have h1 : ∀ P : List (List Int), cntR lenI P ≤ szR lenI P := fun P => by unfold cntR szR; omega
  have h2 := sumN_mono h1 X
  unfold cntCo szCo
  unfold cntR at h2 ⊢
  unfold szR at h2 ⊢
  omega
/-- Few planes of few blocks of 64. -/
def Shape (X : List (List (List Int))) : Prop := X.length ≤ 4 ∧ ∀ P ∈ X, P.length ≤ 1089 ∧ ∀ B ∈ P, B.length ≤ 64
theorem shape_sz {X : List (List (List Int))} (h : Shape X) : szCo X ≤ 283144 := by
  have h1 : ∀ P ∈ X, szR lenI P ≤ 70785 := fun P hP => by
    have h2 := szR_le lenI 64 P (fun B hB => (h.2 P hP).2 B hB)
    have h3 := (h.2 P hP).1
    omega
  have h4 := szR_le (szR lenI) 70785 X h1
  have h5 := h.1
  unfold szCo
  omega
theorem up_33 {n d c : Int} (hn : 1 ≤ n ∧ n ≤ 256) (hd : 1 ≤ d ∧ d ≤ 4) (hc : 1 ≤ c ∧ c ≤ d) : upI n (8 * d) * c ≤ 33 := by
  have h0 := up_le32 hn hd
  have h1 : upI n (8 * d) * c ≤ upI n (8 * d) * d := Int.mul_le_mul_of_nonneg_left hc.2 (by omega)
  have h2 : upI n (8 * d) * d ≤ 33 := by
    unfold upI
    rw [Int.tdiv_eq_ediv_of_nonneg (by omega)]
    have : d = 1 ∨ d = 2 ∨ d = 3 ∨ d = 4 := by omega
    rcases this with rfl | rfl | rfl | rfl <;> omega
  omega
theorem dims33 {wd ht : Int} {n : Nat} {C : Nat → Nat → Int} (hg : Geo wd ht n C (mostA 1 C 1 n) (mostA 1 C 2 n)) (c : Nat) (hc : c < n) : bwG wd n C c * bhG ht n C c ≤ 1089 := by
  have h1 := up_33 hg.wd hg.hb ⟨(hg.ch c hc).1, mostA_at n c hc⟩
  have h2 := up_33 hg.ht hg.vb ⟨(hg.cv c hc).1, mostA_at n c hc⟩
  have d := dims_of hg c hc
  have e1 := d.bw
  have e2 := d.bh
  have h3 : bwG wd n C c ≤ 33 := by omega
  have h4 : bhG ht n C c ≤ 33 := by omega
  exact Nat.le_trans (Nat.mul_le_mul h3 h4) (by omega)
theorem shape_empty {p wd ht rs : Int} {n : Nat} {C : Nat → Nat → Int} {b : Bool} (hb : frameB p wd ht rs n C = b) : Shape (emptyF b wd ht n C) := by
  cases b with
  | false => exact ⟨by simp [emptyF], fun P hP => by simp [emptyF] at hP⟩
  | true =>
    have hg := geo_of hb
    have e : emptyF true wd ht n C = emptyG n (fun c => bwG wd n C c * bhG ht n C c) := rfl
    rw [e]
    refine ⟨by unfold emptyG; simp; exact hg.n4, fun P hP => ?_⟩
    unfold emptyG at hP
    obtain ⟨c, hc, rfl⟩ := List.mem_map.1 hP
    have hc' : c < n := by simpa using hc
    refine ⟨by simp; exact dims33 hg c hc', fun B hB => ?_⟩
    have := (List.mem_replicate.1 hB).2
    subst this
    unfold noughts
    simp
theorem shape_ok {p wd ht rs : Int} {n : Nat} {C : Nat → Nat → Int} {X : List (List (List Int))} (hb : frameB p wd ht rs n C = true) (h : coefsOkB wd ht n C X = true) : Shape X := by
  have hg := geo_of hb
  have h1 := h
  unfold coefsOkB at h1
  rw [Bool.and_eq_true] at h1
  have h2 : X.length = n := of_decide_eq_true h1.1
  have hn4 := hg.n4
  refine ⟨by omega, fun P hP => ?_⟩
  obtain ⟨c, hc, rfl⟩ := List.mem_iff_getElem.1 hP
  obtain ⟨_, h3, h4⟩ := ok_plane h c (by omega)
  refine ⟨by rw [h3]; exact dims33 hg c (by omega), fun B hB => ?_⟩
  obtain ⟨k, hk, rfl⟩ := List.mem_iff_getElem.1 hB
  rw [block_len (h4 k hk)]
  exact Nat.le_refl _
theorem shape_with {p wd ht rs : Int} {n : Nat} {C : Nat → Nat → Int} {b : Bool} (hb : frameB p wd ht rs n C = b) (X : List (List (List Int))) (co ro cl : Int) (bl : List Int) : Shape (withBlockF b wd ht n C X co ro cl bl) := by
  have hnil : Shape [] := ⟨by simp, fun P hP => by simp at hP⟩
  unfold withBlockF
  split
  · rename_i h
    rw [Bool.and_eq_true] at h
    obtain ⟨h1, h2⟩ := h
    unfold coefsOkF at h1
    rw [Bool.and_eq_true] at h1
    obtain ⟨hb1, h1⟩ := h1
    subst hb1
    have hs := shape_ok hb h1
    have hl := lev_len h2
    split
    · rename_i k hpl
      split
      · exact hnil
      · obtain ⟨c, r, l, rfl, rfl, rfl, hcn, -, -, -, -⟩ := place_in hpl
        obtain ⟨hX, _, _⟩ := ok_plane h1 c hcn
        have e : X.getD (c : Int).toNat [] = X[c] := by simp [hX]
        rw [e]
        refine ⟨by simpa using hs.1, fun P hP => ?_⟩
        rcases List.mem_or_eq_of_mem_set hP with hP | rfl
        · exact hs.2 P hP
        · have hc := hs.2 X[c] (List.getElem_mem hX)
          refine ⟨by simpa using hc.1, fun B hB => ?_⟩
          rcases List.mem_or_eq_of_mem_set hB with hB | rfl
          · exact hc.2 B hB
          · omega
    · exact hnil
  · exact hnil

def ImplCoefsOk : Prop := ∀ (p wd ht rs : Int) (ao : Option Addr) (n cap : Nat) (C : Nat → Nat → Int) (v : Value) (X : List (List (List Int))) (w : World), RdC w ao n C → n ≤ 4194304 → Rd3 w v X → szCo X ≤ 1048576 → ∀ (fb b : Bool), Hid (frameB p wd ht rs n C = fb) → Hid (coefsOkF fb wd ht n C X = b) →
    Calls Tryz.prog 47 #[.agg #[.int .i64 p, .int .i64 wd, .int .i64 ht, .int .i64 rs, .slice ao n cap], .agg #[v]] w fun e w' => e = .returned (.bool b) ∧ w.grownBy w' none

end Go.Proofs.YtjkokbijnaodnaaGreat

namespace Go.Proofs.YtjkokbijnaodnaaGreat
open Go.RowKit Go.Shelf

theorem grown_cells (g : Nat) : ∀ (vs : List Value) (o : Nat) (w : World), w.grownBy (w.setCells g o vs) (some g)
  | [], _, _ => World.grownBy.refl _ _
  | v :: r, o, w => by
    rw [World.setCells]
    exact grown_trans (grown_set w g o v) (grown_cells g r (o + 1) _)

/-- Blocks in a row of squares. -/
structure Th_gridrows (w : World) (g : Nat) (L : List (List Int)) : Prop where
  len : ∀ k, k < L.length → (L.getD k []).length = 64
  rd : ∀ k, k < L.length → w.rangeAt g (k * 64) ((L.getD k []).map (Value.int .i64))
  th : ∀ k, k < L.length → w.there g (k * 64) 64
  lies : ∃ o, w.heap[g]? = some o
theorem Th_gridrows.lt {w : World} {g : Nat} {L : List (List Int)} (h : Th_gridrows w g L) : g < w.heap.size := by
  obtain ⟨o, ho⟩ := h.lies
  exact (Array.getElem?_eq_some_iff.1 ho).1
theorem Th_gridrows.same {w w' : World} {g : Nat} {L : List (List Int)} (h : Th_gridrows w g L) (e : w'.heap[g]? = w.heap[g]?) : Th_gridrows w' g L := by
  refine ⟨h.len, fun k hk j v hv => ?_, fun k hk j hj => ?_, by rw [e]; exact h.lies⟩
  · have := h.rd k hk j v hv
    unfold World.cell? at this ⊢
    rw [e]
    exact this
  · have := h.th k hk j hj
    unfold World.cell? World.frozen? at this ⊢
    rw [e]
    exact this
theorem Th_gridrows.grown {w w' : World} {g : Nat} {L : List (List Int)} (h : Th_gridrows w g L) (hg : w.grownBy w' none) : Th_gridrows w' g L := h.same (hg.block g h.lt (by simp))
theorem Th_gridrows.put {w : World} {g : Nat} {L : List (List Int)} (h : Th_gridrows w g L) (k : Nat) (hk : k < L.length) (B : List Int) (hB : B.length = 64) : Th_gridrows (w.setCells g (k * 64) (B.map (Value.int .i64))) g (L.set k B) := by
  have hl : ∀ j, j < (L.set k B).length → ((L.set k B).getD j []).length = 64 := fun j hj => by
    rw [List.length_set] at hj
    by_cases e : k = j
    · subst e; simp [hk, hB]
    · have : (L.set k B).getD j [] = L.getD j [] := by simp [e]
      rw [this]; exact h.len j hj
  refine ⟨hl, fun j hj => ?_, fun j hj => ?_, ?_⟩
  · rw [List.length_set] at hj
    by_cases e : k = j
    · subst e
      have : (L.set k B).getD k [] = B := by simp [hk]
      rw [this]
      exact World.rangeAt_setCells_same w g (k * 64) _ (by rw [List.length_map, hB]; exact h.th k hk)
    · have : (L.set k B).getD j [] = L.getD j [] := by simp [e]
      rw [this]
      refine World.rangeAt_setCells_apart (h.rd j hj) g (k * 64) _ (.inr ?_)
      rw [List.length_map, List.length_map, h.len j hj, hB]
      omega
  · rw [List.length_set] at hj
    exact World.there_setCells (h.th j hj) g _ _
  · have hs : g < (w.setCells g (k * 64) (B.map (Value.int .i64))).heap.size := Nat.lt_of_lt_of_le h.lt (grown_cells g _ _ w).size
    exact ⟨_, Array.getElem?_eq_getElem hs⟩
/-- New blocks. -/
theorem Th_gridrows.made {w : World} {g cap n base : Nat} {xs : List Value} (h : w.ownsRow base 116 64 (.slice (some ⟨g, 0, none⟩) n cap) n xs) (hx : ∀ j, j < n * 64 → xs[j]? = some (.int .i64 0)) : Th_gridrows w g (List.replicate n noughts) := by
  have hc : ∀ j, j < n * 64 → w.cell? ⟨g, j, none⟩ = some (.int .i64 0) := fun j hj => by rw [h.cellAt j hj]; exact hx j hj
  have hr : ∀ k, k < (List.replicate n noughts).length → (List.replicate n noughts).getD k [] = noughts := fun k hk => by
    rw [List.length_replicate] at hk
    simp [hk]
  refine ⟨fun k hk => by rw [hr k hk]; simp [noughts], fun k hk j v hv => ?_, fun k hk j hj => ?_, ?_⟩
  · rw [hr k hk] at hv
    rw [List.length_replicate] at hk
    have hj : j < 64 := by
      have := (List.getElem?_eq_some_iff.1 hv).1
      simpa [noughts] using this
    obtain ⟨y, hy, rfl⟩ := List.mem_map.1 (List.mem_of_getElem? hv)
    have e : y = 0 := List.eq_of_mem_replicate hy
    subst e
    exact hc _ (by omega)
  · rw [List.length_replicate] at hk
    rw [hc _ (by omega)]
    exact ⟨rfl, h.frozenAt _⟩
  · have := (h.lt g rfl).2
    exact ⟨_, Array.getElem?_eq_getElem this⟩

/-- A grid: its sides, its blocks, and the block of memory that they lie in. -/
abbrev Gd := Nat × Nat × List (List Int)
def GrP (w : World) (c : Nat → Value) (x : Gd) (F : List Nat) : Prop := ∃ g cap, c 0 = .int .i64 (x.1 : Int) ∧ c 1 = .int .i64 (x.2.1 : Int) ∧ c 2 = .slice (some ⟨g, 0, none⟩) x.2.2.length cap ∧ Th_gridrows w g x.2.2 ∧ F = [g]
theorem GrP.ok : OkG GrP := by
  refine ⟨?_, ?_⟩
  · rintro w w' c x F ⟨g, cap, h0, h1, h2, ht, rfl⟩ hs
    exact ⟨g, cap, h0, h1, h2, ht.same (hs g (by simp)), rfl⟩
  · rintro w c x F ⟨g, cap, h0, h1, h2, ht, rfl⟩ k hk
    simp at hk
    subst hk
    exact ht.lt

end Go.Proofs.YtjkokbijnaodnaaGreat

namespace Go.Proofs.YtjkokbijnaodnaaGreat
open Go.RowKit Go.Shelf

theorem gridIndex (wd r c : Nat) (x y : Value) (hw : wd ≤ 4096) (hr : r ≤ 4096) (hc : c ≤ 4096) (k : Nat) (hk : Hid (r * wd + c = k)) (w : World) :
    Calls Tryz.prog 97 #[.agg #[.int .i64 (wd : Int), x, y], .int .i64 (r : Int), .int .i64 (c : Int)] w fun e w' => e = .returned (.int .i64 (k : Int)) ∧ w.grownBy w' none := by
  have h0 : r * wd ≤ 4096 * 4096 := Nat.mul_le_mul hr hw
  have h1 := i64_in ((r : Int) * (wd : Int)) (by rw [← Int.natCast_mul]; omega)
  have h2 := i64_in ((r : Int) * (wd : Int) + (c : Int)) (by rw [← Int.natCast_mul]; omega)
  have h3 : (r : Int) * (wd : Int) + (c : Int) = (k : Int) := by rw [← Int.natCast_mul, ← Int.natCast_add, unhide hk]
  go_enter Tryz.func97, Tryz.ntmps97
  go_wp2
  go_ret
  exact ⟨rfl, grown_alloc (World.grownBy.refl _ _) _⟩

theorem made_z64 (n j : Nat) (hj : j < n * 64) : (madeCells (Value.agg #[.int .i64 0, .int .i64 0, .int .i64 0, .int .i64 0, .int .i64 0, .int .i64 0, .int .i64 0, .int .i64 0, .int .i64 0, .int .i64 0, .int .i64 0, .int .i64 0, .int .i64 0, .int .i64 0, .int .i64 0, .int .i64 0, .int .i64 0, .int .i64 0, .int .i64 0, .int .i64 0, .int .i64 0, .int .i64 0, .int .i64 0, .int .i64 0, .int .i64 0, .int .i64 0, .int .i64 0, .int .i64 0, .int .i64 0, .int .i64 0, .int .i64 0, .int .i64 0, .int .i64 0, .int .i64 0, .int .i64 0, .int .i64 0, .int .i64 0, .int .i64 0, .int .i64 0, .int .i64 0, .int .i64 0, .int .i64 0, .int .i64 0, .int .i64 0, .int .i64 0, .int .i64 0, .int .i64 0, .int .i64 0, .int .i64 0, .int .i64 0, .int .i64 0, .int .i64 0, .int .i64 0, .int .i64 0, .int .i64 0, .int .i64 0, .int .i64 0, .int .i64 0, .int .i64 0, .int .i64 0, .int .i64 0, .int .i64 0, .int .i64 0, .int .i64 0]).cells (n * 64))[j]? = some (.int .i64 0) := by
  have h : ∀ i, i < 64 → (sq zs64)[i]? = some (.int .i64 0) := fun i hi => by
    have e0 : zs64.getD i 0 = 0 := by unfold zs64; rw [List.getD_eq_getElem?_getD, List.getElem?_replicate]; split <;> rfl
    rw [sq_at zs64 i (by rw [zs64_len]; exact hi), e0]
  rw [← sq_z64]
  have e : (Value.agg (sq zs64)).cells = sq zs64 := rfl
  rw [e]
  unfold madeCells
  have h2 := h (j % 64) (Nat.mod_lt _ (by decide))
  have hs : (sq zs64).size = 64 := by rw [sq_size, zs64_len]
  simp [hj, hs]
  rw [getElem!_def, h2]

set_option maxRecDepth 20000 in
set_option maxHeartbeats 1600000 in
theorem gridPut (wd ht g cap r c : Nat) (L : List (List Int)) (B : List Int) (hB : B.length = 64) (hw : wd ≤ 4096) (hr : r ≤ 4096) (hc : c ≤ 4096) (k : Nat) (hk : Hid (r * wd + c = k)) (hkl : k < L.length) (w : World) (hT : Th_gridrows w g L) :
    Calls Tryz.prog 99 #[.agg #[.int .i64 (wd : Int), .int .i64 (ht : Int), .slice (some ⟨g, 0, none⟩) L.length cap], .int .i64 (r : Int), .int .i64 (c : Int), .agg (sq B)] w fun e w' => (∃ v, e = .returned v) ∧ Th_gridrows w' g (L.set k B) ∧ w.grownBy w' (some g) := by
  have HSL : Hid ((sq B).size = 64) := by unfold Hid; rw [sq_size, hB]
  obtain ⟨W0, hW0⟩ : ∃ W0, (w.alloc (.cells #[.int .i64 (wd : Int), .int .i64 (ht : Int), .slice (some ⟨g, 0, none⟩) L.length cap] 131)).alloc (.cells (sq B) 116) = W0 := ⟨_, rfl⟩
  have G0 : w.grownBy W0 none := by rw [← hW0]; exact grown_alloc (World.grownBy_alloc _ _ _) _
  have b0 : W0.heap[w.heap.size]? = some (.cells #[.int .i64 (wd : Int), .int .i64 (ht : Int), .slice (some ⟨g, 0, none⟩) L.length cap] 131 (0, 0)) := by rw [← hW0, Below.heap_alloc _ _ _ (by simp)]; exact heap_alloc_new w _
  have b1 : W0.heap[w.heap.size + 1]? = some (.cells (sq B) 116 (0, 0)) := by
    rw [← hW0]
    have := heap_alloc_new (w.alloc (.cells #[.int .i64 (wd : Int), .int .i64 (ht : Int), .slice (some ⟨g, 0, none⟩) L.length cap] 131)) (.cells (sq B) 116)
    simpa using this
  have HT0 := hide (hT.grown G0)
  have HW := hide hW0
  have B0 := hide b0
  have B1 := hide b1
  have HG0 := hide G0
  clear hW0 b0 b1 G0 hT
  go_enter Tryz.func99, Tryz.ntmps99
  go_wp2
  rw [unhide HW]
  clear HW
  refine wp_region_noPanic ?_
  refine wp_region_tailL 20 (fun W => W0.drew.grownBy W none) [true, true, true, true, true, false, true, false, false] (by kernel_rfl) (fun _ _ _ _ _ h => h) rfl (by decide) (by kernel_rfl) (World.grownBy.refl _ _) ?_
  have bD : W0.drew.heap[w.heap.size]? = some (.cells #[.int .i64 (wd : Int), .int .i64 (ht : Int), .slice (some ⟨g, 0, none⟩) L.length cap] 131 (0, 0)) := unhide B0
  have bE : W0.drew.heap[w.heap.size + 1]? = some (.cells (sq B) 116 (0, 0)) := unhide B1
  have tD : Th_gridrows W0.drew g L := (unhide HT0).same rfl
  have gD : w.grownBy W0.drew none := grown_drew (unhide HG0)
  generalize W0.drew = W1 at *
  clear B0 B1 HT0 HG0 W0
  have BD := hide bD
  have BE := hide bE
  have c2 : W1.cell? ⟨w.heap.size, 2, none⟩ = some (.slice (some ⟨g, 0, none⟩) L.length cap) := by rw [cell_of_row W1 _ 2 _ _ (0, 0) bD]; rfl
  have C2 := hide c2
  clear c2 bD bE
  refine heldF_take (v := ?_) (Or.inl ⟨by rfl, ?_⟩) ?_
  rotate_left 1
  · intro w' hSw
    go_simp
    try with_reducible rfl
  simp only [Act.put, List.setIfInBounds_toArray, List.set_cons_zero, List.set_cons_succ]
  refine heldF_take (v := ?_) (Or.inl ⟨by rfl, ?_⟩) ?_
  rotate_left 1
  · intro w' hSw
    have c2' := hSw.cell (unhide C2) (by simp)
    go_simp
    try with_reducible rfl
  simp only [Act.put, List.setIfInBounds_toArray, List.set_cons_zero, List.set_cons_succ]
  refine heldF_take (v := .agg #[.int .i64 (wd : Int), .int .i64 (ht : Int), .slice (some ⟨g, 0, none⟩) L.length cap]) (Or.inl ⟨by rfl, ?_⟩) ?_
  · intro w' hSw
    exact exec_row 131 _ rfl w.heap.size rfl _ _ (grown_atT hSw (unhide BD) (by simp)) _ Tryz.underlying131 rfl (by kernel_rfl)
  simp only [Act.put, List.setIfInBounds_toArray, List.set_cons_zero, List.set_cons_succ]
  iterate 2
    refine heldF_take (v := ?_) (Or.inl ⟨by rfl, ?_⟩) ?_
    rotate_left 1
    · intro w' hSw
      go_simp
      try with_reducible rfl
    simp only [Act.put, List.setIfInBounds_toArray, List.set_cons_zero, List.set_cons_succ]
  refine heldF_skip ?_
  refine heldF_take (v := .agg (sq B)) (Or.inl ⟨by rfl, ?_⟩) ?_
  · intro w' hSw
    exact exec_row 116 _ rfl (w.heap.size + 1) rfl _ _ (grown_atT hSw (unhide BE) (by simp)) _ Tryz.underlying116 rfl (by rw [unhide HSL]; kernel_rfl)
  simp only [Act.put, List.setIfInBounds_toArray, List.set_cons_zero, List.set_cons_succ]
  refine heldF_skip (heldF_skip (heldF_nil ?_))
  refine tailL_skip (tailL_skip (tailL_skip (tailL_skip (tailL_skip ?_))))
  refine tailL_step (fun K hK => ?_)
  go_simp
  refine (gridIndex wd r c _ _ hw hr hc k hk W1).mono ?_
  rintro e w4 ⟨rfl, g4⟩
  refine hK.out _ _ (.inr g4) (tailL_skip ?_)
  clear hK K
  try simp only [Act.put, List.setIfInBounds_toArray, List.set_cons_zero, List.set_cons_succ]
  have t4 := tD.grown g4
  have i0 : (0 : Int) ≤ (k : Int) := by omega
  have i1 : (k : Int) < (L.length : Int) := by omega
  refine tailL_step (fun K hK => ?_)
  go_simp
  refine hK.out _ _ (.inr g4) ?_
  clear hK K
  try simp only [Act.put, List.setIfInBounds_toArray, List.set_cons_zero, List.set_cons_succ]
  refine tailL_step (fun K hK => ?_)
  rw [if_pos (by rfl)]
  refine wp_store_mid 116 _ _ rfl g (k * 64) (sq B) (by rfl) rfl (by rw [unhide HSL]; exact t4.th k hkl) (by rw [unhide HSL]; kernel_rfl) (sq_one _) ?_
  refine hK.out _ _ (.inl rfl) (tailL_nil (NoPanic.normal ?_))
  clear hK K
  simp only [Act.put]
  have t5 := t4.put k hkl B hB
  have g5 := grown_cells g (B.map (Value.int .i64)) (k * 64) w4
  have e5 : (sq B).toList = B.map (Value.int .i64) := by simp [sq]
  rw [e5]
  generalize w4.setCells g (k * 64) (B.map (Value.int .i64)) = w5 at *
  go_wp2
  go_end0
  exact ⟨⟨_, rfl⟩, t5, grown_trans (grown_any (grown_trans gD g4)) g5⟩

theorem areaHas (a b r c : Int) (ha : 0 ≤ a ∧ a ≤ 4096) (hb : 0 ≤ b ∧ b ≤ 4096) (t : Bool) (HT : Hid ((decide (0 ≤ r ∧ r ≤ b - 1) && decide (0 ≤ c ∧ c ≤ a - 1)) = t)) (w : World) :
    Calls Tryz.prog 114 #[.agg #[.int .i64 a, .int .i64 b], .int .i64 r, .int .i64 c] w fun e w' => e = .returned (.bool t) ∧ w.grownBy w' none := by
  have h1 := i64_in (b - 1) (by omega)
  have h2 := i64_in (a - 1) (by omega)
  obtain ⟨t1, HT1⟩ : ∃ t1, Hid (decide (0 ≤ r ∧ r ≤ b - 1) = t1) := ⟨_, rfl⟩
  obtain ⟨t2, HT2⟩ : ∃ t2, Hid (decide (0 ≤ c ∧ c ≤ a - 1) = t2) := ⟨_, rfl⟩
  have HTT : Hid ((t1 && t2) = t) := by unfold Hid; rw [← unhide HT1, ← unhide HT2]; exact unhide HT
  clear HT
  go_enter Tryz.func114, Tryz.ntmps114
  go_wp2_with fail
  refine (inRange r 0 (b - 1) t1 HT1 _).mono ?_
  rintro e w1 ⟨rfl, rfl⟩
  cases t1
  · have ht : t = false := by rw [← unhide HTT]; rfl
    subst ht
    go_wp2
    go_ret
    exact ⟨rfl, grown_alloc (World.grownBy.refl _ _) _⟩
  · have ht : t = t2 := by rw [← unhide HTT]; rfl
    subst ht
    go_wp2_with fail
    refine (inRange c 0 (a - 1) t HT2 _).mono ?_
    rintro e w1 ⟨rfl, rfl⟩
    go_wp2
    go_ret
    exact ⟨rfl, grown_alloc (World.grownBy.refl _ _) _⟩

set_option maxRecDepth 20000 in
set_option maxHeartbeats 1600000 in
theorem newGrid (wd ht n : Nat) (hw : wd ≤ 1024) (hh : ht ≤ 1024) (hn : Hid (wd * ht = n)) (w : World) :
    Calls Tryz.prog 92 #[.agg #[.int .i64 (wd : Int), .int .i64 (ht : Int)]] w fun e w' => ∃ g cap, e = .returned (.agg #[.int .i64 (wd : Int), .int .i64 (ht : Int), .slice (some ⟨g, 0, none⟩) n cap]) ∧ Th_gridrows w' g (List.replicate n noughts) ∧ w.heap.size ≤ g ∧ w.grownBy w' none := by
  have hn1 : n ≤ 1048576 := by rw [← unhide hn]; exact Nat.mul_le_mul hw hh
  have hni : (wd : Int) * (ht : Int) = (n : Int) := by rw [← Int.natCast_mul, unhide hn]
  obtain ⟨i0, hi, hz0, hz1, hz2⟩ := info_parts (show (Tryz.prog.info? 116).map (fun i => (i.zero, i.size, i.bytes)) = some (some (.agg #[.int .i64 0, .int .i64 0, .int .i64 0, .int .i64 0, .int .i64 0, .int .i64 0, .int .i64 0, .int .i64 0, .int .i64 0, .int .i64 0, .int .i64 0, .int .i64 0, .int .i64 0, .int .i64 0, .int .i64 0, .int .i64 0, .int .i64 0, .int .i64 0, .int .i64 0, .int .i64 0, .int .i64 0, .int .i64 0, .int .i64 0, .int .i64 0, .int .i64 0, .int .i64 0, .int .i64 0, .int .i64 0, .int .i64 0, .int .i64 0, .int .i64 0, .int .i64 0, .int .i64 0, .int .i64 0, .int .i64 0, .int .i64 0, .int .i64 0, .int .i64 0, .int .i64 0, .int .i64 0, .int .i64 0, .int .i64 0, .int .i64 0, .int .i64 0, .int .i64 0, .int .i64 0, .int .i64 0, .int .i64 0, .int .i64 0, .int .i64 0, .int .i64 0, .int .i64 0, .int .i64 0, .int .i64 0, .int .i64 0, .int .i64 0, .int .i64 0, .int .i64 0, .int .i64 0, .int .i64 0, .int .i64 0, .int .i64 0, .int .i64 0, .int .i64 0]), 64, 512) by kernel_rfl)
  have HI := hide hi
  have HZ0 := hide hz0
  have HZ1 := hide hz1
  have HZ2 := hide hz2
  clear hi hz0 hz1 hz2
  obtain ⟨W0, hW0⟩ : ∃ W0, (w.alloc (.cells #[.int .i64 (wd : Int), .int .i64 (ht : Int)] 128)).alloc (.cells #[.int .i64 0, .int .i64 0, .slice none 0 0] 131) = W0 := ⟨_, rfl⟩
  have G0 : w.grownBy W0 none := by rw [← hW0]; exact grown_alloc (World.grownBy_alloc _ _ _) _
  have b0 : W0.heap[w.heap.size]? = some (.cells #[.int .i64 (wd : Int), .int .i64 (ht : Int)] 128 (0, 0)) := by rw [← hW0, Below.heap_alloc _ _ _ (by simp)]; exact heap_alloc_new w _
  have b1 : W0.heap[w.heap.size + 1]? = some (.cells #[.int .i64 0, .int .i64 0, .slice none 0 0] 131 (0, 0)) := by
    rw [← hW0]
    have := heap_alloc_new (w.alloc (.cells #[.int .i64 (wd : Int), .int .i64 (ht : Int)] 128)) (.cells #[.int .i64 0, .int .i64 0, .slice none 0 0] 131)
    simpa using this
  have s0 : W0.heap.size = w.heap.size + 2 := by rw [← hW0]; simp
  have HW := hide hW0
  have B0 := hide b0
  have B1 := hide b1
  have HG0 := hide G0
  clear hW0 b0 b1 G0
  go_enter Tryz.func92, Tryz.ntmps92
  go_wp2
  rw [unhide HW]
  clear HW
  refine wp_region_noPanic ?_
  refine wp_region_tailL 20 (fun W => W0.drew.grownBy W none) [true, true, false, false, false, false] (by kernel_rfl) (fun _ _ _ _ _ h => h) rfl (by decide) (by kernel_rfl) (World.grownBy.refl _ _) ?_
  have BD : Hid (W0.drew.heap[w.heap.size]? = some (.cells #[.int .i64 (wd : Int), .int .i64 (ht : Int)] 128 (0, 0))) := unhide B0
  have BE : Hid (W0.drew.heap[w.heap.size + 1]? = some (.cells #[.int .i64 0, .int .i64 0, .slice none 0 0] 131 (0, 0))) := unhide B1
  have gD : w.grownBy W0.drew none := grown_drew (unhide HG0)
  have sD : W0.drew.heap.size = w.heap.size + 2 := s0
  generalize W0.drew = W1 at *
  clear B0 B1 HG0 s0 W0
  iterate 2
    refine heldF_take (v := .agg #[.int .i64 (wd : Int), .int .i64 (ht : Int)]) (Or.inl ⟨by rfl, ?_⟩) ?_
    · intro w' hSw
      exact exec_row 128 _ rfl w.heap.size rfl _ _ (grown_atT hSw (unhide BD) (by simp)) _ Tryz.underlying128 rfl (by kernel_rfl)
    simp only [Act.put, List.setIfInBounds_toArray, List.set_cons_zero, List.set_cons_succ]
  refine heldF_skip (heldF_skip (heldF_skip (heldF_skip (heldF_nil ?_))))
  refine tailL_skip (tailL_skip ?_)
  refine tailL_step (fun K hK => ?_)
  go_simp
  refine (areaCount (wd : Int) (ht : Int) (by omega) (by omega) W1).mono ?_
  rintro e w4 ⟨rfl, g4⟩
  rw [hni]
  refine hK.out _ _ (.inr g4) ?_
  clear hK K
  try simp only [Act.put, List.setIfInBounds_toArray, List.set_cons_zero, List.set_cons_succ]
  refine tailL_step (fun K hK => ?_)
  rw [if_pos (by rfl)]
  obtain ⟨w5, hrun, r1, r2⟩ := run_make_full (P := Tryz.prog) w4 w.heap.size 129 116 i0 (.agg #[.int .i64 0, .int .i64 0, .int .i64 0, .int .i64 0, .int .i64 0, .int .i64 0, .int .i64 0, .int .i64 0, .int .i64 0, .int .i64 0, .int .i64 0, .int .i64 0, .int .i64 0, .int .i64 0, .int .i64 0, .int .i64 0, .int .i64 0, .int .i64 0, .int .i64 0, .int .i64 0, .int .i64 0, .int .i64 0, .int .i64 0, .int .i64 0, .int .i64 0, .int .i64 0, .int .i64 0, .int .i64 0, .int .i64 0, .int .i64 0, .int .i64 0, .int .i64 0, .int .i64 0, .int .i64 0, .int .i64 0, .int .i64 0, .int .i64 0, .int .i64 0, .int .i64 0, .int .i64 0, .int .i64 0, .int .i64 0, .int .i64 0, .int .i64 0, .int .i64 0, .int .i64 0, .int .i64 0, .int .i64 0, .int .i64 0, .int .i64 0, .int .i64 0, .int .i64 0, .int .i64 0, .int .i64 0, .int .i64 0, .int .i64 0, .int .i64 0, .int .i64 0, .int .i64 0, .int .i64 0, .int .i64 0, .int .i64 0, .int .i64 0, .int .i64 0]) 64 Tryz.underlying129 (unhide HI) (unhide HZ0) (unhide HZ1) .i64 .i64 n (by rw [unhide HZ2]; omega) (by unfold maxLen; omega) (by have := g4.size; omega)
  have t5 : Th_gridrows w5 w4.heap.size (List.replicate n noughts) := Th_gridrows.made r1 (fun j hj => by
    rw [Array.getElem?_toList]
    exact made_z64 n j hj)
  have T5 := hide t5
  have g5 := grown_trans g4 r2
  have b5 := grown_atT g5 (unhide BE) (by simp)
  clear t5 r1
  unfold Oper.wp
  simp only [execOp, Act.eval, Result.andThen, Sem.run_bind]
  go_simp
  refine hK.out _ _ (.inr g5) ?_
  clear hK K hrun
  try simp only [Act.put, List.setIfInBounds_toArray, List.set_cons_zero, List.set_cons_succ]
  refine tailL_step (fun K hK => ?_)
  go_simp
  refine hK.out _ _ (.inr g5) ?_
  clear hK K
  try simp only [Act.put, List.setIfInBounds_toArray, List.set_cons_zero, List.set_cons_succ]
  refine tailL_step (fun K hK => ?_)
  refine step_store_row (by rfl) 131 _ _ rfl (w.heap.size + 1) rfl #[.int .i64 (wd : Int), .int .i64 (ht : Int), .slice (some ⟨w4.heap.size, 0, none⟩) n n] rfl _ 131 b5 rfl (by kernel_rfl) (by simp [Value.oneCell']) ?_
  intro w6 hB6 g6
  refine hK.out _ _ (.inl rfl) (tailL_nil (NoPanic.normal ?_))
  clear hK K
  simp only [Act.put]
  have s4 := g4.size
  have t6 := (unhide T5).same (g6.block w4.heap.size (unhide T5).lt (by simp; omega))
  go_wp2
  refine bodyPost_ret (v := .agg #[.int .i64 (wd : Int), .int .i64 (ht : Int), .slice (some ⟨w4.heap.size, 0, none⟩) n n]) ?_ rfl ⟨w4.heap.size, n, rfl, t6, by omega, ?_⟩
  · rw [results_c1 rfl]
    exact run_loadVar_row w6 _ 131 131 _ (0, 0) _ hB6 Tryz.underlying131 rfl (by kernel_rfl)
  · exact grown_new (grown_trans gD g5) g6 (fun g e => by simp at e; omega)

end Go.Proofs.YtjkokbijnaodnaaGreat

namespace Go.Proofs.YtjkokbijnaodnaaGreat
open Go.RowKit

/-- Coefficients that are being made: in a box, with another one for the answer. -/
structure Em (w wr : World) (b0 : Obj) (pv : Value) (L : List (List (List Int))) (F : List Nat) : Prop where
  own : Ow3 wr pv L F
  nd : F.Nodup
  lo : ∀ g ∈ F, w.heap.size + 3 ≤ g
  fb : wr.heap[w.heap.size]? = some b0
  rb : wr.heap[w.heap.size + 1]? = some (.cells #[.slice none 0 0] 38 (0, 0))
  cb : wr.heap[w.heap.size + 2]? = some (.cells #[pv] 38 (0, 0))
  grown : w.grownBy wr none
theorem Em.size {w wr : World} {b0 : Obj} {pv : Value} {L : List (List (List Int))} {F : List Nat} (h : Em w wr b0 pv L F) : w.heap.size + 3 ≤ wr.heap.size := by
  have := (Array.getElem?_eq_some_iff.1 h.cb).1; omega
/-- Another row was written. -/
theorem Em.wr {w wr w' : World} {b0 : Obj} {pv : Value} {L : List (List (List Int))} {F G : List Nat} (h : Em w wr b0 pv L F) (g : Wr G wr w') (h1 : ∀ x ∈ G, w.heap.size + 3 ≤ x) (h2 : ∀ x ∈ F, x ∉ G) : Em w w' b0 pv L F := by
  have hs := h.size
  refine ⟨ok3.wr h.own g h2, h.nd, h.lo, (g.block _ (by omega) (fun e => ?_)).trans h.fb, (g.block _ (by omega) (fun e => ?_)).trans h.rb, (g.block _ (by omega) (fun e => ?_)).trans h.cb, g.new h.grown (fun x hx => by have := h1 x hx; omega)⟩
  all_goals have := h1 _ e; omega
theorem Em.new {w wr w' : World} {b0 : Obj} {pv : Value} {L : List (List (List Int))} {F : List Nat} (h : Em w wr b0 pv L F) (g : wr.grownBy w' none) : Em w w' b0 pv L F := h.wr (Wr.ofNone (F := []) g) (fun x hx => by simp at hx) (fun x _ => by simp)
/-- The box holds other ones. -/
theorem Em.put {w wr w' : World} {b0 : Obj} {pv pv' : Value} {L L' : List (List (List Int))} {F F' : List Nat} (h : Em w wr b0 pv L F) (g : Wr (blk pv) wr w') (ho : Ow3 w' pv' L' F') (hn : F'.Nodup) (hl : ∀ g ∈ F', w.heap.size + 3 ≤ g) (hb : ∀ g ∈ blk pv, w.heap.size + 3 ≤ g) : Em w (w'.setCell ⟨w.heap.size + 2, 0, none⟩ pv') b0 pv' L' F' := by
  have hs := h.size
  have G := grown_set w' (w.heap.size + 2) 0 pv'
  have hfb : w'.heap[w.heap.size]? = some b0 := (g.block _ (by omega) (fun e => by have := hb _ e; omega)).trans h.fb
  have hrb := (g.block (w.heap.size + 1) (by omega) (fun e => by have := hb _ e; omega)).trans h.rb
  have hcb := (g.block (w.heap.size + 2) (by omega) (fun e => by have := hb _ e; omega)).trans h.cb
  refine ⟨ok3.wr ho (Wr.ofRow (F := [w.heap.size + 2]) G (fun x e => by have := Option.some.inj e; simp [this])) (fun x hx e => by simp at e; have := hl x hx; omega), hn, hl, grown_atT G hfb (by simp), grown_atT G hrb (by simp), ?_, ?_⟩
  · exact heap_setCell_same w' _ 0 _ _ _ hcb
  · exact grown_new (g.new h.grown (fun x hx => by have := hb x hx; omega)) G (fun k e => by have := Option.some.inj e; omega)

theorem empty_next (bn : Nat → Nat) (i : Nat) : emptyG i bn ++ [List.replicate (bn i) noughts] = emptyG (i + 1) bn := by unfold emptyG; rw [List.range_succ, List.map_append]; rfl
theorem rep_next (k : Nat) : List.replicate k noughts ++ [noughts] = List.replicate (k + 1) noughts := by rw [List.replicate_succ']
theorem info_i11 : (Tryz.prog.info? 3).map (fun i => (i.zero, i.size, i.bytes)) = some (some (.int .i64 0), 1, 8) := by kernel_rfl

end Go.Proofs.YtjkokbijnaodnaaGreat

namespace Go.Proofs.YtjkokbijnaodnaaGreat
open Go.RowKit

theorem takeX_next {α : Type} (X : List α) (i : Nat) (h : i < X.length) : X.take i ++ [X[i]] = X.take (i + 1) := (List.take_succ_eq_append_getElem h).symm

end Go.Proofs.YtjkokbijnaodnaaGreat

namespace Go.Proofs.YtjkokbijnaodnaaGreat
open Go.RowKit Go.Shelf

theorem OwR.head {α : Type} {e : TypeId} {P : World → Value → α → List Nat → Prop} {w : World} {v : Value} {L : List α} {F : List Nat} (h : OwR e P w v L F) : ∀ x ∈ blk v, x ∈ F := by
  obtain ⟨us, Fs, _, _, _, _, rfl⟩ := h
  intro x hx
  simp [hx]
theorem OwR.none0 {α : Type} {e : TypeId} (P : World → Value → α → List Nat → Prop) {w : World} {v : Value} {base : Nat} (h : w.ownsRow base e 1 v 0 []) : OwR e P w v [] (blk v) :=
  ⟨[], [], rfl, rfl, own_base h (Nat.zero_le _), fun i hi => absurd hi (by simp), by simp⟩

end Go.Proofs.YtjkokbijnaodnaaGreat

namespace Go.Proofs.YtjkokbijnaodnaaGreat
open Go.RowKit

theorem step_append_rowsG {α : Type} {P : World → (Nat → Value) → α → List Nat → Prop} (hP : OkG P) {e T : TypeId} {sz bytes : Nat} {z : Value} (hT : Tryz.prog.underlying T = some (.slice e)) (hI : (Tryz.prog.info? e).map (fun i => (i.zero, i.size, i.bytes)) = some (some z, sz, bytes)) (hzs : z.cells.size = sz) (hsz : 0 < sz) (hbt : bytes ≤ 1000)
    {w : World} {ops : Array Oper} {o : Oper} {a : Act} {K : Act → World → Prop} {Q : Exit → Act → World → Prop} {E : Prop} (hgd : o.guard = none) (s x : Operand)
    (ho : o.op = .call { callee := .builtin .append, args := #[s, x], argTypes := #[T, T] })
    (v : Value) (L : List α) (F : List Nat) (hs : a.eval s = v) (hown : OwG e sz P w v L F) (hF : F.Nodup)
    (cs : Array Value) (m : Nat) (V : Nat → Nat → Value) (hcs : cs.toList = rowsK m sz V) (M : List α) (hM : M.length = m) (Gs : List (List Nat)) (hGs : Gs.length = m) (hu : ∀ i (h : i < M.length), P w (V i) M[i] (Gs.getD i [])) (hG : Gs.flatten.Nodup) (hd : ∀ x ∈ Gs.flatten, x ∉ F) (h1c : ∀ u ∈ cs.toList, u.oneCell' = true)
    (H : Nat) (hH : w.heap.size = H) (hx : a.eval x = .slice (some ⟨H, 0, none⟩) m m) (hm0 : 0 < m) (hb : L.length + m ≤ 1000000) (R : List α) (hR : L ++ M = R)
    (h : ∀ v' w' F', OwG e sz P w' v' R F' → F'.Nodup → (∀ x ∈ F', x ∈ F ∨ x ∈ Gs.flatten ∨ w.heap.size ≤ x) → Wr (blk v) w w' → K (a.put o.dst v') w') :
    if Region.wanted o (yielded ops a.tmps) = true then Oper.wp Tryz.prog o a (w.alloc (.cells cs e)) K Q else E := by
  subst hR
  subst hH
  obtain ⟨i0, hi, hz0, hz1, hz2⟩ := info_parts hI
  obtain ⟨U, Fs, l2, o1, els, rfl⟩ := hown
  have hn := List.nodup_append.1 hF
  have hbb : (L.length + m) * bytes ≤ 1000000 * 1000 := Nat.mul_le_mul hb hbt
  refine step_append_lies _ hgd s x T ho 0 e i0 _ sz bytes hT hi hz0 hz1 hz2 hzs hsz v L.length _ hs (o1.alloc _) ⟨w.heap.size, 0, none⟩ m m cs.toList hx (by rw [hcs, rowsK_len]) (World.news_of_block (cs := cs) (t := e) (fr := (0, 0)) (heap_alloc_new w _)) h1c hm0 (by unfold maxLen; omega) (by omega) (Nat.zero_le _) _ rfl ?_
  intro g0 cap0 w' h1 h2 h4' _
  obtain ⟨v', hv'⟩ : ∃ v', Value.slice (some ⟨g0, 0, none⟩) (L.length + m) cap0 = v' := ⟨_, rfl⟩
  have h4 : v'.ownBlock = v.ownBlock ∨ v'.ownBlock = some (w.alloc (.cells cs e)).heap.size := by
    rcases h4' with h5 | h5
    · left; rw [← hv', h5]; rfl
    · right; rw [← hv', ← h5]; rfl
  rw [hv'] at h1 ⊢
  clear hv' h4'
  have hga : w.grownBy w' v.ownBlock := ⟨h2.os, h2.tape, h2.output, by have h := h2.size; simp at h; omega, fun k hk hr => (h2.block k (by simp; omega) hr).trans (Below.heap_alloc _ _ _ hk)⟩
  have hw : Wr (blk v) w w' := Wr.ofRow hga (fun g e => mem_blk.2 e)
  have hvb : ∀ y, y ∈ blk v' → y ∈ blk v ∨ w.heap.size ≤ y := fun y hy => by
    rcases h4 with h4 | h4
    · exact .inl (mem_blk.2 (by rw [← h4]; exact mem_blk.1 hy))
    · have e1 := mem_blk.1 hy
      rw [h4] at e1
      have e2 : (w.alloc (.cells cs e)).heap.size = y := Option.some.inj e1
      exact .inr (by simp at e2; omega)
  have hfl : (Fs ++ Gs).flatten = Fs.flatten ++ Gs.flatten := by simp
  have hlt : ∀ y ∈ Fs.flatten, y < w.heap.size := fun y hy => by
    obtain ⟨l, hl, hyl⟩ := List.mem_flatten.1 hy
    obtain ⟨i, hi, rfl⟩ := List.mem_iff_getElem.1 hl
    exact hP.lt w _ _ _ (els i (by omega)) y (by simpa [hi] using hyl)
  have hltG : ∀ y ∈ Gs.flatten, y < w.heap.size := fun y hy => by
    obtain ⟨l, hl, hyl⟩ := List.mem_flatten.1 hy
    obtain ⟨i, hi, rfl⟩ := List.mem_iff_getElem.1 hl
    exact hP.lt w _ _ _ (hu i (by omega)) y (by simpa [hi] using hyl)
  refine h v' w' (blk v' ++ (Fs ++ Gs).flatten) ⟨fun i j => if i < L.length then U i j else V (i - L.length) j, Fs ++ Gs, by simp [l2, hGs, hM], ?_, fun i hi => ?_, rfl⟩ ?_ ?_ hw
  · rw [List.length_append, hM, ← rowsK_append L.length m sz hsz, ← hcs]; exact h1
  · by_cases hil : i < L.length
    · have e1 : (fun j => if i < L.length then U i j else V (i - L.length) j) = U i := by funext j; rw [if_pos hil]
      have e2 : (Fs ++ Gs).getD i [] = Fs.getD i [] := by simp [List.getElem?_append_left (show i < Fs.length by omega)]
      dsimp only
      rw [e1, e2, List.getElem_append_left hil]
      exact hP.wr (els i hil) hw (fun y hy hy2 => hn.2.2 y hy2 y (flat_in (by omega) y hy) rfl)
    · have him : i - L.length < M.length := by rw [List.length_append] at hi; omega
      have e1 : (fun j => if i < L.length then U i j else V (i - L.length) j) = V (i - L.length) := by funext j; rw [if_neg hil]
      have e2 : (Fs ++ Gs).getD i [] = Gs.getD (i - L.length) [] := by simp [List.getElem?_append_right (show Fs.length ≤ i by omega), l2]
      dsimp only
      rw [e1, e2, List.getElem_append_right (by omega)]
      exact hP.wr (hu (i - L.length) him) hw (fun y hy hy2 => hd y (flat_in (by omega) y hy) (by simp [hy2]))
  · rw [hfl]
    refine List.nodup_append.2 ⟨blk_nodup v', List.nodup_append.2 ⟨hn.2.1, hG, fun y hy z hz => ?_⟩, fun y hy z hz => ?_⟩
    · rintro rfl
      exact hd y hz (by simp [hy])
    · rintro rfl
      rcases List.mem_append.1 hz with hz | hz
      · rcases hvb y hy with h5 | h5
        · exact hn.2.2 y h5 y hz rfl
        · have := hlt y hz; omega
      · rcases hvb y hy with h5 | h5
        · exact hd y hz (by simp [h5])
        · have := hltG y hz; omega
  · intro y hy
    rw [hfl] at hy
    rcases List.mem_append.1 hy with hy | hy
    · rcases hvb y hy with h5 | h5
      · exact .inl (by simp [h5])
      · exact .inr (.inr h5)
    · rcases List.mem_append.1 hy with hy | hy
      · exact .inl (by simp [hy])
      · exact .inr (.inl hy)

end Go.Proofs.YtjkokbijnaodnaaGreat

namespace Go.Proofs.YtjkokbijnaodnaaGreat
open Go.RowKit Go.Shelf

/-- The cells of planes. -/
def plV (X : Array Value) (gv : Value) : Array Value := X ++ #[gv]
theorem plV_size {X : Array Value} (h : X.size = 21) (gv : Value) : (plV X gv).size = 22 := by simp [plV, h]
theorem plV_none : plV #[.int .i64 0, .int .i64 0, .int .i64 0, .int .i64 0, .int .i64 0, .int .i64 0, .int .i64 0, .int .i64 0, .int .i64 0, .int .i64 0, .int .i64 0, .int .i64 0, .int .i64 0, .int .i64 0, .int .i64 0, .int .i64 0, .int .i64 0, .int .i64 0, .int .i64 0, .int .i64 0, .int .i64 0] (.slice none 0 0) = #[.int .i64 0, .int .i64 0, .int .i64 0, .int .i64 0, .int .i64 0, .int .i64 0, .int .i64 0, .int .i64 0, .int .i64 0, .int .i64 0, .int .i64 0, .int .i64 0, .int .i64 0, .int .i64 0, .int .i64 0, .int .i64 0, .int .i64 0, .int .i64 0, .int .i64 0, .int .i64 0, .int .i64 0, .slice none 0 0] := rfl
theorem plV_one {X : Array Value} (h : X.all (·.oneCell') = true) {gv : Value} (hg : gv.oneCell' = true) : (plV X gv).all (·.oneCell') = true := by
  rw [Array.all_eq_true_iff_forall_mem] at h ⊢
  intro v hv
  simp only [plV, Array.mem_append, List.mem_toArray, List.mem_singleton] at hv
  rcases hv with hv | rfl
  · exact h v hv
  · exact hg
theorem pl_grids {X : Array Value} (h : X.size = 21) {gv : Value} {w : World} {b : Nat} {t : TypeId} (hb : w.heap[b]? = some (.cells (plV X gv) t (0, 0))) : w.cell? ⟨b, 21, none⟩ = some gv ∧ w.frozen? ⟨b, 21, none⟩ = false := by
  refine ⟨?_, frozen_of_row w b 21 _ _ hb⟩
  rw [cell_of_row w _ 21 _ _ (0, 0) hb]
  unfold plV
  rw [Array.getElem?_append_right (by omega), h]
  rfl
theorem pl_frame {X : Array Value} {gv : Value} {w : World} {b : Nat} {t : TypeId} (hb : w.heap[b]? = some (.cells (plV X gv) t (0, 0))) : ∀ j v, X[j]? = some v → w.cell? ⟨b, 0 + j, none⟩ = some v := by
  intro j v hv
  rw [Nat.zero_add, cell_of_row w _ j _ _ (0, 0) hb]
  have hj := (Array.getElem?_eq_some_iff.1 hv).1
  unfold plV
  rw [Array.getElem?_append_left hj]
  exact hv
theorem pl_set {X : Array Value} (h : X.size = 21) {gv : Value} {w : World} {b : Nat} {t : TypeId} (hb : w.heap[b]? = some (.cells (plV X gv) t (0, 0))) (gv' : Value) : (w.setCell ⟨b, 21, none⟩ gv').heap[b]? = some (.cells (plV X gv') t (0, 0)) := by
  have e : (plV X gv).setIfInBounds 21 gv' = plV X gv' := by
    unfold plV
    apply Array.ext_getElem?
    intro i
    rw [Array.getElem?_setIfInBounds]
    by_cases hi : 21 = i
    · subst hi
      rw [if_pos rfl, if_pos (by simp [h]), Array.getElem?_append_right (by omega), h]
      rfl
    · rw [if_neg hi]
      by_cases hl : i < X.size
      · rw [Array.getElem?_append_left hl, Array.getElem?_append_left hl]
      · rw [Array.getElem?_eq_none (by simp; omega), Array.getElem?_eq_none (by simp; omega)]
  rw [heap_setCell_same w b 21 _ _ _ hb, e]
theorem arr21 {X : Array Value} (h : X.size = 21) : ∃ x0 x1 x2 x3 x4 x5 x6 x7 x8 x9 x10 x11 x12 x13 x14 x15 x16 x17 x18 x19 x20, X = #[x0, x1, x2, x3, x4, x5, x6, x7, x8, x9, x10, x11, x12, x13, x14, x15, x16, x17, x18, x19, x20] := by
  obtain ⟨l⟩ := X
  have hl : l.length = 21 := by simpa using h
  match l, hl with
  | [x0, x1, x2, x3, x4, x5, x6, x7, x8, x9, x10, x11, x12, x13, x14, x15, x16, x17, x18, x19, x20], _ => exact ⟨x0, x1, x2, x3, x4, x5, x6, x7, x8, x9, x10, x11, x12, x13, x14, x15, x16, x17, x18, x19, x20, rfl⟩
/-- Planes of a frame and no grids yet. -/
theorem built_pl {X : Array Value} (h : X.size = 21) : Tryz.prog.built 105 [(0, .agg X)] = some (plV X (.slice none 0 0)) := by
  obtain ⟨x0, x1, x2, x3, x4, x5, x6, x7, x8, x9, x10, x11, x12, x13, x14, x15, x16, x17, x18, x19, x20, rfl⟩ := arr21 h
  kernel_rfl
theorem build_pl {ops : Array Oper} {rest : List Oper} {op : Oper} {a : Act} {w : World} {Q : Exit → Act → World → Prop} (hw : Region.wanted op (yielded ops a.tmps) = true) (x : Operand) (ho : op.op = .build 105 #[(0, x)]) (X : Array Value) (hs : X.size = 21) (hx : a.eval x = .agg X)
    (h : wpList Tryz.prog ops Q rest (a.put op.dst (.agg (plV X (.slice none 0 0)))) w) : wpList Tryz.prog ops Q (op :: rest) a w :=
  BigFrame.wpList_want hw fun K hK => by
    have hr := run_build (P := Tryz.prog) w 105 #[(0, .agg X)] _ (built_pl hs)
    unfold Oper.wp execOp
    simp only [ho, List.map_toArray, List.map_cons, List.map_nil, hx, Sem.run_bind, hr, Result.andThen_ok, Sem.run_pure]
    exact hK _ _ h

/-- New grids. -/
def newGr (n : Nat) (bw bh : Nat → Nat) : List Gd := (List.range n).map fun c => (bw c, bh c, List.replicate (bw c * bh c) noughts)
theorem newGr_next (bw bh : Nat → Nat) (i : Nat) : newGr i bw bh ++ [(bw i, bh i, List.replicate (bw i * bh i) noughts)] = newGr (i + 1) bw bh := by
  unfold newGr
  rw [List.range_succ, List.map_append]
  rfl
theorem newGr_len (n : Nat) (bw bh : Nat → Nat) : (newGr n bw bh).length = n := by simp [newGr]
theorem OwG.head {α : Type} {e : TypeId} {sz : Nat} {P : World → (Nat → Value) → α → List Nat → Prop} {w : World} {v : Value} {L : List α} {F : List Nat} (h : OwG e sz P w v L F) : ∀ x ∈ blk v, x ∈ F := by
  obtain ⟨U, Fs, _, _, _, rfl⟩ := h
  intro x hx
  simp [hx]
abbrev OwGr := OwG 131 3 GrP
theorem okGr : OwOk OwGr := OwG.ok GrP.ok

/-- Planes while they are made. -/
structure Ep (w wr : World) (X : Array Value) (gv : Value) (G : List Gd) (F : List Nat) : Prop where
  x : wr.heap[w.heap.size]? = some (.cells X 83 (0, 0))
  r : wr.heap[w.heap.size + 1]? = some (.cells #[.int .i64 0, .int .i64 0, .int .i64 0, .int .i64 0, .int .i64 0, .int .i64 0, .int .i64 0, .int .i64 0, .int .i64 0, .int .i64 0, .int .i64 0, .int .i64 0, .int .i64 0, .int .i64 0, .int .i64 0, .int .i64 0, .int .i64 0, .int .i64 0, .int .i64 0, .int .i64 0, .int .i64 0, .slice none 0 0] 105 (0, 0))
  all : wr.heap[w.heap.size + 2]? = some (.cells (plV X gv) 105 (0, 0))
  own : OwGr wr gv G F
  nd : F.Nodup
  lo : ∀ g ∈ F, w.heap.size + 3 ≤ g
  grown : w.grownBy wr none
theorem Ep.size {w wr : World} {X : Array Value} {gv : Value} {G : List Gd} {F : List Nat} (h : Ep w wr X gv G F) : w.heap.size + 3 ≤ wr.heap.size := (Array.getElem?_eq_some_iff.1 h.all).1
theorem Ep.new {w wr w' : World} {X : Array Value} {gv : Value} {G : List Gd} {F : List Nat} (h : Ep w wr X gv G F) (g : wr.grownBy w' none) : Ep w w' X gv G F :=
  ⟨grown_atT g h.x (by simp), grown_atT g h.r (by simp), grown_atT g h.all (by simp), okGr.keep h.own g, h.nd, h.lo, grown_trans h.grown g⟩

end Go.Proofs.YtjkokbijnaodnaaGreat

namespace Go.Proofs.YtjkokbijnaodnaaGreat
open Go.RowKit Go.Shelf

set_option maxRecDepth 20000 in
set_option maxHeartbeats 3200000 in
theorem emptyPlanes (X : Array Value) (hs : X.size = 21) (h1 : X.all (·.oneCell') = true) (n : Nat) (hn : n ≤ 4) (h4 : X[4]? = some (.int .i64 (n : Int))) (bw bh : Nat → Nat) (hbd : ∀ c, c < n → bw c ≤ 1024 ∧ bh c ≤ 1024)
    (HB : Hid (∀ c, c < n → ∀ W, Calls Tryz.prog 93 #[.agg X, .int .i64 (c : Int)] W fun e W' => e = .returned (.agg #[.int .i64 (bw c : Int), .int .i64 (bh c : Int)]) ∧ W.grownBy W' none)) (w : World) :
    Calls Tryz.prog 78 #[.agg X] w fun e w' => ∃ gv F, e = .returned (.agg (plV X gv)) ∧ OwGr w' gv (newGr n bw bh) F ∧ F.Nodup ∧ (∀ x ∈ F, w.heap.size ≤ x) ∧ w.grownBy w' none := by
  have HI : Hid ((Tryz.prog.info? 131).map (fun i => (i.zero, i.size, i.bytes)) = some (some (.agg #[.int .i64 0, .int .i64 0, .slice none 0 0]), 3, 40)) := by unfold Hid; kernel_rfl
  obtain ⟨W0, hW0⟩ : ∃ W0, (w.alloc (.cells X 83)).alloc (.cells #[.int .i64 0, .int .i64 0, .int .i64 0, .int .i64 0, .int .i64 0, .int .i64 0, .int .i64 0, .int .i64 0, .int .i64 0, .int .i64 0, .int .i64 0, .int .i64 0, .int .i64 0, .int .i64 0, .int .i64 0, .int .i64 0, .int .i64 0, .int .i64 0, .int .i64 0, .int .i64 0, .int .i64 0, .slice none 0 0] 105) = W0 := ⟨_, rfl⟩
  have G0 : w.grownBy W0 none := by rw [← hW0]; exact grown_alloc (World.grownBy_alloc _ _ _) _
  have b0 : W0.heap[w.heap.size]? = some (.cells X 83 (0, 0)) := by rw [← hW0, Below.heap_alloc _ _ _ (by simp)]; exact heap_alloc_new w _
  have b1 : W0.heap[w.heap.size + 1]? = some (.cells #[.int .i64 0, .int .i64 0, .int .i64 0, .int .i64 0, .int .i64 0, .int .i64 0, .int .i64 0, .int .i64 0, .int .i64 0, .int .i64 0, .int .i64 0, .int .i64 0, .int .i64 0, .int .i64 0, .int .i64 0, .int .i64 0, .int .i64 0, .int .i64 0, .int .i64 0, .int .i64 0, .int .i64 0, .slice none 0 0] 105 (0, 0)) := by
    rw [← hW0]
    have := heap_alloc_new (w.alloc (.cells X 83)) (.cells #[.int .i64 0, .int .i64 0, .int .i64 0, .int .i64 0, .int .i64 0, .int .i64 0, .int .i64 0, .int .i64 0, .int .i64 0, .int .i64 0, .int .i64 0, .int .i64 0, .int .i64 0, .int .i64 0, .int .i64 0, .int .i64 0, .int .i64 0, .int .i64 0, .int .i64 0, .int .i64 0, .int .i64 0, .slice none 0 0] 105)
    simpa using this
  have s0 : W0.heap.size = w.heap.size + 2 := by rw [← hW0]; simp
  have HW := hide hW0
  have B0 := hide b0
  have B1 := hide b1
  have HG0 := hide G0
  have HX4 := hide h4
  have HSX := hide hs
  have HBD := hide hbd
  have HX1 := hide h1
  have B2 : Hid ((W0.alloc (.cells #[.int .i64 0, .int .i64 0, .int .i64 0, .int .i64 0, .int .i64 0, .int .i64 0, .int .i64 0, .int .i64 0, .int .i64 0, .int .i64 0, .int .i64 0, .int .i64 0, .int .i64 0, .int .i64 0, .int .i64 0, .int .i64 0, .int .i64 0, .int .i64 0, .int .i64 0, .int .i64 0, .int .i64 0, .slice none 0 0] 105)).heap[w.heap.size + 2]? = some (.cells #[.int .i64 0, .int .i64 0, .int .i64 0, .int .i64 0, .int .i64 0, .int .i64 0, .int .i64 0, .int .i64 0, .int .i64 0, .int .i64 0, .int .i64 0, .int .i64 0, .int .i64 0, .int .i64 0, .int .i64 0, .int .i64 0, .int .i64 0, .int .i64 0, .int .i64 0, .int .i64 0, .int .i64 0, .slice none 0 0] 105 (0, 0))) := by unfold Hid; rw [← s0]; exact heap_alloc_new W0 _
  have HST : Hid (∀ w3 : World, w3.heap[w.heap.size + 2]? = some (.cells (plV X (.slice none 0 0)) 105 (0, 0)) → (W0.alloc (.cells #[.int .i64 0, .int .i64 0, .int .i64 0, .int .i64 0, .int .i64 0, .int .i64 0, .int .i64 0, .int .i64 0, .int .i64 0, .int .i64 0, .int .i64 0, .int .i64 0, .int .i64 0, .int .i64 0, .int .i64 0, .int .i64 0, .int .i64 0, .int .i64 0, .int .i64 0, .int .i64 0, .int .i64 0, .slice none 0 0] 105)).grownBy w3 (some (w.heap.size + 2)) → Ep w w3 X (.slice none 0 0) (newGr 0 bw bh) [] ∧ w3.cell? ⟨w.heap.size, 4, none⟩ = some (.int .i64 (n : Int))) := by
    intro w3 hB3 g3
    have ga : W0.grownBy (W0.alloc (.cells #[.int .i64 0, .int .i64 0, .int .i64 0, .int .i64 0, .int .i64 0, .int .i64 0, .int .i64 0, .int .i64 0, .int .i64 0, .int .i64 0, .int .i64 0, .int .i64 0, .int .i64 0, .int .i64 0, .int .i64 0, .int .i64 0, .int .i64 0, .int .i64 0, .int .i64 0, .int .i64 0, .int .i64 0, .slice none 0 0] 105)) none := World.grownBy_alloc _ _ _
    have g03 : w.grownBy w3 none := grown_new (grown_trans (unhide HG0) ga) g3 (fun g e => by simp at e; omega)
    have x3 := grown_atT g3 (grown_atT ga (unhide B0) (by simp)) (by simp)
    refine ⟨⟨x3, grown_atT g3 (grown_atT ga (unhide B1) (by simp)) (by simp), hB3, OwG.nil _ _ _ _, List.nodup_nil, fun g hg => by simp at hg, g03⟩, ?_⟩
    rw [cell_of_row w3 _ 4 _ _ (0, 0) x3]
    exact unhide HX4
  clear hW0 b0 b1 G0 h4 hs hbd h1
  go_enter Tryz.func78, Tryz.ntmps78
  go_wp2_with (first | (rw [unhide HW]; refine load_row rfl 83 _ rfl w.heap.size rfl X 83 (unhide B0) _ Tryz.underlying83 rfl (by rw [unhide HSX]; kernel_rfl) ?_) | (refine build_pl rfl _ rfl X (unhide HSX) rfl ?_) | (refine store_row rfl 105 _ _ rfl (w.heap.size + 2) (by rw [← s0]; rfl) (plV X (.slice none 0 0)) rfl #[.int .i64 0, .int .i64 0, .int .i64 0, .int .i64 0, .int .i64 0, .int .i64 0, .int .i64 0, .int .i64 0, .int .i64 0, .int .i64 0, .int .i64 0, .int .i64 0, .int .i64 0, .int .i64 0, .int .i64 0, .int .i64 0, .int .i64 0, .int .i64 0, .int .i64 0, .int .i64 0, .int .i64 0, .slice none 0 0] 105 (unhide B2) (by rw [plV_size (unhide HSX)]; rfl) (by rw [plV_size (unhide HSX)]; kernel_rfl) (plV_one (unhide HX1) rfl) ?_; intro w3 hB3 g3; obtain ⟨hE, x4⟩ := unhide HST w3 hB3 g3; have HE := hide hE; clear hB3 g3 hE))
  clear HW B0 B1 B2 HST
  clear x4
  go_loopw [9] (fun iv wr => ∃ (i : Nat) (gv : Value) (F : List Nat), i ≤ n ∧ iv = .int .i64 i ∧ Hid (Ep w wr X gv (newGr i bw bh) F)) (fun iv _ => n - (intOf iv).toNat)
  case atStart => exact ⟨0, _, _, Nat.zero_le _, rfl, HE⟩
  case round =>
    clear HE
    obtain ⟨i, gv, F, hi, rfl, hep⟩ := hrel
    by_cases hlt : i < n
    · have hltI : (i : Int) < (n : Int) := by omega
      go_wp2
      refine wp_region_noPanic ?_
      have ep1 := (unhide hep).new (grown_drew (World.grownBy.refl wr none))
      refine wp_region_tailL 20 (fun W => W.heap[w.heap.size]? = some (.cells X 83 (0, 0)) ∧ W.heap[w.heap.size + 2]? = some (.cells (plV X gv) 105 (0, 0))) [true, true, true, true, false, false, false, false, false, false] (by kernel_rfl) (fun _ _ _ _ _ h => h) rfl (by decide) (by kernel_rfl) ⟨ep1.x, ep1.all⟩ ?_
      generalize wr.drew = w4 at *
      have E4 := hide ep1
      clear ep1 hep
      refine heldF_take (v := ?_) (Or.inl ⟨by rfl, ?_⟩) ?_
      rotate_left 1
      · intro w' hSw
        clear hSw
        go_simp
        try with_reducible rfl
      simp only [Act.put, List.setIfInBounds_toArray, List.set_cons_zero, List.set_cons_succ]
      refine heldF_take (v := ?_) (Or.inl ⟨by rfl, ?_⟩) ?_
      rotate_left 1
      · intro w' hSw
        have cg := (pl_grids (unhide HSX) hSw.2).1
        clear hSw
        go_simp
        try with_reducible rfl
      simp only [Act.put, List.setIfInBounds_toArray, List.set_cons_zero, List.set_cons_succ]
      refine heldF_take (v := .agg X) (Or.inl ⟨by rfl, ?_⟩) ?_
      · intro w' hSw
        exact exec_row 83 _ rfl w.heap.size rfl _ _ hSw.1 _ Tryz.underlying83 rfl (by rw [unhide HSX]; kernel_rfl)
      simp only [Act.put, List.setIfInBounds_toArray, List.set_cons_zero, List.set_cons_succ]
      refine heldF_take (v := ?_) (Or.inl ⟨by rfl, ?_⟩) ?_
      rotate_left 1
      · intro w' hSw
        clear hSw
        go_simp
        try with_reducible rfl
      simp only [Act.put, List.setIfInBounds_toArray, List.set_cons_zero, List.set_cons_succ]
      refine heldF_skip (heldF_skip (heldF_skip (heldF_skip (heldF_skip (heldF_skip (heldF_nil ?_))))))
      refine tailL_skip (tailL_skip (tailL_skip (tailL_skip ?_)))
      refine tailL_step (fun K hK => ?_)
      go_simp
      refine (unhide HB i hlt w4).mono ?_
      rintro e w5 ⟨rfl, g5⟩
      have E5 := hide ((unhide E4).new g5)
      refine hK.out _ _ (.inr ⟨(unhide E5).x, (unhide E5).all⟩) ?_
      clear hK K g5 E4
      try simp only [Act.put, List.setIfInBounds_toArray, List.set_cons_zero, List.set_cons_succ]
      refine tailL_step (fun K hK => ?_)
      go_simp
      refine (newGrid (bw i) (bh i) _ (unhide HBD i hlt).1 (unhide HBD i hlt).2 rfl w5).mono ?_
      rintro e w6 ⟨g, cap, rfl, t6, hlo6, g6⟩
      have E6 := hide ((unhide E5).new g6)
      refine hK.out _ _ (.inr ⟨(unhide E6).x, (unhide E6).all⟩) ?_
      have T6 := hide t6
      have hl5 := (unhide E5).size
      have HNF : Hid (g ∉ F) := fun hg => by have := okGr.lt _ _ _ _ (unhide E5).own g hg; omega
      clear hK K g6 E5 t6
      try simp only [Act.put, List.setIfInBounds_toArray, List.set_cons_zero, List.set_cons_succ]
      obtain ⟨m, HM⟩ : ∃ m, Hid (bw i * bh i = m) := ⟨_, rfl⟩
      rw [unhide HM] at T6 ⊢
      refine tailL_step (fun K hK => ?_)
      go_simp
      have E7 := hide ((unhide E6).new (World.grownBy_alloc w6 (.cells #[.int .i64 (bw i : Int), .int .i64 (bh i : Int), .slice (some ⟨g, 0, none⟩) m cap] 131) none))
      refine hK.out _ _ (.inr ⟨(unhide E7).x, (unhide E7).all⟩) ?_
      clear hK K E7
      try simp only [Act.put, List.setIfInBounds_toArray, List.set_cons_zero, List.set_cons_succ]
      refine tailL_step (fun K hK => ?_)
      refine step_append_rowsG GrP.ok Tryz.underlying103 (unhide HI) rfl (by decide) (by decide) rfl _ _ rfl gv (newGr i bw bh) F rfl (unhide E6).own (unhide E6).nd _ 1 (fun _ j => (#[.int .i64 (bw i : Int), .int .i64 (bh i : Int), .slice (some ⟨g, 0, none⟩) m cap] : Array Value).getD j undef) rfl [(bw i, bh i, List.replicate m noughts)] rfl [[g]] rfl (fun j hj => ?_) (by simp) (fun x hx => by simp at hx; subst hx; exact unhide HNF) (by intro u hu; simp at hu; rcases hu with rfl | rfl | rfl <;> rfl) w6.heap.size rfl rfl (by decide) (by rw [newGr_len]; omega) (newGr (i + 1) bw bh) (by rw [← unhide HM]; exact newGr_next bw bh i) ?_
      · have hj0 : j = 0 := by simpa using hj
        subst hj0
        exact ⟨g, cap, rfl, rfl, by rw [List.getElem_cons_zero, List.length_replicate]; rfl, unhide T6, rfl⟩
      intro v8 w8 F8 o8 n8 m8 g8
      have hne : ∀ x ∈ blk gv, w.heap.size + 3 ≤ x := fun x hx => (unhide E6).lo x ((unhide E6).own.head x hx)
      have hs6 := (unhide E6).size
      have x8 : w8.heap[w.heap.size]? = some (.cells X 83 (0, 0)) := (g8.block _ (by omega) (fun e => by have := hne _ e; omega)).trans (unhide E6).x
      have r8 : w8.heap[w.heap.size + 1]? = some (.cells #[.int .i64 0, .int .i64 0, .int .i64 0, .int .i64 0, .int .i64 0, .int .i64 0, .int .i64 0, .int .i64 0, .int .i64 0, .int .i64 0, .int .i64 0, .int .i64 0, .int .i64 0, .int .i64 0, .int .i64 0, .int .i64 0, .int .i64 0, .int .i64 0, .int .i64 0, .int .i64 0, .int .i64 0, .slice none 0 0] 105 (0, 0)) := (g8.block _ (by omega) (fun e => by have := hne _ e; omega)).trans (unhide E6).r
      have a8 : w8.heap[w.heap.size + 2]? = some (.cells (plV X gv) 105 (0, 0)) := (g8.block _ (by omega) (fun e => by have := hne _ e; omega)).trans (unhide E6).all
      have gw8 : w.grownBy w8 none := Wr.new (unhide E6).grown g8 (fun x hx => by have := hne x hx; omega)
      have l8 : ∀ x ∈ F8, w.heap.size + 3 ≤ x := fun x hx => by
        rcases m8 x hx with h | h | h
        · exact (unhide E6).lo x h
        · simp at h; omega
        · omega
      refine hK.out _ _ (.inr ⟨x8, a8⟩) ?_
      obtain ⟨vo8, vc8, rfl⟩ := o8.form
      have ep9 : Ep w (w8.setCell ⟨w.heap.size + 2, 21, none⟩ (.slice vo8 (newGr (i + 1) bw bh).length vc8)) X (.slice vo8 (newGr (i + 1) bw bh).length vc8) (newGr (i + 1) bw bh) F8 := by
        have gs := grown_set w8 (w.heap.size + 2) 21 (.slice vo8 (newGr (i + 1) bw bh).length vc8)
        refine ⟨grown_atT gs x8 (by simp), grown_atT gs r8 (by simp), pl_set (unhide HSX) a8 _, okGr.wr o8 (Wr.ofRow (F := [w.heap.size + 2]) gs (fun q e => by have e9 := Option.some.inj e; simp [e9])) (fun x hx e => by simp at e; have := l8 x hx; omega), n8, l8, grown_new gw8 gs (fun q e => by simp at e; omega)⟩
      have E9 := hide ep9
      obtain ⟨ca, fa⟩ := pl_grids (unhide HSX) a8
      have X8 := hide x8
      have A8 := hide a8
      clear hK K ep9 o8 n8 m8 g8 x8 r8 a8 E6 T6 HNF l8 gw8 hne
      obtain ⟨ln, HLN⟩ : ∃ ln, Hid ((newGr (i + 1) bw bh).length = ln) := ⟨_, rfl⟩
      rw [unhide HLN] at E9 ⊢
      try simp only [Act.put, List.setIfInBounds_toArray, List.set_cons_zero, List.set_cons_succ]
      refine tailL_step (fun K hK => ?_)
      go_simp
      refine hK.out _ _ (.inr ⟨unhide X8, unhide A8⟩) ?_
      clear hK K
      try simp only [Act.put, List.setIfInBounds_toArray, List.set_cons_zero, List.set_cons_succ]
      refine tailL_step (fun K hK => ?_)
      go_simp
      refine hK.out _ _ (.inl rfl) (tailL_nil (NoPanic.normal ?_))
      clear hK K ca fa X8 A8
      generalize w8.setCell ⟨w.heap.size + 2, 21, none⟩ (.slice vo8 ln vc8) = w9 at *
      go_wp2
      go_roundw
      case rel => exact ⟨i + 1, _, F8, by omega, by go_num, E9⟩
      case measure => simp [intOf]; omega
    · obtain rfl : i = n := by omega
      obtain ⟨vo, vc, rfl⟩ := (unhide hep).own.form
      have ha := (unhide hep).all
      have hr := (unhide hep).r
      have hsz := (unhide hep).size
      go_wp2_with (first | (refine load_row rfl 105 _ rfl (w.heap.size + 2) rfl (plV X (.slice vo (newGr i bw bh).length vc)) 105 ha _ Tryz.underlying105 rfl (by rw [plV_size (unhide HSX)]; kernel_rfl) ?_) | (refine store_row rfl 105 _ _ rfl (w.heap.size + 1) rfl (plV X (.slice vo (newGr i bw bh).length vc)) rfl #[.int .i64 0, .int .i64 0, .int .i64 0, .int .i64 0, .int .i64 0, .int .i64 0, .int .i64 0, .int .i64 0, .int .i64 0, .int .i64 0, .int .i64 0, .int .i64 0, .int .i64 0, .int .i64 0, .int .i64 0, .int .i64 0, .int .i64 0, .int .i64 0, .int .i64 0, .int .i64 0, .int .i64 0, .slice none 0 0] 105 hr (by rw [plV_size (unhide HSX)]; rfl) (by rw [plV_size (unhide HSX)]; kernel_rfl) (plV_one (unhide HX1) rfl) ?_; intro w9 hB9 g9))
      refine bodyPost_ret (v := .agg (plV X (.slice vo (newGr i bw bh).length vc))) ?_ rfl ⟨_, F, rfl, ?_, (unhide hep).nd, fun x hx => by have := (unhide hep).lo x hx; omega, ?_⟩
      · rw [results_c1 rfl]
        exact run_loadVar_row w9 _ 105 105 _ (0, 0) _ hB9 Tryz.underlying105 rfl (by rw [plV_size (unhide HSX)]; kernel_rfl)
      · exact okGr.wr (unhide hep).own (Wr.ofRow (F := [w.heap.size + 1]) g9 (fun q e => by have e9 := Option.some.inj e; simp [e9])) (fun x hx e => by simp at e; have := (unhide hep).lo x hx; omega)
      · exact grown_new (unhide hep).grown g9 (fun q e => by simp at e; omega)

end Go.Proofs.YtjkokbijnaodnaaGreat
