/-
  Loops over an iterator whose bodies may return, and regions that draw their order inside of a round.
-/
import Derived.Test.YtkefpjbdkhifhaaRangeOwn
import Derived.Test.YtkefpjbdkhifhaaHeldTail
import Derived.OrdersIn
namespace Go.Proofs.Ytkefpjbdkhifhaa
open Go.RowKit Go.Shelf

section
variable {P : Program} {ops : Array Oper} {md : Region.Mode} {Q : Exit → Act → World → Prop}

def noDefer : List Oper → Bool
  | [] => true
  | o :: r => (match o.op with | .defer _ => false | _ => true) && noDefer r
theorem noDefer_at : ∀ {l : List Oper}, noDefer l = true → ∀ (i : Nat) (o : Oper), l[i]? = some o → ∀ c, o.op ≠ .defer c
  | [], _, i, o, h, _ => by simp at h
  | x :: r, hn, i, o, h, c => by
    simp only [noDefer, Bool.and_eq_true] at hn
    cases i with
    | zero =>
      have e : x = o := by simpa using h
      subst e
      intro e2
      simp [e2] at hn
    | succ i => exact noDefer_at hn.2 i o (by simpa using h) c

theorem rows_round {row : String} {args : Array Value} {w : World} {R : Value → World → Prop} (l n : Nat) (h : Rows P row args w R) : RowsIn (Fence.wide.inRound l) n P row args w R := fun c cs _ => by
  obtain ⟨v, w', r, s⟩ := h c cs
  refine ⟨v, w', r, ?_⟩
  rw [fenced_inRound]
  exact stepsIn_wide.2 s

theorem wpOp_round {l n i : Nat} {K : Act → World → Prop} {a : Act} {w : World} (hnd : ∀ (i : Nat) (o : Oper), ops[i]? = some o → ∀ c, o.op ≠ .defer c) (hQ : ∀ a w, ¬ Q .outgrown a w) (h : wpOp P ops Q i K a w) : wpOpIn (Fence.wide.inRound l) n P ops Q i K a w := by
  unfold wpOp at h
  unfold wpOpIn
  cases ho : ops[i]? with
  | none => simp only [ho] at h; exact h
  | some o =>
    simp only [ho] at h
    by_cases hw : Region.wanted o (yielded ops a.tmps) = true
    · simp only [hw, if_true] at h ⊢
      rcases h with h | ⟨_, a0, w0, hq⟩
      · unfold Oper.wp at h
        refine ⟨fun _ _ => trivial, ?_⟩
        rw [Oper.semAt_eq _ _ _ (hnd i o ho)]
        generalize (execOp a.eval o).run P w = r at h ⊢
        cases r with
        | ok x w' =>
          cases x with
          | enter f args => exact ⟨fun e => by simp [Fence.wide, Fence.inRound] at e, CallsIn.inRound l (callsIn_wide.2 h)⟩
          | row rw' args => exact ⟨fun e => by simp [Fence.wide, Fence.inRound] at e, rows_round l _ h⟩
          | _ => first | exact h | exact h.elim
        | halt x w' => cases x <;> first | exact h | exact h.elim
      · exact (hQ _ _ hq).elim
    · simp only [hw, if_false, Bool.false_eq_true] at h ⊢
      exact ⟨fun _ _ => trivial, h⟩

theorem wpAny_round {l n : Nat} (hnd : ∀ (i : Nat) (o : Oper), ops[i]? = some o → ∀ c, o.op ≠ .defer c) (hQ : ∀ a w, ¬ Q .outgrown a w) : ∀ (fuel : Nat) (listed : Array Bool) (a : Act) (w : World), wpAny P md ops Q fuel listed a w → wpAnyIn (Fence.wide.inRound l) n P md ops Q fuel listed a w
  | 0, _, _, _, h => h
  | fuel + 1, _, _, _, h => ⟨h.1, fun i hi => wpOpIn_mono (fun a' w' h' => wpAny_round hnd hQ fuel _ a' w' h') (wpOp_round hnd hQ (h.2 i hi))⟩
end

/-- A region that draws its order, inside of a round. -/
theorem wpIn_raw {P : Program} {id l0 n : Nat} {Q : Exit → Act → World → Prop} {a : Act} {w : World} {l : List Oper} (S : World → Prop) (ms : List Bool) (hm : P.follows .mixedOrders = true) (hQo : ∀ a w, ¬ Q .outgrown a w) (hQ : ∀ c a d v w, Q (.panic c) (Act.put a d v) w → Q (.panic c) a w)
    (hl : l.length = ms.length) (hnd : noDefer l = true) (hB : (Region.noSelect l.toArray && lexRaw .any l.toArray ms 0 (Array.replicate l.length false)) = true)
    (hS : S w.drew) (h : heldF P l.toArray S (fun a' => wpAnyH P .any l.toArray Q S (leftF ms) (listedOf ms 0 (Array.replicate l.length false)) a' w.drew) l ms a) : (Code.region id l.toArray true).wpIn (Fence.wide.inRound l0) n P Q a w := by
  rw [Bool.and_eq_true] at hB
  have := anyH_raw (P := P) (ops := l.toArray) (md := .any) (S := S) (Q := Q) (leftF ms) hB.1 hQ l ms 0 (Array.replicate l.length false) a w.drew hl (fun j hj => by simp) hB.2 hS h
  rw [count_all ms, ← hl] at this
  refine wpIn_region_any hm (wpAny_round (fun i o ho c => noDefer_at hnd i o (by simpa using ho) c) hQo _ _ _ _ ?_)
  have h2 := wpAny_of_held _ _ _ _ this
  rw [List.size_toArray]
  exact h2

/-- What an iterator gives a loop whose body may also return: all of S, or a beginning of it. -/
def Stops {α : Type} (P : Program) (g : Nat) (lb : Array Value) (encs : α → Array Value) (S : List α) (O : Nat → Prop) (w : World) : Prop :=
  ∀ (n l : Nat) (J : List α → World → Prop) (Jx : World → Prop) (W : World), But O w W → (∀ k, O k → k < W.heap.size) → l < W.heap.size → ¬ O l → w.heap.size ≤ l → LocalJ (fun k => O k ∨ k = l) J →
    (∀ pre x W1 m, J pre W1 → But (fun k => O k ∨ k = l) W W1 → pre ++ [x] <+: S → YieldAt Fence.wide m P l (encs x) W1 fun e W' => ((e = .returned (.bool true) ∧ J (pre ++ [x]) W') ∨ (e = .returned (.bool false) ∧ Jx W')) ∧ But (fun k => O k ∨ k = l) W1 W') → J [] W →
    CallsIn Fence.wide n P g (#[.func (.yield l) #[] #[]] ++ lb) W fun e W' => (∃ v, e = .returned v) ∧ (J S W' ∨ Jx W') ∧ But (fun k => O k ∨ k = l) W W'

/-- How the body of a round is left. -/
def onOrRet (R Rx : World → Prop) : Exit → Act → World → Prop
  | .normal, _, W' => R W'
  | .ret, _, W' => Rx W'
  | _, _, _ => False

theorem rangeFunc_stops {α : Type} {n : Nat} {P : Program} {g : Operand} {ps : Array Tmp} {assign body : Code} {Q : Exit → Act → World → Prop} {a : Act} {w : World}
    {gf : Nat} {lb : Array Value} (hg : a.eval g = .func (.func gf) #[] lb) (eg : ∀ args w, (callFunc gf args).run P w = .ok (.enter gf args) w)
    {encs : α → Array Value} {S : List α} {O : Nat → Prop} (hO : ∀ k, O k → k < w.heap.size) (hG : Stops P gf lb encs S O w) (hps : ∀ x, (encs x).size = ps.size)
    (I : List α → World → Prop) (hI : LocalJ O I) (Ix : World → Prop) (hIx : ∀ W W', Ix W → (∀ k, O k → W'.heap[k]? = W.heap[k]?) → Ix W') (h0 : I [] w) (a₁ : α → Act)
    (hassign : ∀ (l m : Nat) (x : α) (W : World) (K : Act → World → Prop), K (a₁ x) W →
      assign.wpIn (Fence.wide.inRound l) m P (Exit.then K (fun _ _ _ => False)) { tmps := (ps.zip (encs x)).foldl (fun t (p, v) => t.setIfInBounds p v) a.tmps, defers := [] } W)
    (hbody : ∀ (l m : Nat) (pre : List α) (x : α) (W : World), I pre W → But O w W → pre ++ [x] <+: S → body.wpIn (Fence.wide.inRound l) m P (onOrRet (fun W' => I (pre ++ [x]) W' ∧ But O W W') (fun W' => Ix W' ∧ But O W W')) (a₁ x) W)
    (hdone : ∀ (D : Nat) (W : World), w.heap.size ≤ D → I S W → But O w W → W.heap[D]? = some (.deferred (some [])) → Q .normal { a with defers := { target := .collected D, args := #[] } :: a.defers } W)
    (hstop : ∀ (D : Nat) (W : World), w.heap.size ≤ D → Ix W → But O w W → W.heap[D]? = some (.deferred (some [])) → Q .ret { a with defers := { target := .collected D, args := #[] } :: a.defers } W) :
    (Code.rangeFunc g ps assign body).wpIn Fence.wide n P Q a w := by
  refine wpIn_rangeFunc ?_
  intro fn hfn
  obtain ⟨R, hR⟩ : ∃ R : LoopState → Option Code → Loop, R = fun st pe => { state := st, pending := pe, fn, tmps := a.tmps, params := ps, assign, body, defers := w.heap.size } := ⟨_, rfl⟩
  obtain ⟨l, hl⟩ : ∃ l, w.heap.size + 1 = l := ⟨_, rfl⟩
  obtain ⟨W1, hW1⟩ : ∃ W1, (w.alloc (.deferred (some []))).alloc (.loop (R .ready none)) = W1 := ⟨_, rfl⟩
  have hs1 : W1.heap.size = w.heap.size + 2 := by rw [← hW1]; simp
  have hOl : ¬ O l := fun e => by have := hO l e; omega
  have hOD : ¬ O w.heap.size := fun e => by have := hO _ e; omega
  have hL1 : W1.heap[l]? = some (.loop (R .ready none)) := by
    rw [← hW1, ← hl]; have := World.alloc_heap_new (w.alloc (.deferred (some []))) (.loop (R .ready none)); rwa [World.size_alloc] at this
  have hD1 : W1.heap[w.heap.size]? = some (.deferred (some [])) := by
    rw [← hW1]; exact (Below.heap_alloc _ _ _ (by simp)).trans (World.alloc_heap_new w _)
  have b1 : ∀ O', But O' w W1 := fun O' => by
    rw [← hW1]; exact But.of_grown (grown_alloc (grown_alloc (World.grownBy.refl w none) _) _) (fun g e => by cases e)
  have hI1 : I [] W1 := hI _ _ _ h0 (fun k hk => (b1 (fun _ => False)).block k (hO k hk) (fun e => e))
  refine ⟨l, [{ target := .collected w.heap.size, args := #[] }], W1, { target := .fn (.func gf) lb, args := #[.func (.yield l) #[] #[]] }, W1, gf, #[.func (.yield l) #[] #[]] ++ lb, W1, ?_, ?_, fun _ _ => trivial, ?_, (fun h => by simp [Fence.wide] at h), ?_⟩
  · rw [← hW1, ← hl, hR]; exact run_enterLoop_outer _ _ _ _ _
  · simp only [resolve, hg]
    simp [go_sem]
  · simp [invoke, go_sem, eg]
  · have loc : LocalJ (fun k => O k ∨ k = l) (fun pre W => I pre W ∧ W.heap[l]? = some (.loop (R .ready none))) := fun pre W W' h hk => ⟨hI _ _ _ h.1 (fun k ok => hk k (.inl ok)), (hk l (.inr rfl)).trans h.2⟩
    refine (hG (n - 1) l _ (fun W => Ix W ∧ W.heap[l]? = some (.loop (R .done (some .ret)))) W1 (b1 O) (fun k hk => by have := hO k hk; omega) (by omega) hOl (by omega) loc ?_ ⟨hI1, hL1⟩).mono ?_
    · rintro pre x W m ⟨hi, hlW⟩ bW hlen
      have hlt : l < W.heap.size := (Array.getElem?_eq_some_iff.1 hlW).1
      have hy := run_yield (P := P) (args := encs x) hlW (by rw [hR]; exact hps x)
      rw [hR] at hy
      refine ⟨fn, _, assign, body, hy, roundIn_of_wpIn hfn (hassign l m x W _ ⟨_, run_beginRound hlW (by rw [hR]), ?_⟩)⟩
      clear hy
      obtain ⟨W2, hW2⟩ : ∃ W2, W.putObj l (.loop { R .ready none with state := .busy }) = W2 := ⟨_, rfl⟩
      rw [hW2]
      have hl2 : W2.heap[l]? = some (.loop { R .ready none with state := .busy }) := by rw [← hW2]; exact World.putObj_heap_same hlt
      have b2 : But (fun k => O k ∨ k = l) W W2 := by rw [← hW2]; exact But.putObj W l _ (.inr rfl)
      have hi2 : I pre W2 := hI _ _ _ hi (fun k hk => by rw [← hW2]; exact World.putObj_heap_other (fun e => hOl (by rw [← e]; exact hk)))
      have bw2 : But O w W2 := by
        have h := bW.trans b2
        exact ⟨h.os.trans (b1 O).os, h.tape.trans (b1 O).tape, h.output.trans (b1 O).output, Nat.le_trans (b1 O).size h.size, fun k hk ho => (h.block k (by omega) (fun e => by rcases e with e | e; exact ho e; omega)).trans ((b1 O).block k hk ho)⟩
      refine wpIn_mono (hbody l m pre x W2 hi2 bw2 hlen) ?_
      rintro e a3 W3 hp
      cases e with
      | normal =>
        obtain ⟨hi3, b3⟩ := hp
        have hl3 : W3.heap[l]? = some (.loop { R .ready none with state := .busy }) := (b3.block l (Array.getElem?_eq_some_iff.1 hl2).1 hOl).trans hl2
        have hlt3 : l < W3.heap.size := (Array.getElem?_eq_some_iff.1 hl3).1
        have he := run_endRound (P := P) none hl3
        have hi4 : I (pre ++ [x]) (W3.putObj l (.loop (R .ready none))) := hI _ _ _ hi3 (fun k hk => World.putObj_heap_other (fun e => hOl (by rw [← e]; exact hk)))
        have hl4 : (W3.putObj l (.loop (R .ready none))).heap[l]? = some (.loop (R .ready none)) := World.putObj_heap_same hlt3
        refine ⟨_, _, ?_, .inl ⟨rfl, hi4, hl4⟩, (b2.trans (b3.mono (fun k hk => .inl hk))).trans (But.putObj W3 l _ (.inr rfl))⟩
        rw [hR] at he ⊢
        exact he
      | ret =>
        obtain ⟨hi3, b3⟩ := hp
        have hl3 : W3.heap[l]? = some (.loop { R .ready none with state := .busy }) := (b3.block l (Array.getElem?_eq_some_iff.1 hl2).1 hOl).trans hl2
        have hlt3 : l < W3.heap.size := (Array.getElem?_eq_some_iff.1 hl3).1
        have he := run_endRound (P := P) (some .ret) hl3
        have hi4 : Ix (W3.putObj l (.loop (R .done (some .ret)))) := hIx _ _ hi3 (fun k hk => World.putObj_heap_other (fun e => hOl (by rw [← e]; exact hk)))
        have hl4 : (W3.putObj l (.loop (R .done (some .ret)))).heap[l]? = some (.loop (R .done (some .ret))) := World.putObj_heap_same hlt3
        refine ⟨_, _, ?_, .inr ⟨rfl, hi4, hl4⟩, (b2.trans (b3.mono (fun k hk => .inl hk))).trans (But.putObj W3 l _ (.inr rfl))⟩
        rw [hR] at he ⊢
        exact he
      | exit id => exact hp.elim
      | goto t => exact hp.elim
      | panic ch => exact hp.elim
      | outgrown => exact hp.elim
    · rintro e W5 ⟨⟨v, rfl⟩, hor, b5⟩
      have hD5 : W5.heap[w.heap.size]? = some (.deferred (some [])) := (b5.block w.heap.size (by omega) (fun e => by rcases e with e | e; exact hOD e; omega)).trans hD1
      have b6 : ∀ o, But (fun k => O k ∨ k = l) W1 (W5.putObj l o) := fun o => b5.trans (But.putObj W5 l o (.inr rfl))
      have b7 : ∀ o, But O w (W5.putObj l o) := fun o => ⟨(b6 o).os.trans (b1 O).os, (b6 o).tape.trans (b1 O).tape, (b6 o).output.trans (b1 O).output, Nat.le_trans (b1 O).size (b6 o).size, fun k hk ho => ((b6 o).block k (by omega) (fun e => by rcases e with e | e; exact ho e; omega)).trans ((b1 O).block k hk ho)⟩
      rcases hor with ⟨hi5, hl5⟩ | ⟨hi5, hl5⟩
      · have he := run_endLoop (P := P) hl5 (by rw [hR]; simp)
        exact ⟨none, _, by rw [hR] at he; exact he, hdone w.heap.size _ (Nat.le_refl _) (hI _ _ _ hi5 (fun k hk => World.putObj_heap_other (fun e => hOl (by rw [← e]; exact hk)))) (b7 _) ((World.putObj_heap_other (by omega)).trans hD5)⟩
      · have he := run_endLoop (P := P) hl5 (by rw [hR]; simp)
        refine ⟨some .ret, _, by rw [hR] at he; exact he, ?_⟩
        refine wpIn_ret ?_
        exact hstop w.heap.size _ (Nat.le_refl _) (hIx _ _ hi5 (fun k hk => World.putObj_heap_other (fun e => hOl (by rw [← e]; exact hk)))) (b7 _) ((World.putObj_heap_other (by omega)).trans hD5)

end Go.Proofs.Ytkefpjbdkhifhaa
